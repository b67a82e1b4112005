/-
  Texts of the proof, merged: QueryIsP, QueryAreP, StabP, SpanOwn, SpanApp, SpanLaws, SlEq.
-/
import Derived.Test.YtmkcfkblfjhnhaaDoorSP2
namespace Go.Proofs.YtmkcfkblfjhnhaaDoor
open Go.RowKit
set_option linter.unusedVariables false
set_option linter.unusedSimpArgs false
theorem box_cells4 {W w : World} {t : TypeId} {x y z u : Value} {b : Nat} (h : W.heap[b]? = some (.cells #[x, y, z, u] t (0, 0))) (hb : Below W.heap.size W w) :
    w.cell? ⟨b, 0, none⟩ = some x ∧ w.cell? ⟨b, 1, none⟩ = some y ∧ w.cell? ⟨b, 2, none⟩ = some z ∧ w.cell? ⟨b, 3, none⟩ = some u := by
  have hlt := (Array.getElem?_eq_some_iff.1 h).1
  have h' := (hb.block b hlt).trans h
  exact ⟨(cell_of_row w b 0 _ _ _ h').trans rfl, (cell_of_row w b 1 _ _ _ h').trans rfl, (cell_of_row w b 2 _ _ _ h').trans rfl, (cell_of_row w b 3 _ _ _ h').trans rfl⟩
theorem isField_yes (n : Int) (w : World) (h1 : 0 ≤ n) (h2 : n < 3) : Calls Tryd.prog 20 #[.int .i64 n] w fun e w' => e = .returned (.bool true) ∧ w' = w := by
  go_enter Tryd.func20, Tryd.ntmps20
  go_wp2
  go_ret
  exact ⟨rfl, rfl⟩
theorem isField_no (n : Int) (w : World) (h : ¬ (0 ≤ n ∧ n < 3)) : Calls Tryd.prog 20 #[.int .i64 n] w fun e w' => e = .returned (.bool false) ∧ w' = w := by
  by_cases h1 : 0 ≤ n
  · have h2 : ¬ n < 3 := fun g => h ⟨h1, g⟩
    clear h
    go_enter Tryd.func20, Tryd.ntmps20
    go_wp2
    go_ret
    exact ⟨rfl, rfl⟩
  · clear h
    go_enter Tryd.func20, Tryd.ntmps20
    go_wp2
    go_ret
    exact ⟨rfl, rfl⟩
theorem isTenant_yes (n : Int) (w : World) (h1 : 0 ≤ n) (h2 : n < 4) : Calls Tryd.prog 63 #[.int .i64 n] w fun e w' => e = .returned (.bool true) ∧ w' = w := by
  go_enter Tryd.func63, Tryd.ntmps63
  go_wp2
  go_ret
  exact ⟨rfl, rfl⟩
theorem isTenant_no (n : Int) (w : World) (h : ¬ (0 ≤ n ∧ n < 4)) : Calls Tryd.prog 63 #[.int .i64 n] w fun e w' => e = .returned (.bool false) ∧ w' = w := by
  by_cases h1 : 0 ≤ n
  · have h2 : ¬ n < 4 := fun g => h ⟨h1, g⟩
    clear h
    go_enter Tryd.func63, Tryd.ntmps63
    go_wp2
    go_ret
    exact ⟨rfl, rfl⟩
  · clear h
    go_enter Tryd.func63, Tryd.ntmps63
    go_wp2
    go_ret
    exact ⟨rfl, rfl⟩
theorem isQNum_yes (n : Int) (w : World) (h1 : 0 ≤ n) (h2 : n < 24) : Calls Tryd.prog 62 #[.int .i64 n] w fun e w' => e = .returned (.bool true) ∧ w' = w := by
  go_enter Tryd.func62, Tryd.ntmps62
  go_wp2
  go_ret
  exact ⟨rfl, rfl⟩
theorem isQNum_no (n : Int) (w : World) (h : ¬ (0 ≤ n ∧ n < 24)) : Calls Tryd.prog 62 #[.int .i64 n] w fun e w' => e = .returned (.bool false) ∧ w' = w := by
  by_cases h1 : 0 ≤ n
  · have h2 : ¬ n < 24 := fun g => h ⟨h1, g⟩
    clear h
    go_enter Tryd.func62, Tryd.ntmps62
    go_wp2
    go_ret
    exact ⟨rfl, rfl⟩
  · clear h
    go_enter Tryd.func62, Tryd.ntmps62
    go_wp2
    go_ret
    exact ⟨rfl, rfl⟩
/-- Can a field have the values from l to h? -/
theorem isFieldRange_is (l h : Int) (w : World) : Calls Tryd.prog 48 #[.int .i64 l, .int .i64 h] w fun e w' => e = .returned (.bool (decide (0 ≤ l ∧ l ≤ h) && decide (h ≤ 99))) ∧ w' = w := by
  obtain ⟨r, hr⟩ : ∃ r, (decide (0 ≤ l ∧ l ≤ h) && decide (h ≤ 99)) = r := ⟨_, rfl⟩
  rw [hr]
  by_cases h2 : 0 ≤ l
  · by_cases h3 : l ≤ h
    · by_cases h4 : h ≤ 99
      · have HX := trivial
        have HT : Hid (r = true) := Lib.hid (by rw [← hr, decide_eq_true (And.intro h2 h3), decide_eq_true h4]; rfl)
        clear HX hr
        go_enter Tryd.func48, Tryd.ntmps48
        go_wp2
        go_ret
        exact ⟨ret_b HT.out.symm, rfl⟩
      · have HX := trivial
        have HT : Hid (r = false) := Lib.hid (by rw [← hr, decide_eq_false h4, Bool.and_false])
        clear HX hr
        go_enter Tryd.func48, Tryd.ntmps48
        go_wp2
        go_ret
        exact ⟨ret_b HT.out.symm, rfl⟩
    · have HX := trivial
      have HT : Hid (r = false) := Lib.hid (by rw [← hr, decide_eq_false (fun g => h3 g.2), Bool.false_and])
      clear HX hr
      go_enter Tryd.func48, Tryd.ntmps48
      go_wp2
      go_ret
      exact ⟨ret_b HT.out.symm, rfl⟩
  · have HX := trivial
    have HT : Hid (r = false) := Lib.hid (by rw [← hr, decide_eq_false (fun g => h2 g.1), Bool.false_and])
    clear HX hr
    go_enter Tryd.func48, Tryd.ntmps48
    go_wp2
    go_ret
    exact ⟨ret_b HT.out.symm, rfl⟩
set_option maxHeartbeats 4000000 in
set_option maxRecDepth 100000 in
theorem implIsCond (f l h : Int) (w : World) : Calls Tryd.prog 73 #[condV f l h] w fun e w' => e = .returned (.bool (condB (f, l, h))) ∧ Below w.heap.size w w' := by
  have hb : Below w.heap.size w (w.alloc (.cells #[.int .i64 f, .int .i64 l, .int .i64 h] 92)) := (Below.refl _ w).alloc (Nat.le_refl _) _
  by_cases h1 : 0 ≤ f ∧ f < 3
  · have H1 := Lib.hid (fun w => isField_yes f w h1.1 h1.2)
    have H2 := Lib.hid (fun w => isFieldRange_is l h w)
    have HE : Hid (condB (f, l, h) = (decide (0 ≤ l ∧ l ≤ h) && decide (h ≤ 99))) := Lib.hid (by unfold condB; rw [decide_eq_true (by omega : 0 ≤ f ∧ f ≤ 2), Bool.true_and])
    clear h1
    generalize (decide (0 ≤ l ∧ l ≤ h) && decide (h ≤ 99)) = r at *
    go_enter Tryd.func73, Tryd.ntmps73
    go_wp2_with fail
    refine (H1.out _).mono ?_
    rintro e w1 ⟨rfl, rfl⟩
    go_wp2_with fail
    refine (H2.out _).mono ?_
    rintro e w1 ⟨rfl, rfl⟩
    go_wp2
    go_ret
    exact ⟨ret_b HE.out.symm, hb⟩
  · have H1 := Lib.hid (fun w => isField_no f w h1)
    have HT : Hid (condB (f, l, h) = false) := Lib.hid (by unfold condB; rw [decide_eq_false (by omega : ¬ (0 ≤ f ∧ f ≤ 2)), Bool.false_and])
    clear h1
    go_enter Tryd.func73, Tryd.ntmps73
    go_wp2_with fail
    refine (H1.out _).mono ?_
    rintro e w1 ⟨rfl, rfl⟩
    go_wp2
    go_ret
    exact ⟨ret_b HT.out.symm, hb⟩
/-- Are these the conditions of a query? -/
def condsV (cs : List CondD) : Bool := decide (cs.length ≤ 3) && condsB cs
theorem condsV_bad {cs : List CondD} {k : Nat} (hk : k < cs.length) (h : condB (cs.getD k c0D) = false ∨ (0 < k ∧ ¬ (cs.getD (k - 1) c0D).1 < (cs.getD k c0D).1)) : condsV cs = false := by
  unfold condsV; rw [condsB_bad hk h, Bool.and_false]
set_option maxHeartbeats 8000000 in
set_option maxRecDepth 100000 in
theorem areValid_any (v : Value) (cs : List CondD) (w : World) (h : CondsR w v cs) (hn : cs.length ≤ 1048576) :
    Calls Tryd.prog 64 #[v] w fun e w' => e = .returned (.bool (condsV cs)) ∧ Below w.heap.size w w' := by
  have H := Lib.hid h
  obtain ⟨a, cap, rfl⟩ := condsR_len h
  clear h
  by_cases hbig : 3 < cs.length
  · have HF : Hid (condsV cs = false) := Lib.hid (by unfold condsV; rw [decide_eq_false (by omega)]; simp)
    have i0 : (3 : Int) < (cs.length : Int) := by omega
    have hd : decide ((3 : Int) < (cs.length : Int)) = true := decide_eq_true i0
    have hdn : decide (3 < cs.length) = true := decide_eq_true hbig
    go_enter Tryd.func64, Tryd.ntmps64
    go_wp2
    go_ret
    exact ⟨ret_b HF.out.symm, Below.refl _ _⟩
  have HT : Hid (CondsTo cs cs.length → condsV cs = true) := Lib.hid (fun g => by unfold condsV; rw [decide_eq_true (by omega), condsB_all g]; rfl)
  have hd : decide ((3 : Int) < (cs.length : Int)) = false := decide_eq_false (by omega)
  have hdn : decide (3 < cs.length) = false := decide_eq_false hbig
  clear hbig
  go_enter Tryd.func64, Tryd.ntmps64
  go_wp2
  clear hd hdn
  go_loopw [10] (fun i wr => ∃ k : Nat, k ≤ cs.length ∧ i = .int .i64 k ∧ Hid (CondsTo cs k) ∧ Below w.heap.size w wr) (fun i _ => cs.length - (intOf i).toNat)
  case atStart => exact ⟨0, Nat.zero_le _, rfl, Lib.hid (fun i hi => by omega), Below.refl _ _⟩
  case round =>
    obtain ⟨k, hk, rfl, hall, hbel⟩ := hrel
    by_cases hlt : k < cs.length
    · have H1 := Lib.hid (condsR_below H.out hbel)
      obtain ⟨b, off, cap', hv, hbl, hc1, hc2, hc3⟩ := condsR_at H1.out hlt
      simp only [Value.slice.injEq] at hv
      obtain ⟨rfl, _, rfl⟩ := hv
      have HBAD := Lib.hid (condsV_bad (cs := cs) (k := k) hlt)
      have HSTEP := Lib.hid (condsTo_step hall.out)
      have HR0 : Hid (∀ w, Calls Tryd.prog 73 #[condV (cs.getD k c0D).1 (cs.getD k c0D).2.1 (cs.getD k c0D).2.2] w fun e w' => e = .returned (.bool (condB (cs.getD k c0D))) ∧ Below w.heap.size w w') := Lib.hid (fun w => implIsCond (cs.getD k c0D).1 (cs.getD k c0D).2.1 (cs.getD k c0D).2.2 w)
      have i1 : (0 : Int) ≤ (k : Int) := by omega
      have i2 : (k : Int) < (cs.length : Int) := by omega
      clear hall
      cases hrb : condB (cs.getD k c0D) with
      | false =>
        have HF := Lib.hid (HBAD.out (Or.inl hrb))
        have HR := Lib.hid (fun w => (HR0.out w))
        rw [hrb] at HR
        clear hrb HBAD HSTEP H1 HR0
        generalize (cs.getD k c0D).1 = cf at *
        generalize (cs.getD k c0D).2.1 = cl at *
        generalize (cs.getD k c0D).2.2 = ch at *
        go_wp2
        have hW : Below wr.heap.size wr (wr.alloc (.cells #[.int .i64 cf, .int .i64 cl, .int .i64 ch] 92)) := (Below.refl _ wr).alloc (Nat.le_refl _) _
        have g0 := heap_alloc_new wr (.cells #[.int .i64 cf, .int .i64 cl, .int .i64 ch] 92)
        have hlt2 : wr.heap.size < (wr.alloc (.cells #[.int .i64 cf, .int .i64 cl, .int .i64 ch] 92)).heap.size := by simp
        generalize wr.alloc (.cells #[.int .i64 cf, .int .i64 cl, .int .i64 ch] 92) = W at *
        have q0 := cell_of_row W _ 0 _ _ _ g0
        have q1 := cell_of_row W _ 1 _ _ _ g0
        have q2 := cell_of_row W _ 2 _ _ _ g0
        simp at q0 q1 q2
        refine wp_region_held_drew (S := fun w' => w'.cell? ⟨wr.heap.size, 0, none⟩ = some (.int .i64 cf) ∧ w'.cell? ⟨wr.heap.size, 1, none⟩ = some (.int .i64 cl) ∧ w'.cell? ⟨wr.heap.size, 2, none⟩ = some (.int .i64 ch)) (by kernel_rfl) ⟨q0, q1, q2⟩ (fun hHeld => ?_)
        refine take_runs (i := 0) (v := ?_) (by simp only [List.getElem?_toArray, List.getElem?_cons_succ, List.getElem?_cons_zero]; rfl) (by kernel_rfl) (by kernel_rfl) (by kernel_rfl) rfl (by exact fun _ _ _ h => h) (by rfl) ?_ (by assumption) ?_
        rotate_left
        · intro w hSw; (try dsimp only at hSw); go_simp; try (with_reducible rfl)
        try simp only [Act.put, List.setIfInBounds_toArray, List.set_cons_zero, List.set_cons_succ]
        refine wpAnyH_ready (rs := [1]) (by kernel_rfl) (by simp) ?_
        refine AllReadyH.cons (o := _) (by simp only [List.getElem?_toArray, List.getElem?_cons_succ, List.getElem?_cons_zero]; rfl) (fun K hK => ?_) AllReadyH.nil
        go_simp
        refine (HR.out _).mono ?_
        rintro e w8 ⟨rfl, b9⟩
        have b10 : Below W.heap.size W w8 := ⟨b9.os, b9.tape, b9.output, b9.size, b9.block⟩
        have s0 := (b10.cell (p := ⟨wr.heap.size, 0, none⟩) hlt2).trans q0
        have s1 := (b10.cell (p := ⟨wr.heap.size, 1, none⟩) hlt2).trans q1
        have s2 := (b10.cell (p := ⟨wr.heap.size, 2, none⟩) hlt2).trans q2
        refine hK.out _ _ ⟨s0, s1, s2⟩ (fun hHeld => ?_)
        clear hK K
        try simp only [Act.put, List.setIfInBounds_toArray, List.set_cons_zero, List.set_cons_succ]
        refine take_runs (i := 2) (v := ?_) (by simp only [List.getElem?_toArray, List.getElem?_cons_succ, List.getElem?_cons_zero]; rfl) (by kernel_rfl) (by kernel_rfl) (by kernel_rfl) rfl (by exact fun _ _ _ h => h) (by rfl) ?_ (by assumption) ?_
        rotate_left
        · intro w hSw; (try dsimp only at hSw); go_simp; try (with_reducible rfl)
        try simp only [Act.put, List.setIfInBounds_toArray, List.set_cons_zero, List.set_cons_succ]
        refine take_runs (i := 3) (v := ?_) (by simp only [List.getElem?_toArray, List.getElem?_cons_succ, List.getElem?_cons_zero]; rfl) (by kernel_rfl) (by kernel_rfl) (by kernel_rfl) rfl (by exact fun _ _ _ h => h) (by rfl) ?_ (by assumption) ?_
        rotate_left
        · intro w hSw; (try dsimp only at hSw); go_simp; try (with_reducible rfl)
        try simp only [Act.put, List.setIfInBounds_toArray, List.set_cons_zero, List.set_cons_succ]
        refine take_over (i := 4) (by simp only [List.getElem?_toArray, List.getElem?_cons_succ, List.getElem?_cons_zero]; rfl) (by kernel_rfl) (by kernel_rfl) (by kernel_rfl) rfl (by exact fun _ _ _ h => h) (by rfl) (by assumption) ?_
        try simp only [Act.put, List.setIfInBounds_toArray, List.set_cons_zero, List.set_cons_succ]
        refine take_over (i := 5) (by simp only [List.getElem?_toArray, List.getElem?_cons_succ, List.getElem?_cons_zero]; rfl) (by kernel_rfl) (by kernel_rfl) (by kernel_rfl) rfl (by exact fun _ _ _ h => h) (by rfl) (by assumption) ?_
        try simp only [Act.put, List.setIfInBounds_toArray, List.set_cons_zero, List.set_cons_succ]
        refine take_over (i := 6) (by simp only [List.getElem?_toArray, List.getElem?_cons_succ, List.getElem?_cons_zero]; rfl) (by kernel_rfl) (by kernel_rfl) (by kernel_rfl) rfl (by exact fun _ _ _ h => h) (by rfl) (by assumption) ?_
        try simp only [Act.put, List.setIfInBounds_toArray, List.set_cons_zero, List.set_cons_succ]
        refine take_over (i := 7) (by simp only [List.getElem?_toArray, List.getElem?_cons_succ, List.getElem?_cons_zero]; rfl) (by kernel_rfl) (by kernel_rfl) (by kernel_rfl) rfl (by exact fun _ _ _ h => h) (by rfl) (by assumption) ?_
        try simp only [Act.put, List.setIfInBounds_toArray, List.set_cons_zero, List.set_cons_succ]
        refine take_over (i := 8) (by simp only [List.getElem?_toArray, List.getElem?_cons_succ, List.getElem?_cons_zero]; rfl) (by kernel_rfl) (by kernel_rfl) (by kernel_rfl) rfl (by exact fun _ _ _ h => h) (by rfl) (by assumption) ?_
        try simp only [Act.put, List.setIfInBounds_toArray, List.set_cons_zero, List.set_cons_succ]
        refine take_over (i := 9) (by simp only [List.getElem?_toArray, List.getElem?_cons_succ, List.getElem?_cons_zero]; rfl) (by kernel_rfl) (by kernel_rfl) (by kernel_rfl) rfl (by exact fun _ _ _ h => h) (by rfl) (by assumption) ?_
        try simp only [Act.put, List.setIfInBounds_toArray, List.set_cons_zero, List.set_cons_succ]
        refine take_over (i := 10) (by simp only [List.getElem?_toArray, List.getElem?_cons_succ, List.getElem?_cons_zero]; rfl) (by kernel_rfl) (by kernel_rfl) (by kernel_rfl) rfl (by exact fun _ _ _ h => h) (by rfl) (by assumption) ?_
        try simp only [Act.put, List.setIfInBounds_toArray, List.set_cons_zero, List.set_cons_succ]
        refine take_over (i := 11) (by simp only [List.getElem?_toArray, List.getElem?_cons_succ, List.getElem?_cons_zero]; rfl) (by kernel_rfl) (by kernel_rfl) (by kernel_rfl) rfl (by exact fun _ _ _ h => h) (by rfl) (by assumption) ?_
        try simp only [Act.put, List.setIfInBounds_toArray, List.set_cons_zero, List.set_cons_succ]
        refine take_over (i := 12) (by simp only [List.getElem?_toArray, List.getElem?_cons_succ, List.getElem?_cons_zero]; rfl) (by kernel_rfl) (by kernel_rfl) (by kernel_rfl) rfl (by exact fun _ _ _ h => h) (by rfl) (by assumption) ?_
        try simp only [Act.put, List.setIfInBounds_toArray, List.set_cons_zero, List.set_cons_succ]
        refine take_over (i := 13) (by simp only [List.getElem?_toArray, List.getElem?_cons_succ, List.getElem?_cons_zero]; rfl) (by kernel_rfl) (by kernel_rfl) (by kernel_rfl) rfl (by exact fun _ _ _ h => h) (by rfl) (by assumption) ?_
        try simp only [Act.put, List.setIfInBounds_toArray, List.set_cons_zero, List.set_cons_succ]
        refine take_over (i := 14) (by simp only [List.getElem?_toArray, List.getElem?_cons_succ, List.getElem?_cons_zero]; rfl) (by kernel_rfl) (by kernel_rfl) (by kernel_rfl) rfl (by exact fun _ _ _ h => h) (by rfl) (by assumption) ?_
        try simp only [Act.put, List.setIfInBounds_toArray, List.set_cons_zero, List.set_cons_succ]
        refine take_over (i := 15) (by simp only [List.getElem?_toArray, List.getElem?_cons_succ, List.getElem?_cons_zero]; rfl) (by kernel_rfl) (by kernel_rfl) (by kernel_rfl) rfl (by exact fun _ _ _ h => h) (by rfl) (by assumption) ?_
        try simp only [Act.put, List.setIfInBounds_toArray, List.set_cons_zero, List.set_cons_succ]
        refine take_over (i := 16) (by simp only [List.getElem?_toArray, List.getElem?_cons_succ, List.getElem?_cons_zero]; rfl) (by kernel_rfl) (by kernel_rfl) (by kernel_rfl) rfl (by exact fun _ _ _ h => h) (by rfl) (by assumption) ?_
        try simp only [Act.put, List.setIfInBounds_toArray, List.set_cons_zero, List.set_cons_succ]
        refine take_runs (i := 17) (v := ?_) (by simp only [List.getElem?_toArray, List.getElem?_cons_succ, List.getElem?_cons_zero]; rfl) (by kernel_rfl) (by kernel_rfl) (by kernel_rfl) rfl (by exact fun _ _ _ h => h) (by rfl) ?_ (by assumption) ?_
        rotate_left
        · intro w hSw; (try dsimp only at hSw); go_simp; try (with_reducible rfl)
        try simp only [Act.put, List.setIfInBounds_toArray, List.set_cons_zero, List.set_cons_succ]
        refine wpAnyH_done (by kernel_rfl) ?_ _
        have b11 := hbel.trans ((hW.trans (b10.mono hW.size)).mono hbel.size)
        clear s0 s1 s2 hHeld b9 b10
        try clear s3
        go_wp2
        go_ret
        exact ⟨ret_b HF.out.symm, b11⟩
      | true =>
        have HR := Lib.hid (fun w => (HR0.out w))
        rw [hrb] at HR
        clear HR0
        by_cases hz : k = 0
        · have HA := Lib.hid (HSTEP.out hrb (fun g => absurd g (by omega)))
          have hg : decide ((0 : Int) < (k : Int)) = false := decide_eq_false (by omega)
          have hgn : decide (0 < k) = false := decide_eq_false (by omega)
          clear hrb HBAD HSTEP H1 hz
          generalize (cs.getD k c0D).1 = cf at *
          generalize (cs.getD k c0D).2.1 = cl at *
          generalize (cs.getD k c0D).2.2 = ch at *
          go_wp2
          have hW : Below wr.heap.size wr (wr.alloc (.cells #[.int .i64 cf, .int .i64 cl, .int .i64 ch] 92)) := (Below.refl _ wr).alloc (Nat.le_refl _) _
          have g0 := heap_alloc_new wr (.cells #[.int .i64 cf, .int .i64 cl, .int .i64 ch] 92)
          have hlt2 : wr.heap.size < (wr.alloc (.cells #[.int .i64 cf, .int .i64 cl, .int .i64 ch] 92)).heap.size := by simp
          generalize wr.alloc (.cells #[.int .i64 cf, .int .i64 cl, .int .i64 ch] 92) = W at *
          have q0 := cell_of_row W _ 0 _ _ _ g0
          have q1 := cell_of_row W _ 1 _ _ _ g0
          have q2 := cell_of_row W _ 2 _ _ _ g0
          simp at q0 q1 q2
          refine wp_region_held_drew (S := fun w' => w'.cell? ⟨wr.heap.size, 0, none⟩ = some (.int .i64 cf) ∧ w'.cell? ⟨wr.heap.size, 1, none⟩ = some (.int .i64 cl) ∧ w'.cell? ⟨wr.heap.size, 2, none⟩ = some (.int .i64 ch)) (by kernel_rfl) ⟨q0, q1, q2⟩ (fun hHeld => ?_)
          refine take_runs (i := 0) (v := ?_) (by simp only [List.getElem?_toArray, List.getElem?_cons_succ, List.getElem?_cons_zero]; rfl) (by kernel_rfl) (by kernel_rfl) (by kernel_rfl) rfl (by exact fun _ _ _ h => h) (by rfl) ?_ (by assumption) ?_
          rotate_left
          · intro w hSw; (try dsimp only at hSw); go_simp; try (with_reducible rfl)
          try simp only [Act.put, List.setIfInBounds_toArray, List.set_cons_zero, List.set_cons_succ]
          refine wpAnyH_ready (rs := [1]) (by kernel_rfl) (by simp) ?_
          refine AllReadyH.cons (o := _) (by simp only [List.getElem?_toArray, List.getElem?_cons_succ, List.getElem?_cons_zero]; rfl) (fun K hK => ?_) AllReadyH.nil
          go_simp
          refine (HR.out _).mono ?_
          rintro e w8 ⟨rfl, b9⟩
          have b10 : Below W.heap.size W w8 := ⟨b9.os, b9.tape, b9.output, b9.size, b9.block⟩
          have s0 := (b10.cell (p := ⟨wr.heap.size, 0, none⟩) hlt2).trans q0
          have s1 := (b10.cell (p := ⟨wr.heap.size, 1, none⟩) hlt2).trans q1
          have s2 := (b10.cell (p := ⟨wr.heap.size, 2, none⟩) hlt2).trans q2
          refine hK.out _ _ ⟨s0, s1, s2⟩ (fun hHeld => ?_)
          clear hK K
          try simp only [Act.put, List.setIfInBounds_toArray, List.set_cons_zero, List.set_cons_succ]
          refine take_runs (i := 2) (v := ?_) (by simp only [List.getElem?_toArray, List.getElem?_cons_succ, List.getElem?_cons_zero]; rfl) (by kernel_rfl) (by kernel_rfl) (by kernel_rfl) rfl (by exact fun _ _ _ h => h) (by rfl) ?_ (by assumption) ?_
          rotate_left
          · intro w hSw; (try dsimp only at hSw); go_simp; try (with_reducible rfl)
          try simp only [Act.put, List.setIfInBounds_toArray, List.set_cons_zero, List.set_cons_succ]
          refine take_runs (i := 3) (v := ?_) (by simp only [List.getElem?_toArray, List.getElem?_cons_succ, List.getElem?_cons_zero]; rfl) (by kernel_rfl) (by kernel_rfl) (by kernel_rfl) rfl (by exact fun _ _ _ h => h) (by rfl) ?_ (by assumption) ?_
          rotate_left
          · intro w hSw; (try dsimp only at hSw); go_simp; try (with_reducible rfl)
          try simp only [Act.put, List.setIfInBounds_toArray, List.set_cons_zero, List.set_cons_succ]
          refine take_runs (i := 4) (v := ?_) (by simp only [List.getElem?_toArray, List.getElem?_cons_succ, List.getElem?_cons_zero]; rfl) (by kernel_rfl) (by kernel_rfl) (by kernel_rfl) rfl (by exact fun _ _ _ h => h) (by rfl) ?_ (by assumption) ?_
          rotate_left
          · intro w hSw; (try dsimp only at hSw); go_simp; try (with_reducible rfl)
          try simp only [Act.put, List.setIfInBounds_toArray, List.set_cons_zero, List.set_cons_succ]
          refine take_runs (i := 5) (v := ?_) (by simp only [List.getElem?_toArray, List.getElem?_cons_succ, List.getElem?_cons_zero]; rfl) (by kernel_rfl) (by kernel_rfl) (by kernel_rfl) rfl (by exact fun _ _ _ h => h) (by rfl) ?_ (by assumption) ?_
          rotate_left
          · intro w hSw; (try dsimp only at hSw); go_simp; try (with_reducible rfl)
          try simp only [Act.put, List.setIfInBounds_toArray, List.set_cons_zero, List.set_cons_succ]
          refine take_runs (i := 6) (v := ?_) (by simp only [List.getElem?_toArray, List.getElem?_cons_succ, List.getElem?_cons_zero]; rfl) (by kernel_rfl) (by kernel_rfl) (by kernel_rfl) rfl (by exact fun _ _ _ h => h) (by rfl) ?_ (by assumption) ?_
          rotate_left
          · intro w hSw; (try dsimp only at hSw); go_simp; try (with_reducible rfl)
          try simp only [Act.put, List.setIfInBounds_toArray, List.set_cons_zero, List.set_cons_succ]
          refine take_over (i := 7) (by simp only [List.getElem?_toArray, List.getElem?_cons_succ, List.getElem?_cons_zero]; rfl) (by kernel_rfl) (by kernel_rfl) (by kernel_rfl) rfl (by exact fun _ _ _ h => h) (by rfl) (by assumption) ?_
          try simp only [Act.put, List.setIfInBounds_toArray, List.set_cons_zero, List.set_cons_succ]
          refine take_over (i := 8) (by simp only [List.getElem?_toArray, List.getElem?_cons_succ, List.getElem?_cons_zero]; rfl) (by kernel_rfl) (by kernel_rfl) (by kernel_rfl) rfl (by exact fun _ _ _ h => h) (by rfl) (by assumption) ?_
          try simp only [Act.put, List.setIfInBounds_toArray, List.set_cons_zero, List.set_cons_succ]
          refine take_over (i := 9) (by simp only [List.getElem?_toArray, List.getElem?_cons_succ, List.getElem?_cons_zero]; rfl) (by kernel_rfl) (by kernel_rfl) (by kernel_rfl) rfl (by exact fun _ _ _ h => h) (by rfl) (by assumption) ?_
          try simp only [Act.put, List.setIfInBounds_toArray, List.set_cons_zero, List.set_cons_succ]
          refine take_over (i := 10) (by simp only [List.getElem?_toArray, List.getElem?_cons_succ, List.getElem?_cons_zero]; rfl) (by kernel_rfl) (by kernel_rfl) (by kernel_rfl) rfl (by exact fun _ _ _ h => h) (by rfl) (by assumption) ?_
          try simp only [Act.put, List.setIfInBounds_toArray, List.set_cons_zero, List.set_cons_succ]
          refine take_over (i := 11) (by simp only [List.getElem?_toArray, List.getElem?_cons_succ, List.getElem?_cons_zero]; rfl) (by kernel_rfl) (by kernel_rfl) (by kernel_rfl) rfl (by exact fun _ _ _ h => h) (by rfl) (by assumption) ?_
          try simp only [Act.put, List.setIfInBounds_toArray, List.set_cons_zero, List.set_cons_succ]
          refine take_over (i := 12) (by simp only [List.getElem?_toArray, List.getElem?_cons_succ, List.getElem?_cons_zero]; rfl) (by kernel_rfl) (by kernel_rfl) (by kernel_rfl) rfl (by exact fun _ _ _ h => h) (by rfl) (by assumption) ?_
          try simp only [Act.put, List.setIfInBounds_toArray, List.set_cons_zero, List.set_cons_succ]
          refine take_over (i := 13) (by simp only [List.getElem?_toArray, List.getElem?_cons_succ, List.getElem?_cons_zero]; rfl) (by kernel_rfl) (by kernel_rfl) (by kernel_rfl) rfl (by exact fun _ _ _ h => h) (by rfl) (by assumption) ?_
          try simp only [Act.put, List.setIfInBounds_toArray, List.set_cons_zero, List.set_cons_succ]
          refine take_over (i := 14) (by simp only [List.getElem?_toArray, List.getElem?_cons_succ, List.getElem?_cons_zero]; rfl) (by kernel_rfl) (by kernel_rfl) (by kernel_rfl) rfl (by exact fun _ _ _ h => h) (by rfl) (by assumption) ?_
          try simp only [Act.put, List.setIfInBounds_toArray, List.set_cons_zero, List.set_cons_succ]
          refine take_over (i := 15) (by simp only [List.getElem?_toArray, List.getElem?_cons_succ, List.getElem?_cons_zero]; rfl) (by kernel_rfl) (by kernel_rfl) (by kernel_rfl) rfl (by exact fun _ _ _ h => h) (by rfl) (by assumption) ?_
          try simp only [Act.put, List.setIfInBounds_toArray, List.set_cons_zero, List.set_cons_succ]
          refine take_runs (i := 16) (v := ?_) (by simp only [List.getElem?_toArray, List.getElem?_cons_succ, List.getElem?_cons_zero]; rfl) (by kernel_rfl) (by kernel_rfl) (by kernel_rfl) rfl (by exact fun _ _ _ h => h) (by rfl) ?_ (by assumption) ?_
          rotate_left
          · intro w hSw; (try dsimp only at hSw); go_simp; try (with_reducible rfl)
          try simp only [Act.put, List.setIfInBounds_toArray, List.set_cons_zero, List.set_cons_succ]
          refine take_runs (i := 17) (v := ?_) (by simp only [List.getElem?_toArray, List.getElem?_cons_succ, List.getElem?_cons_zero]; rfl) (by kernel_rfl) (by kernel_rfl) (by kernel_rfl) rfl (by exact fun _ _ _ h => h) (by rfl) ?_ (by assumption) ?_
          rotate_left
          · intro w hSw; (try dsimp only at hSw); go_simp; try (with_reducible rfl)
          try simp only [Act.put, List.setIfInBounds_toArray, List.set_cons_zero, List.set_cons_succ]
          refine wpAnyH_done (by kernel_rfl) ?_ _
          have b11 := hbel.trans ((hW.trans (b10.mono hW.size)).mono hbel.size)
          clear s0 s1 s2 hHeld b9 b10
          try clear s3
          go_wp2
          go_roundw
          case rel => exact ⟨k + 1, by omega, by go_num, HA, b11⟩
          case measure => simp [intOf]; omega
        · obtain ⟨m, hkm⟩ : ∃ m, k = m + 1 := ⟨k - 1, by omega⟩
          have hml : m < cs.length := by omega
          obtain ⟨b', off', cap'', hv', _, hc0, _, _⟩ := condsR_at H1.out hml
          simp only [Value.slice.injEq, Option.some.injEq, Addr.mk.injEq] at hv'
          obtain ⟨⟨rfl, rfl, _⟩, _, rfl⟩ := hv'
          have hg : decide ((0 : Int) < (k : Int)) = true := decide_eq_true (by omega)
          have hgn : decide (0 < k) = true := decide_eq_true (by omega)
          have j1 : (0 : Int) ≤ (m : Int) := by omega
          have j2 : (m : Int) < (cs.length : Int) := by omega
          have hsub : IntKind.i64.wrap ((k : Int) - 1) = (m : Int) := by rw [IntWalk.i64_in _ (by omega)]; omega
          rw [show k - 1 = m by omega] at HBAD HSTEP
          by_cases hle : (cs.getD k c0D).1 ≤ (cs.getD m c0D).1
          · have HF := Lib.hid (HBAD.out (Or.inr ⟨by omega, by omega⟩))
            have hd := decide_eq_true hle
            clear hrb HBAD HSTEP H1 hz hle hkm
            generalize (cs.getD k c0D).1 = cf at *
            generalize (cs.getD k c0D).2.1 = cl at *
            generalize (cs.getD k c0D).2.2 = ch at *
            generalize (cs.getD m c0D).1 = fp at *
            go_wp2
            have hW : Below wr.heap.size wr (wr.alloc (.cells #[.int .i64 cf, .int .i64 cl, .int .i64 ch] 92)) := (Below.refl _ wr).alloc (Nat.le_refl _) _
            have g0 := heap_alloc_new wr (.cells #[.int .i64 cf, .int .i64 cl, .int .i64 ch] 92)
            have hlt2 : wr.heap.size < (wr.alloc (.cells #[.int .i64 cf, .int .i64 cl, .int .i64 ch] 92)).heap.size := by simp
            generalize wr.alloc (.cells #[.int .i64 cf, .int .i64 cl, .int .i64 ch] 92) = W at *
            have q0 := cell_of_row W _ 0 _ _ _ g0
            have q1 := cell_of_row W _ 1 _ _ _ g0
            have q2 := cell_of_row W _ 2 _ _ _ g0
            simp at q0 q1 q2
            have p0 := (hW.cell (p := ⟨b, off + m * 3, none⟩) hbl).trans hc0
            refine wp_region_held_drew (S := fun w' => w'.cell? ⟨wr.heap.size, 0, none⟩ = some (.int .i64 cf) ∧ w'.cell? ⟨wr.heap.size, 1, none⟩ = some (.int .i64 cl) ∧ w'.cell? ⟨wr.heap.size, 2, none⟩ = some (.int .i64 ch) ∧ w'.cell? ⟨b, off + m * 3, none⟩ = some (.int .i64 fp)) (by kernel_rfl) ⟨q0, q1, q2, p0⟩ (fun hHeld => ?_)
            refine take_runs (i := 0) (v := ?_) (by simp only [List.getElem?_toArray, List.getElem?_cons_succ, List.getElem?_cons_zero]; rfl) (by kernel_rfl) (by kernel_rfl) (by kernel_rfl) rfl (by exact fun _ _ _ h => h) (by rfl) ?_ (by assumption) ?_
            rotate_left
            · intro w hSw; (try dsimp only at hSw); go_simp; try (with_reducible rfl)
            try simp only [Act.put, List.setIfInBounds_toArray, List.set_cons_zero, List.set_cons_succ]
            refine wpAnyH_ready (rs := [1]) (by kernel_rfl) (by simp) ?_
            refine AllReadyH.cons (o := _) (by simp only [List.getElem?_toArray, List.getElem?_cons_succ, List.getElem?_cons_zero]; rfl) (fun K hK => ?_) AllReadyH.nil
            go_simp
            refine (HR.out _).mono ?_
            rintro e w8 ⟨rfl, b9⟩
            have b10 : Below W.heap.size W w8 := ⟨b9.os, b9.tape, b9.output, b9.size, b9.block⟩
            have s0 := (b10.cell (p := ⟨wr.heap.size, 0, none⟩) hlt2).trans q0
            have s1 := (b10.cell (p := ⟨wr.heap.size, 1, none⟩) hlt2).trans q1
            have s2 := (b10.cell (p := ⟨wr.heap.size, 2, none⟩) hlt2).trans q2
            have s3 := (b10.cell (p := ⟨b, off + m * 3, none⟩) (Nat.lt_of_lt_of_le hbl hW.size)).trans p0
            refine hK.out _ _ ⟨s0, s1, s2, s3⟩ (fun hHeld => ?_)
            clear hK K
            try simp only [Act.put, List.setIfInBounds_toArray, List.set_cons_zero, List.set_cons_succ]
            refine take_runs (i := 2) (v := ?_) (by simp only [List.getElem?_toArray, List.getElem?_cons_succ, List.getElem?_cons_zero]; rfl) (by kernel_rfl) (by kernel_rfl) (by kernel_rfl) rfl (by exact fun _ _ _ h => h) (by rfl) ?_ (by assumption) ?_
            rotate_left
            · intro w hSw; (try dsimp only at hSw); go_simp; try (with_reducible rfl)
            try simp only [Act.put, List.setIfInBounds_toArray, List.set_cons_zero, List.set_cons_succ]
            refine take_runs (i := 3) (v := ?_) (by simp only [List.getElem?_toArray, List.getElem?_cons_succ, List.getElem?_cons_zero]; rfl) (by kernel_rfl) (by kernel_rfl) (by kernel_rfl) rfl (by exact fun _ _ _ h => h) (by rfl) ?_ (by assumption) ?_
            rotate_left
            · intro w hSw; (try dsimp only at hSw); go_simp; try (with_reducible rfl)
            try simp only [Act.put, List.setIfInBounds_toArray, List.set_cons_zero, List.set_cons_succ]
            refine take_runs (i := 4) (v := ?_) (by simp only [List.getElem?_toArray, List.getElem?_cons_succ, List.getElem?_cons_zero]; rfl) (by kernel_rfl) (by kernel_rfl) (by kernel_rfl) rfl (by exact fun _ _ _ h => h) (by rfl) ?_ (by assumption) ?_
            rotate_left
            · intro w hSw; (try dsimp only at hSw); go_simp; try (with_reducible rfl)
            try simp only [Act.put, List.setIfInBounds_toArray, List.set_cons_zero, List.set_cons_succ]
            refine take_runs (i := 5) (v := ?_) (by simp only [List.getElem?_toArray, List.getElem?_cons_succ, List.getElem?_cons_zero]; rfl) (by kernel_rfl) (by kernel_rfl) (by kernel_rfl) rfl (by exact fun _ _ _ h => h) (by rfl) ?_ (by assumption) ?_
            rotate_left
            · intro w hSw; (try dsimp only at hSw); go_simp; try (with_reducible rfl)
            try simp only [Act.put, List.setIfInBounds_toArray, List.set_cons_zero, List.set_cons_succ]
            refine take_runs (i := 6) (v := ?_) (by simp only [List.getElem?_toArray, List.getElem?_cons_succ, List.getElem?_cons_zero]; rfl) (by kernel_rfl) (by kernel_rfl) (by kernel_rfl) rfl (by exact fun _ _ _ h => h) (by rfl) ?_ (by assumption) ?_
            rotate_left
            · intro w hSw; (try dsimp only at hSw); go_simp; try (with_reducible rfl)
            try simp only [Act.put, List.setIfInBounds_toArray, List.set_cons_zero, List.set_cons_succ]
            refine take_runs (i := 7) (v := ?_) (by simp only [List.getElem?_toArray, List.getElem?_cons_succ, List.getElem?_cons_zero]; rfl) (by kernel_rfl) (by kernel_rfl) (by kernel_rfl) rfl (by exact fun _ _ _ h => h) (by rfl) ?_ (by assumption) ?_
            rotate_left
            · intro w hSw; (try dsimp only at hSw); go_simp; try (with_reducible rfl)
            try simp only [Act.put, List.setIfInBounds_toArray, List.set_cons_zero, List.set_cons_succ]
            refine take_runs (i := 8) (v := ?_) (by simp only [List.getElem?_toArray, List.getElem?_cons_succ, List.getElem?_cons_zero]; rfl) (by kernel_rfl) (by kernel_rfl) (by kernel_rfl) rfl (by exact fun _ _ _ h => h) (by rfl) ?_ (by assumption) ?_
            rotate_left
            · intro w hSw; (try dsimp only at hSw); go_simp; try (with_reducible rfl)
            try simp only [Act.put, List.setIfInBounds_toArray, List.set_cons_zero, List.set_cons_succ]
            refine take_runs (i := 9) (v := ?_) (by simp only [List.getElem?_toArray, List.getElem?_cons_succ, List.getElem?_cons_zero]; rfl) (by kernel_rfl) (by kernel_rfl) (by kernel_rfl) rfl (by exact fun _ _ _ h => h) (by rfl) ?_ (by assumption) ?_
            rotate_left
            · intro w hSw; (try dsimp only at hSw); go_simp; try (with_reducible rfl)
            try simp only [Act.put, List.setIfInBounds_toArray, List.set_cons_zero, List.set_cons_succ]
            refine take_runs (i := 10) (v := ?_) (by simp only [List.getElem?_toArray, List.getElem?_cons_succ, List.getElem?_cons_zero]; rfl) (by kernel_rfl) (by kernel_rfl) (by kernel_rfl) rfl (by exact fun _ _ _ h => h) (by rfl) ?_ (by assumption) ?_
            rotate_left
            · intro w hSw; (try dsimp only at hSw); go_simp; try (with_reducible rfl)
            try simp only [Act.put, List.setIfInBounds_toArray, List.set_cons_zero, List.set_cons_succ]
            refine take_runs (i := 11) (v := ?_) (by simp only [List.getElem?_toArray, List.getElem?_cons_succ, List.getElem?_cons_zero]; rfl) (by kernel_rfl) (by kernel_rfl) (by kernel_rfl) rfl (by exact fun _ _ _ h => h) (by rfl) ?_ (by assumption) ?_
            rotate_left
            · intro w hSw; (try dsimp only at hSw); go_simp; try (with_reducible rfl)
            try simp only [Act.put, List.setIfInBounds_toArray, List.set_cons_zero, List.set_cons_succ]
            refine take_runs (i := 12) (v := ?_) (by simp only [List.getElem?_toArray, List.getElem?_cons_succ, List.getElem?_cons_zero]; rfl) (by kernel_rfl) (by kernel_rfl) (by kernel_rfl) rfl (by exact fun _ _ _ h => h) (by rfl) ?_ (by assumption) ?_
            rotate_left
            · intro w hSw; (try dsimp only at hSw); go_simp; try (with_reducible rfl)
            try simp only [Act.put, List.setIfInBounds_toArray, List.set_cons_zero, List.set_cons_succ]
            refine take_runs (i := 13) (v := ?_) (by simp only [List.getElem?_toArray, List.getElem?_cons_succ, List.getElem?_cons_zero]; rfl) (by kernel_rfl) (by kernel_rfl) (by kernel_rfl) rfl (by exact fun _ _ _ h => h) (by rfl) ?_ (by assumption) ?_
            rotate_left
            · intro w hSw; (try dsimp only at hSw); go_simp; try (with_reducible rfl)
            try simp only [Act.put, List.setIfInBounds_toArray, List.set_cons_zero, List.set_cons_succ]
            refine take_runs (i := 14) (v := ?_) (by simp only [List.getElem?_toArray, List.getElem?_cons_succ, List.getElem?_cons_zero]; rfl) (by kernel_rfl) (by kernel_rfl) (by kernel_rfl) rfl (by exact fun _ _ _ h => h) (by rfl) ?_ (by assumption) ?_
            rotate_left
            · intro w hSw; (try dsimp only at hSw); go_simp; try (with_reducible rfl)
            try simp only [Act.put, List.setIfInBounds_toArray, List.set_cons_zero, List.set_cons_succ]
            refine take_runs (i := 15) (v := ?_) (by simp only [List.getElem?_toArray, List.getElem?_cons_succ, List.getElem?_cons_zero]; rfl) (by kernel_rfl) (by kernel_rfl) (by kernel_rfl) rfl (by exact fun _ _ _ h => h) (by rfl) ?_ (by assumption) ?_
            rotate_left
            · intro w hSw; (try dsimp only at hSw); go_simp; try (with_reducible rfl)
            try simp only [Act.put, List.setIfInBounds_toArray, List.set_cons_zero, List.set_cons_succ]
            refine take_runs (i := 16) (v := ?_) (by simp only [List.getElem?_toArray, List.getElem?_cons_succ, List.getElem?_cons_zero]; rfl) (by kernel_rfl) (by kernel_rfl) (by kernel_rfl) rfl (by exact fun _ _ _ h => h) (by rfl) ?_ (by assumption) ?_
            rotate_left
            · intro w hSw; (try dsimp only at hSw); go_simp; try (with_reducible rfl)
            try simp only [Act.put, List.setIfInBounds_toArray, List.set_cons_zero, List.set_cons_succ]
            refine take_runs (i := 17) (v := ?_) (by simp only [List.getElem?_toArray, List.getElem?_cons_succ, List.getElem?_cons_zero]; rfl) (by kernel_rfl) (by kernel_rfl) (by kernel_rfl) rfl (by exact fun _ _ _ h => h) (by rfl) ?_ (by assumption) ?_
            rotate_left
            · intro w hSw; (try dsimp only at hSw); go_simp; try (with_reducible rfl)
            try simp only [Act.put, List.setIfInBounds_toArray, List.set_cons_zero, List.set_cons_succ]
            refine wpAnyH_done (by kernel_rfl) ?_ _
            have b11 := hbel.trans ((hW.trans (b10.mono hW.size)).mono hbel.size)
            clear s0 s1 s2 hHeld b9 b10
            try clear s3
            go_wp2
            go_ret
            exact ⟨ret_b HF.out.symm, b11⟩
          · have HA := Lib.hid (HSTEP.out hrb (fun _ => by omega))
            have hd := decide_eq_false hle
            clear hrb HBAD HSTEP H1 hz hle hkm
            generalize (cs.getD k c0D).1 = cf at *
            generalize (cs.getD k c0D).2.1 = cl at *
            generalize (cs.getD k c0D).2.2 = ch at *
            generalize (cs.getD m c0D).1 = fp at *
            go_wp2
            have hW : Below wr.heap.size wr (wr.alloc (.cells #[.int .i64 cf, .int .i64 cl, .int .i64 ch] 92)) := (Below.refl _ wr).alloc (Nat.le_refl _) _
            have g0 := heap_alloc_new wr (.cells #[.int .i64 cf, .int .i64 cl, .int .i64 ch] 92)
            have hlt2 : wr.heap.size < (wr.alloc (.cells #[.int .i64 cf, .int .i64 cl, .int .i64 ch] 92)).heap.size := by simp
            generalize wr.alloc (.cells #[.int .i64 cf, .int .i64 cl, .int .i64 ch] 92) = W at *
            have q0 := cell_of_row W _ 0 _ _ _ g0
            have q1 := cell_of_row W _ 1 _ _ _ g0
            have q2 := cell_of_row W _ 2 _ _ _ g0
            simp at q0 q1 q2
            have p0 := (hW.cell (p := ⟨b, off + m * 3, none⟩) hbl).trans hc0
            refine wp_region_held_drew (S := fun w' => w'.cell? ⟨wr.heap.size, 0, none⟩ = some (.int .i64 cf) ∧ w'.cell? ⟨wr.heap.size, 1, none⟩ = some (.int .i64 cl) ∧ w'.cell? ⟨wr.heap.size, 2, none⟩ = some (.int .i64 ch) ∧ w'.cell? ⟨b, off + m * 3, none⟩ = some (.int .i64 fp)) (by kernel_rfl) ⟨q0, q1, q2, p0⟩ (fun hHeld => ?_)
            refine take_runs (i := 0) (v := ?_) (by simp only [List.getElem?_toArray, List.getElem?_cons_succ, List.getElem?_cons_zero]; rfl) (by kernel_rfl) (by kernel_rfl) (by kernel_rfl) rfl (by exact fun _ _ _ h => h) (by rfl) ?_ (by assumption) ?_
            rotate_left
            · intro w hSw; (try dsimp only at hSw); go_simp; try (with_reducible rfl)
            try simp only [Act.put, List.setIfInBounds_toArray, List.set_cons_zero, List.set_cons_succ]
            refine wpAnyH_ready (rs := [1]) (by kernel_rfl) (by simp) ?_
            refine AllReadyH.cons (o := _) (by simp only [List.getElem?_toArray, List.getElem?_cons_succ, List.getElem?_cons_zero]; rfl) (fun K hK => ?_) AllReadyH.nil
            go_simp
            refine (HR.out _).mono ?_
            rintro e w8 ⟨rfl, b9⟩
            have b10 : Below W.heap.size W w8 := ⟨b9.os, b9.tape, b9.output, b9.size, b9.block⟩
            have s0 := (b10.cell (p := ⟨wr.heap.size, 0, none⟩) hlt2).trans q0
            have s1 := (b10.cell (p := ⟨wr.heap.size, 1, none⟩) hlt2).trans q1
            have s2 := (b10.cell (p := ⟨wr.heap.size, 2, none⟩) hlt2).trans q2
            have s3 := (b10.cell (p := ⟨b, off + m * 3, none⟩) (Nat.lt_of_lt_of_le hbl hW.size)).trans p0
            refine hK.out _ _ ⟨s0, s1, s2, s3⟩ (fun hHeld => ?_)
            clear hK K
            try simp only [Act.put, List.setIfInBounds_toArray, List.set_cons_zero, List.set_cons_succ]
            refine take_runs (i := 2) (v := ?_) (by simp only [List.getElem?_toArray, List.getElem?_cons_succ, List.getElem?_cons_zero]; rfl) (by kernel_rfl) (by kernel_rfl) (by kernel_rfl) rfl (by exact fun _ _ _ h => h) (by rfl) ?_ (by assumption) ?_
            rotate_left
            · intro w hSw; (try dsimp only at hSw); go_simp; try (with_reducible rfl)
            try simp only [Act.put, List.setIfInBounds_toArray, List.set_cons_zero, List.set_cons_succ]
            refine take_runs (i := 3) (v := ?_) (by simp only [List.getElem?_toArray, List.getElem?_cons_succ, List.getElem?_cons_zero]; rfl) (by kernel_rfl) (by kernel_rfl) (by kernel_rfl) rfl (by exact fun _ _ _ h => h) (by rfl) ?_ (by assumption) ?_
            rotate_left
            · intro w hSw; (try dsimp only at hSw); go_simp; try (with_reducible rfl)
            try simp only [Act.put, List.setIfInBounds_toArray, List.set_cons_zero, List.set_cons_succ]
            refine take_runs (i := 4) (v := ?_) (by simp only [List.getElem?_toArray, List.getElem?_cons_succ, List.getElem?_cons_zero]; rfl) (by kernel_rfl) (by kernel_rfl) (by kernel_rfl) rfl (by exact fun _ _ _ h => h) (by rfl) ?_ (by assumption) ?_
            rotate_left
            · intro w hSw; (try dsimp only at hSw); go_simp; try (with_reducible rfl)
            try simp only [Act.put, List.setIfInBounds_toArray, List.set_cons_zero, List.set_cons_succ]
            refine take_runs (i := 5) (v := ?_) (by simp only [List.getElem?_toArray, List.getElem?_cons_succ, List.getElem?_cons_zero]; rfl) (by kernel_rfl) (by kernel_rfl) (by kernel_rfl) rfl (by exact fun _ _ _ h => h) (by rfl) ?_ (by assumption) ?_
            rotate_left
            · intro w hSw; (try dsimp only at hSw); go_simp; try (with_reducible rfl)
            try simp only [Act.put, List.setIfInBounds_toArray, List.set_cons_zero, List.set_cons_succ]
            refine take_runs (i := 6) (v := ?_) (by simp only [List.getElem?_toArray, List.getElem?_cons_succ, List.getElem?_cons_zero]; rfl) (by kernel_rfl) (by kernel_rfl) (by kernel_rfl) rfl (by exact fun _ _ _ h => h) (by rfl) ?_ (by assumption) ?_
            rotate_left
            · intro w hSw; (try dsimp only at hSw); go_simp; try (with_reducible rfl)
            try simp only [Act.put, List.setIfInBounds_toArray, List.set_cons_zero, List.set_cons_succ]
            refine take_runs (i := 7) (v := ?_) (by simp only [List.getElem?_toArray, List.getElem?_cons_succ, List.getElem?_cons_zero]; rfl) (by kernel_rfl) (by kernel_rfl) (by kernel_rfl) rfl (by exact fun _ _ _ h => h) (by rfl) ?_ (by assumption) ?_
            rotate_left
            · intro w hSw; (try dsimp only at hSw); go_simp; try (with_reducible rfl)
            try simp only [Act.put, List.setIfInBounds_toArray, List.set_cons_zero, List.set_cons_succ]
            refine take_runs (i := 8) (v := ?_) (by simp only [List.getElem?_toArray, List.getElem?_cons_succ, List.getElem?_cons_zero]; rfl) (by kernel_rfl) (by kernel_rfl) (by kernel_rfl) rfl (by exact fun _ _ _ h => h) (by rfl) ?_ (by assumption) ?_
            rotate_left
            · intro w hSw; (try dsimp only at hSw); go_simp; try (with_reducible rfl)
            try simp only [Act.put, List.setIfInBounds_toArray, List.set_cons_zero, List.set_cons_succ]
            refine take_runs (i := 9) (v := ?_) (by simp only [List.getElem?_toArray, List.getElem?_cons_succ, List.getElem?_cons_zero]; rfl) (by kernel_rfl) (by kernel_rfl) (by kernel_rfl) rfl (by exact fun _ _ _ h => h) (by rfl) ?_ (by assumption) ?_
            rotate_left
            · intro w hSw; (try dsimp only at hSw); go_simp; try (with_reducible rfl)
            try simp only [Act.put, List.setIfInBounds_toArray, List.set_cons_zero, List.set_cons_succ]
            refine take_runs (i := 10) (v := ?_) (by simp only [List.getElem?_toArray, List.getElem?_cons_succ, List.getElem?_cons_zero]; rfl) (by kernel_rfl) (by kernel_rfl) (by kernel_rfl) rfl (by exact fun _ _ _ h => h) (by rfl) ?_ (by assumption) ?_
            rotate_left
            · intro w hSw; (try dsimp only at hSw); go_simp; try (with_reducible rfl)
            try simp only [Act.put, List.setIfInBounds_toArray, List.set_cons_zero, List.set_cons_succ]
            refine take_runs (i := 11) (v := ?_) (by simp only [List.getElem?_toArray, List.getElem?_cons_succ, List.getElem?_cons_zero]; rfl) (by kernel_rfl) (by kernel_rfl) (by kernel_rfl) rfl (by exact fun _ _ _ h => h) (by rfl) ?_ (by assumption) ?_
            rotate_left
            · intro w hSw; (try dsimp only at hSw); go_simp; try (with_reducible rfl)
            try simp only [Act.put, List.setIfInBounds_toArray, List.set_cons_zero, List.set_cons_succ]
            refine take_runs (i := 12) (v := ?_) (by simp only [List.getElem?_toArray, List.getElem?_cons_succ, List.getElem?_cons_zero]; rfl) (by kernel_rfl) (by kernel_rfl) (by kernel_rfl) rfl (by exact fun _ _ _ h => h) (by rfl) ?_ (by assumption) ?_
            rotate_left
            · intro w hSw; (try dsimp only at hSw); go_simp; try (with_reducible rfl)
            try simp only [Act.put, List.setIfInBounds_toArray, List.set_cons_zero, List.set_cons_succ]
            refine take_runs (i := 13) (v := ?_) (by simp only [List.getElem?_toArray, List.getElem?_cons_succ, List.getElem?_cons_zero]; rfl) (by kernel_rfl) (by kernel_rfl) (by kernel_rfl) rfl (by exact fun _ _ _ h => h) (by rfl) ?_ (by assumption) ?_
            rotate_left
            · intro w hSw; (try dsimp only at hSw); go_simp; try (with_reducible rfl)
            try simp only [Act.put, List.setIfInBounds_toArray, List.set_cons_zero, List.set_cons_succ]
            refine take_runs (i := 14) (v := ?_) (by simp only [List.getElem?_toArray, List.getElem?_cons_succ, List.getElem?_cons_zero]; rfl) (by kernel_rfl) (by kernel_rfl) (by kernel_rfl) rfl (by exact fun _ _ _ h => h) (by rfl) ?_ (by assumption) ?_
            rotate_left
            · intro w hSw; (try dsimp only at hSw); go_simp; try (with_reducible rfl)
            try simp only [Act.put, List.setIfInBounds_toArray, List.set_cons_zero, List.set_cons_succ]
            refine take_runs (i := 15) (v := ?_) (by simp only [List.getElem?_toArray, List.getElem?_cons_succ, List.getElem?_cons_zero]; rfl) (by kernel_rfl) (by kernel_rfl) (by kernel_rfl) rfl (by exact fun _ _ _ h => h) (by rfl) ?_ (by assumption) ?_
            rotate_left
            · intro w hSw; (try dsimp only at hSw); go_simp; try (with_reducible rfl)
            try simp only [Act.put, List.setIfInBounds_toArray, List.set_cons_zero, List.set_cons_succ]
            refine take_runs (i := 16) (v := ?_) (by simp only [List.getElem?_toArray, List.getElem?_cons_succ, List.getElem?_cons_zero]; rfl) (by kernel_rfl) (by kernel_rfl) (by kernel_rfl) rfl (by exact fun _ _ _ h => h) (by rfl) ?_ (by assumption) ?_
            rotate_left
            · intro w hSw; (try dsimp only at hSw); go_simp; try (with_reducible rfl)
            try simp only [Act.put, List.setIfInBounds_toArray, List.set_cons_zero, List.set_cons_succ]
            refine take_runs (i := 17) (v := ?_) (by simp only [List.getElem?_toArray, List.getElem?_cons_succ, List.getElem?_cons_zero]; rfl) (by kernel_rfl) (by kernel_rfl) (by kernel_rfl) rfl (by exact fun _ _ _ h => h) (by rfl) ?_ (by assumption) ?_
            rotate_left
            · intro w hSw; (try dsimp only at hSw); go_simp; try (with_reducible rfl)
            try simp only [Act.put, List.setIfInBounds_toArray, List.set_cons_zero, List.set_cons_succ]
            refine wpAnyH_done (by kernel_rfl) ?_ _
            have b11 := hbel.trans ((hW.trans (b10.mono hW.size)).mono hbel.size)
            clear s0 s1 s2 hHeld b9 b10
            try clear s3
            go_wp2
            go_roundw
            case rel => exact ⟨k + 1, by omega, by go_num, HA, b11⟩
            case measure => simp [intOf]; omega
    · obtain rfl : k = cs.length := by omega
      have HA := Lib.hid (HT.out hall.out)
      clear hall
      go_wp2
      go_ret
      exact ⟨ret_b HA.out.symm, hbel⟩
set_option maxHeartbeats 4000000 in
set_option maxRecDepth 100000 in
theorem isOut_any (v : Value) (os : List Int) (w : World) (h : Ints w v os) (hn : os.length ≤ 1048576) :
    Calls Tryd.prog 65 #[v] w fun e w' => e = .returned (.bool (fieldsB os)) ∧ Below w.heap.size w w' := by
  have H := Lib.hid h
  obtain ⟨a, cap, rfl⟩ := ints_len h
  clear h
  by_cases hl : os.length < 1
  · have HF : Hid (fieldsB os = false) := Lib.hid (by unfold fieldsB; rw [decide_eq_false (by omega : ¬ (1 ≤ os.length ∧ os.length ≤ 3)), Bool.and_false])
    have e0 : (os.length : Int) < 1 := by omega
    go_enter Tryd.func65, Tryd.ntmps65
    go_wp2
    go_ret
    exact ⟨ret_b HF.out.symm, Below.refl _ _⟩
  by_cases hg : 3 < os.length
  · have HF : Hid (fieldsB os = false) := Lib.hid (by unfold fieldsB; rw [decide_eq_false (by omega : ¬ (1 ≤ os.length ∧ os.length ≤ 3)), Bool.and_false])
    have e0 : ¬ (os.length : Int) < 1 := by omega
    have e1 : (3 : Int) < (os.length : Int) := by omega
    go_enter Tryd.func65, Tryd.ntmps65
    go_wp2
    go_ret
    exact ⟨ret_b HF.out.symm, Below.refl _ _⟩
  have HT : Hid ((∀ k, k < os.length → 0 ≤ os.getD k 0 ∧ os.getD k 0 ≤ 2) → fieldsB os = true) := Lib.hid (fun g => by rw [fieldsB_all g]; exact decide_eq_true (by omega))
  have e0 : ¬ (os.length : Int) < 1 := by omega
  have e1 : ¬ (3 : Int) < (os.length : Int) := by omega
  go_enter Tryd.func65, Tryd.ntmps65
  go_wp2
  clear e0 e1 hl hg
  go_loopw [15] (fun i wr => ∃ k : Nat, k ≤ os.length ∧ i = .int .i64 k ∧ Hid (∀ j, j < k → 0 ≤ os.getD j 0 ∧ os.getD j 0 ≤ 2) ∧ wr = w) (fun i _ => os.length - (intOf i).toNat)
  case atStart => exact ⟨0, Nat.zero_le _, rfl, Lib.hid (fun j hj => by omega), rfl⟩
  case round =>
    obtain ⟨k, hk, rfl, hall, rfl⟩ := hrel
    by_cases hlt : k < os.length
    · obtain ⟨b, off, cap', hv, hbl, hc⟩ := ints_cell H.out (by omega)
      simp only [Value.slice.injEq] at hv
      obtain ⟨rfl, _, rfl⟩ := hv
      have hcell := hc k hlt
      have i1 : (0 : Int) ≤ (k : Int) := by omega
      have i2 : (k : Int) < (os.length : Int) := by omega
      clear hc
      by_cases hi : 0 ≤ os.getD k 0 ∧ os.getD k 0 ≤ 2
      · have HA : Hid (∀ j, j < k + 1 → 0 ≤ os.getD j 0 ∧ os.getD j 0 ≤ 2) := Lib.hid (fun j hj => by
          by_cases e : j = k
          · subst e; exact hi
          · exact hall.out j (by omega))
        have HI := Lib.hid (fun w => isField_yes (os.getD k 0) w hi.1 (by omega))
        clear hi hall
        generalize os.getD k 0 = x at *
        go_wp2_with fail
        refine (HI.out _).mono ?_
        rintro e w1 ⟨rfl, rfl⟩
        go_wp2
        go_roundw
        case rel => exact ⟨k + 1, by omega, by go_num, HA, by simp⟩
        case measure => simp [intOf]; omega
      · have HF := Lib.hid (fieldsB_bad hlt hi)
        have HI := Lib.hid (fun w => isField_no (os.getD k 0) w (by omega))
        clear hi hall
        generalize os.getD k 0 = x at *
        go_wp2_with fail
        refine (HI.out _).mono ?_
        rintro e w1 ⟨rfl, rfl⟩
        go_wp2
        go_ret
        exact ⟨ret_b HF.out.symm, Below.refl _ _⟩
    · obtain rfl : k = os.length := by omega
      have HE := Lib.hid (HT.out hall.out)
      clear hall
      go_wp2
      go_ret
      exact ⟨ret_b HE.out.symm, Below.refl _ _⟩
set_option maxHeartbeats 4000000 in
set_option maxRecDepth 100000 in
theorem implIsQuery (id tn : Int) (cv ov : Value) (cs : List CondD) (os : List Int) (w : World) (h : CondsR w cv cs) (hn : cs.length ≤ 1048576) (g : Ints w ov os) (hm : os.length ≤ 1048576) :
    Calls Tryd.prog 45 #[qV id tn cv ov] w fun e w' => e = .returned (.bool (queryB id tn cs os)) ∧ Below w.heap.size w w' := by
  obtain ⟨va, vcap, rfl⟩ := condsR_len h
  obtain ⟨oa, ocap, rfl⟩ := ints_len g
  have hb0 : Below w.heap.size w (w.alloc (.cells #[.int .i64 id, .int .i64 tn, .slice va cs.length vcap, .slice oa os.length ocap] 59)) := (Below.refl _ w).alloc (Nat.le_refl _) _
  have HB0 := Lib.hid hb0
  have HG0 := Lib.hid (heap_alloc_new w (.cells #[.int .i64 id, .int .i64 tn, .slice va cs.length vcap, .slice oa os.length ocap] 59))
  have HH := Lib.hid (condsR_below h hb0)
  have HO := Lib.hid (ints_below g hb0)
  have HV := Lib.hid (fun w h => areValid_any (.slice va cs.length vcap) cs w h hn)
  have HU := Lib.hid (fun w h => isOut_any (.slice oa os.length ocap) os w h hm)
  clear h g hn hm hb0
  have HQ : Hid (queryB id tn cs os = (decide (0 ≤ id ∧ id < 24) && (decide (0 ≤ tn ∧ tn < 4) && (condsV cs && fieldsB os)))) := Lib.hid (by
    unfold queryB condsV
    rw [show decide (0 ≤ id ∧ id < 24) = decide (0 ≤ id ∧ id ≤ 23) by congr 1; apply propext; omega, show decide (0 ≤ tn ∧ tn < 4) = decide (0 ≤ tn ∧ tn ≤ 3) by congr 1; apply propext; omega]
    cases condsB cs <;> cases decide (0 ≤ id ∧ id ≤ 23) <;> cases decide (0 ≤ tn ∧ tn ≤ 3) <;> cases decide (cs.length ≤ 3) <;> cases fieldsB os <;> rfl)
  by_cases h1 : 0 ≤ id ∧ id < 24
  · have H1 := Lib.hid (fun w => isQNum_yes id w h1.1 h1.2)
    rw [decide_eq_true h1, Bool.true_and] at HQ
    clear h1
    by_cases h2 : 0 ≤ tn ∧ tn < 4
    · have H2 := Lib.hid (fun w => isTenant_yes tn w h2.1 h2.2)
      rw [decide_eq_true h2, Bool.true_and] at HQ
      clear h2
      cases h3 : condsV cs with
      | false =>
        have HT : Hid (queryB id tn cs os = false) := Lib.hid (by rw [HQ.out, h3, Bool.false_and])
        rw [h3] at HV
        clear h3 HQ
        go_enter Tryd.func45, Tryd.ntmps45
        go_wp2_with fail
        generalize w.alloc (.cells #[.int .i64 id, .int .i64 tn, .slice va cs.length vcap, .slice oa os.length ocap] 59) = W at *
        obtain ⟨p0, p1, p2, p3⟩ := box_cells4 HG0.out (Below.refl _ _)
        refine (H1.out _).mono ?_
        rintro e w1 ⟨rfl, rfl⟩
        go_wp2_with fail
        refine (H2.out _).mono ?_
        rintro e w2 ⟨rfl, rfl⟩
        go_wp2_with fail
        refine (HV.out _ HH.out).mono ?_
        rintro e w3 ⟨rfl, b3⟩
        have c3 := HB0.out.trans (b3.mono HB0.out.size)
        go_wp2
        go_ret
        exact ⟨ret_b HT.out.symm, c3⟩
      | true =>
        have HT : Hid (queryB id tn cs os = fieldsB os) := Lib.hid (by rw [HQ.out, h3, Bool.true_and])
        rw [h3] at HV
        clear h3 HQ
        generalize fieldsB os = r at *
        go_enter Tryd.func45, Tryd.ntmps45
        go_wp2_with fail
        generalize w.alloc (.cells #[.int .i64 id, .int .i64 tn, .slice va cs.length vcap, .slice oa os.length ocap] 59) = W at *
        obtain ⟨p0, p1, p2, p3⟩ := box_cells4 HG0.out (Below.refl _ _)
        refine (H1.out _).mono ?_
        rintro e w1 ⟨rfl, rfl⟩
        go_wp2_with fail
        refine (H2.out _).mono ?_
        rintro e w2 ⟨rfl, rfl⟩
        go_wp2_with fail
        refine (HV.out _ HH.out).mono ?_
        rintro e w3 ⟨rfl, b3⟩
        have c3 := HB0.out.trans (b3.mono HB0.out.size)
        clear p0 p1 p2 p3
        obtain ⟨p0, p1, p2, p3⟩ := box_cells4 HG0.out b3
        have I3 := Lib.hid (ints_below HO.out b3)
        clear b3
        go_wp2_with fail
        refine (HU.out _ I3.out).mono ?_
        rintro e w4 ⟨rfl, b4⟩
        have c4 := c3.trans (b4.mono c3.size)
        go_wp2
        go_ret
        exact ⟨ret_b HT.out.symm, c4⟩
    · have H2 := Lib.hid (fun w => isTenant_no tn w h2)
      have HT : Hid (queryB id tn cs os = false) := Lib.hid (by rw [HQ.out, decide_eq_false h2, Bool.false_and])
      clear h2 HQ
      go_enter Tryd.func45, Tryd.ntmps45
      go_wp2_with fail
      generalize w.alloc (.cells #[.int .i64 id, .int .i64 tn, .slice va cs.length vcap, .slice oa os.length ocap] 59) = W at *
      obtain ⟨p0, p1, p2, p3⟩ := box_cells4 HG0.out (Below.refl _ _)
      refine (H1.out _).mono ?_
      rintro e w1 ⟨rfl, rfl⟩
      go_wp2_with fail
      refine (H2.out _).mono ?_
      rintro e w2 ⟨rfl, rfl⟩
      go_wp2
      go_ret
      exact ⟨ret_b HT.out.symm, HB0.out⟩
  · have H1 := Lib.hid (fun w => isQNum_no id w h1)
    have HT : Hid (queryB id tn cs os = false) := Lib.hid (by rw [HQ.out, decide_eq_false h1, Bool.false_and])
    clear h1 HQ
    go_enter Tryd.func45, Tryd.ntmps45
    go_wp2_with fail
    generalize w.alloc (.cells #[.int .i64 id, .int .i64 tn, .slice va cs.length vcap, .slice oa os.length ocap] 59) = W at *
    obtain ⟨p0, p1, p2, p3⟩ := box_cells4 HG0.out (Below.refl _ _)
    refine (H1.out _).mono ?_
    rintro e w1 ⟨rfl, rfl⟩
    go_wp2
    go_ret
    exact ⟨ret_b HT.out.symm, HB0.out⟩
end Go.Proofs.YtmkcfkblfjhnhaaDoor
namespace Go.Proofs.YtmkcfkblfjhnhaaDoor
open Go.RowKit
set_option linter.unusedVariables false
set_option linter.unusedSimpArgs false
set_option maxHeartbeats 8000000 in
set_option maxRecDepth 100000 in
theorem implAreQueries (v : Value) (qs : List QD) (w : World) (h : QueriesR w v qs) (hs : szQL qs ≤ 1048576) :
    Calls Tryd.prog 19 #[v] w fun e w' => e = .returned (.bool (areQB qs)) ∧ Below w.heap.size w w' := by
  have H := Lib.hid h
  have HS := Lib.hid hs
  have hlen := szQL_len hs
  obtain ⟨a, cap, rfl⟩ := queriesR_len h
  clear h hs
  by_cases hbig : 24 < qs.length
  · have HF : Hid (areQB qs = false) := Lib.hid (by unfold areQB; rw [decide_eq_false (by omega : ¬ qs.length ≤ 24), Bool.and_false])
    have i0 : (24 : Int) < (qs.length : Int) := by omega
    have hd : decide ((24 : Int) < (qs.length : Int)) = true := decide_eq_true i0
    have hdn : decide (24 < qs.length) = true := decide_eq_true hbig
    go_enter Tryd.func19, Tryd.ntmps19
    go_wp2
    go_ret
    exact ⟨ret_b HF.out.symm, Below.refl _ _⟩
  have HT : Hid (AreQTo qs qs.length → areQB qs = true) := Lib.hid (fun g => by rw [areQB_all g]; exact decide_eq_true (by omega))
  have hd : decide ((24 : Int) < (qs.length : Int)) = false := decide_eq_false (by omega)
  have hdn : decide (24 < qs.length) = false := decide_eq_false hbig
  clear hbig
  go_enter Tryd.func19, Tryd.ntmps19
  go_wp2
  clear hd hdn
  go_loopw [10] (fun i wr => ∃ k : Nat, k ≤ qs.length ∧ i = .int .i64 k ∧ Hid (AreQTo qs k) ∧ Below w.heap.size w wr) (fun i _ => qs.length - (intOf i).toNat)
  case atStart => exact ⟨0, Nat.zero_le _, rfl, Lib.hid (fun i hi => by omega), Below.refl _ _⟩
  case round =>
    obtain ⟨k, hk, rfl, hall, hbel⟩ := hrel
    by_cases hlt : k < qs.length
    · have H1 := Lib.hid (queriesR_below H.out hbel)
      obtain ⟨b, off, cap', cv, ov, hv, hbl, hc1, hc2, hc3, hc4, hC, hI⟩ := queriesR_at H1.out hlt
      simp only [Value.slice.injEq] at hv
      obtain ⟨rfl, _, rfl⟩ := hv
      have HBAD := Lib.hid (areQB_bad (qs := qs) (k := k) hlt)
      have HSTEP := Lib.hid (areQTo_step hall.out)
      have hxl := szQL_at HS.out hlt
      have HR0 : Hid (∀ w, CondsR w cv (qs.getD k q0D).2.2.1 → Ints w ov (qs.getD k q0D).2.2.2 → Calls Tryd.prog 45 #[qV (qs.getD k q0D).1 (qs.getD k q0D).2.1 cv ov] w fun e w' => e = .returned (.bool (qB (qs.getD k q0D))) ∧ Below w.heap.size w w') := Lib.hid (fun w h g => implIsQuery _ _ cv ov _ _ w h hxl.1 g hxl.2)
      have i1 : (0 : Int) ≤ (k : Int) := by omega
      have i2 : (k : Int) < (qs.length : Int) := by omega
      clear hall
      cases hrb : qB (qs.getD k q0D) with
      | false =>
        have HF := Lib.hid (HBAD.out (Or.inl hrb))
        have HR := Lib.hid (fun w => (HR0.out w))
        rw [hrb] at HR
        clear hrb HBAD HSTEP H1 HR0
        generalize (qs.getD k q0D).1 = id at *
        generalize (qs.getD k q0D).2.1 = tn at *
        generalize (qs.getD k q0D).2.2.1 = cs at *
        generalize (qs.getD k q0D).2.2.2 = os at *
        obtain ⟨ca, ccap, rfl⟩ := condsR_len hC
        obtain ⟨oa, ocap, rfl⟩ := ints_len hI
        go_wp2
        have hW : Below wr.heap.size wr (wr.alloc (.cells #[.int .i64 id, .int .i64 tn, .slice ca cs.length ccap, .slice oa os.length ocap] 59)) := (Below.refl _ wr).alloc (Nat.le_refl _) _
        have g0 := heap_alloc_new wr (.cells #[.int .i64 id, .int .i64 tn, .slice ca cs.length ccap, .slice oa os.length ocap] 59)
        have hlt2 : wr.heap.size < (wr.alloc (.cells #[.int .i64 id, .int .i64 tn, .slice ca cs.length ccap, .slice oa os.length ocap] 59)).heap.size := by simp
        generalize wr.alloc (.cells #[.int .i64 id, .int .i64 tn, .slice ca cs.length ccap, .slice oa os.length ocap] 59) = W at *
        have q0 := cell_of_row W _ 0 _ _ _ g0
        have q1 := cell_of_row W _ 1 _ _ _ g0
        have q2 := cell_of_row W _ 2 _ _ _ g0
        have q3 := cell_of_row W _ 3 _ _ _ g0
        simp at q0 q1 q2 q3
        have hCW := condsR_below hC hW
        have hIW := ints_below hI hW
        refine wp_region_held_drew (S := fun w' => w'.cell? ⟨wr.heap.size, 0, none⟩ = some (.int .i64 id) ∧ w'.cell? ⟨wr.heap.size, 1, none⟩ = some (.int .i64 tn) ∧ w'.cell? ⟨wr.heap.size, 2, none⟩ = some (.slice ca cs.length ccap) ∧ w'.cell? ⟨wr.heap.size, 3, none⟩ = some (.slice oa os.length ocap)) (by kernel_rfl) ⟨q0, q1, q2, q3⟩ (fun hHeld => ?_)
        refine take_runs (i := 0) (v := ?_) (by simp only [List.getElem?_toArray, List.getElem?_cons_succ, List.getElem?_cons_zero]; rfl) (by kernel_rfl) (by kernel_rfl) (by kernel_rfl) rfl (by exact fun _ _ _ h => h) (by rfl) ?_ (by assumption) ?_
        rotate_left
        · intro w hSw; (try dsimp only at hSw); go_simp; try (with_reducible rfl)
        try simp only [Act.put, List.setIfInBounds_toArray, List.set_cons_zero, List.set_cons_succ]
        refine wpAnyH_ready (rs := [1]) (by kernel_rfl) (by simp) ?_
        refine AllReadyH.cons (o := _) (by simp only [List.getElem?_toArray, List.getElem?_cons_succ, List.getElem?_cons_zero]; rfl) (fun K hK => ?_) AllReadyH.nil
        go_simp
        refine (HR.out _ (by exact condsR_heap hCW rfl) (by exact ints_heap hIW rfl)).mono ?_
        rintro e w8 ⟨rfl, b9⟩
        have b10 : Below W.heap.size W w8 := ⟨b9.os, b9.tape, b9.output, b9.size, b9.block⟩
        have s0 := (b10.cell (p := ⟨wr.heap.size, 0, none⟩) hlt2).trans q0
        have s1 := (b10.cell (p := ⟨wr.heap.size, 1, none⟩) hlt2).trans q1
        have s2 := (b10.cell (p := ⟨wr.heap.size, 2, none⟩) hlt2).trans q2
        have s3 := (b10.cell (p := ⟨wr.heap.size, 3, none⟩) hlt2).trans q3
        refine hK.out _ _ ⟨s0, s1, s2, s3⟩ (fun hHeld => ?_)
        clear hK K
        try simp only [Act.put, List.setIfInBounds_toArray, List.set_cons_zero, List.set_cons_succ]
        refine take_runs (i := 2) (v := ?_) (by simp only [List.getElem?_toArray, List.getElem?_cons_succ, List.getElem?_cons_zero]; rfl) (by kernel_rfl) (by kernel_rfl) (by kernel_rfl) rfl (by exact fun _ _ _ h => h) (by rfl) ?_ (by assumption) ?_
        rotate_left
        · intro w hSw; (try dsimp only at hSw); go_simp; try (with_reducible rfl)
        try simp only [Act.put, List.setIfInBounds_toArray, List.set_cons_zero, List.set_cons_succ]
        refine take_runs (i := 3) (v := ?_) (by simp only [List.getElem?_toArray, List.getElem?_cons_succ, List.getElem?_cons_zero]; rfl) (by kernel_rfl) (by kernel_rfl) (by kernel_rfl) rfl (by exact fun _ _ _ h => h) (by rfl) ?_ (by assumption) ?_
        rotate_left
        · intro w hSw; (try dsimp only at hSw); go_simp; try (with_reducible rfl)
        try simp only [Act.put, List.setIfInBounds_toArray, List.set_cons_zero, List.set_cons_succ]
        refine take_over (i := 4) (by simp only [List.getElem?_toArray, List.getElem?_cons_succ, List.getElem?_cons_zero]; rfl) (by kernel_rfl) (by kernel_rfl) (by kernel_rfl) rfl (by exact fun _ _ _ h => h) (by rfl) (by assumption) ?_
        try simp only [Act.put, List.setIfInBounds_toArray, List.set_cons_zero, List.set_cons_succ]
        refine take_over (i := 5) (by simp only [List.getElem?_toArray, List.getElem?_cons_succ, List.getElem?_cons_zero]; rfl) (by kernel_rfl) (by kernel_rfl) (by kernel_rfl) rfl (by exact fun _ _ _ h => h) (by rfl) (by assumption) ?_
        try simp only [Act.put, List.setIfInBounds_toArray, List.set_cons_zero, List.set_cons_succ]
        refine take_over (i := 6) (by simp only [List.getElem?_toArray, List.getElem?_cons_succ, List.getElem?_cons_zero]; rfl) (by kernel_rfl) (by kernel_rfl) (by kernel_rfl) rfl (by exact fun _ _ _ h => h) (by rfl) (by assumption) ?_
        try simp only [Act.put, List.setIfInBounds_toArray, List.set_cons_zero, List.set_cons_succ]
        refine take_over (i := 7) (by simp only [List.getElem?_toArray, List.getElem?_cons_succ, List.getElem?_cons_zero]; rfl) (by kernel_rfl) (by kernel_rfl) (by kernel_rfl) rfl (by exact fun _ _ _ h => h) (by rfl) (by assumption) ?_
        try simp only [Act.put, List.setIfInBounds_toArray, List.set_cons_zero, List.set_cons_succ]
        refine take_over (i := 8) (by simp only [List.getElem?_toArray, List.getElem?_cons_succ, List.getElem?_cons_zero]; rfl) (by kernel_rfl) (by kernel_rfl) (by kernel_rfl) rfl (by exact fun _ _ _ h => h) (by rfl) (by assumption) ?_
        try simp only [Act.put, List.setIfInBounds_toArray, List.set_cons_zero, List.set_cons_succ]
        refine take_over (i := 9) (by simp only [List.getElem?_toArray, List.getElem?_cons_succ, List.getElem?_cons_zero]; rfl) (by kernel_rfl) (by kernel_rfl) (by kernel_rfl) rfl (by exact fun _ _ _ h => h) (by rfl) (by assumption) ?_
        try simp only [Act.put, List.setIfInBounds_toArray, List.set_cons_zero, List.set_cons_succ]
        refine take_over (i := 10) (by simp only [List.getElem?_toArray, List.getElem?_cons_succ, List.getElem?_cons_zero]; rfl) (by kernel_rfl) (by kernel_rfl) (by kernel_rfl) rfl (by exact fun _ _ _ h => h) (by rfl) (by assumption) ?_
        try simp only [Act.put, List.setIfInBounds_toArray, List.set_cons_zero, List.set_cons_succ]
        refine take_over (i := 11) (by simp only [List.getElem?_toArray, List.getElem?_cons_succ, List.getElem?_cons_zero]; rfl) (by kernel_rfl) (by kernel_rfl) (by kernel_rfl) rfl (by exact fun _ _ _ h => h) (by rfl) (by assumption) ?_
        try simp only [Act.put, List.setIfInBounds_toArray, List.set_cons_zero, List.set_cons_succ]
        refine take_over (i := 12) (by simp only [List.getElem?_toArray, List.getElem?_cons_succ, List.getElem?_cons_zero]; rfl) (by kernel_rfl) (by kernel_rfl) (by kernel_rfl) rfl (by exact fun _ _ _ h => h) (by rfl) (by assumption) ?_
        try simp only [Act.put, List.setIfInBounds_toArray, List.set_cons_zero, List.set_cons_succ]
        refine take_over (i := 13) (by simp only [List.getElem?_toArray, List.getElem?_cons_succ, List.getElem?_cons_zero]; rfl) (by kernel_rfl) (by kernel_rfl) (by kernel_rfl) rfl (by exact fun _ _ _ h => h) (by rfl) (by assumption) ?_
        try simp only [Act.put, List.setIfInBounds_toArray, List.set_cons_zero, List.set_cons_succ]
        refine take_over (i := 14) (by simp only [List.getElem?_toArray, List.getElem?_cons_succ, List.getElem?_cons_zero]; rfl) (by kernel_rfl) (by kernel_rfl) (by kernel_rfl) rfl (by exact fun _ _ _ h => h) (by rfl) (by assumption) ?_
        try simp only [Act.put, List.setIfInBounds_toArray, List.set_cons_zero, List.set_cons_succ]
        refine take_over (i := 15) (by simp only [List.getElem?_toArray, List.getElem?_cons_succ, List.getElem?_cons_zero]; rfl) (by kernel_rfl) (by kernel_rfl) (by kernel_rfl) rfl (by exact fun _ _ _ h => h) (by rfl) (by assumption) ?_
        try simp only [Act.put, List.setIfInBounds_toArray, List.set_cons_zero, List.set_cons_succ]
        refine take_over (i := 16) (by simp only [List.getElem?_toArray, List.getElem?_cons_succ, List.getElem?_cons_zero]; rfl) (by kernel_rfl) (by kernel_rfl) (by kernel_rfl) rfl (by exact fun _ _ _ h => h) (by rfl) (by assumption) ?_
        try simp only [Act.put, List.setIfInBounds_toArray, List.set_cons_zero, List.set_cons_succ]
        refine take_runs (i := 17) (v := ?_) (by simp only [List.getElem?_toArray, List.getElem?_cons_succ, List.getElem?_cons_zero]; rfl) (by kernel_rfl) (by kernel_rfl) (by kernel_rfl) rfl (by exact fun _ _ _ h => h) (by rfl) ?_ (by assumption) ?_
        rotate_left
        · intro w hSw; (try dsimp only at hSw); go_simp; try (with_reducible rfl)
        try simp only [Act.put, List.setIfInBounds_toArray, List.set_cons_zero, List.set_cons_succ]
        refine wpAnyH_done (by kernel_rfl) ?_ _
        have b11 := hbel.trans ((hW.trans (b10.mono hW.size)).mono hbel.size)
        clear s0 s1 s2 s3 hHeld b9 b10
        try clear s4
        go_wp2
        go_ret
        exact ⟨ret_b HF.out.symm, b11⟩
      | true =>
        have HR := Lib.hid (fun w => (HR0.out w))
        rw [hrb] at HR
        clear HR0
        by_cases hz : k = 0
        · have HA := Lib.hid (HSTEP.out hrb (fun g => absurd g (by omega)))
          have hg : decide ((0 : Int) < (k : Int)) = false := decide_eq_false (by omega)
          have hgn : decide (0 < k) = false := decide_eq_false (by omega)
          clear hrb HBAD HSTEP H1 hz
          generalize (qs.getD k q0D).1 = id at *
          generalize (qs.getD k q0D).2.1 = tn at *
          generalize (qs.getD k q0D).2.2.1 = cs at *
          generalize (qs.getD k q0D).2.2.2 = os at *
          obtain ⟨ca, ccap, rfl⟩ := condsR_len hC
          obtain ⟨oa, ocap, rfl⟩ := ints_len hI
          go_wp2
          have hW : Below wr.heap.size wr (wr.alloc (.cells #[.int .i64 id, .int .i64 tn, .slice ca cs.length ccap, .slice oa os.length ocap] 59)) := (Below.refl _ wr).alloc (Nat.le_refl _) _
          have g0 := heap_alloc_new wr (.cells #[.int .i64 id, .int .i64 tn, .slice ca cs.length ccap, .slice oa os.length ocap] 59)
          have hlt2 : wr.heap.size < (wr.alloc (.cells #[.int .i64 id, .int .i64 tn, .slice ca cs.length ccap, .slice oa os.length ocap] 59)).heap.size := by simp
          generalize wr.alloc (.cells #[.int .i64 id, .int .i64 tn, .slice ca cs.length ccap, .slice oa os.length ocap] 59) = W at *
          have q0 := cell_of_row W _ 0 _ _ _ g0
          have q1 := cell_of_row W _ 1 _ _ _ g0
          have q2 := cell_of_row W _ 2 _ _ _ g0
          have q3 := cell_of_row W _ 3 _ _ _ g0
          simp at q0 q1 q2 q3
          have hCW := condsR_below hC hW
          have hIW := ints_below hI hW
          refine wp_region_held_drew (S := fun w' => w'.cell? ⟨wr.heap.size, 0, none⟩ = some (.int .i64 id) ∧ w'.cell? ⟨wr.heap.size, 1, none⟩ = some (.int .i64 tn) ∧ w'.cell? ⟨wr.heap.size, 2, none⟩ = some (.slice ca cs.length ccap) ∧ w'.cell? ⟨wr.heap.size, 3, none⟩ = some (.slice oa os.length ocap)) (by kernel_rfl) ⟨q0, q1, q2, q3⟩ (fun hHeld => ?_)
          refine take_runs (i := 0) (v := ?_) (by simp only [List.getElem?_toArray, List.getElem?_cons_succ, List.getElem?_cons_zero]; rfl) (by kernel_rfl) (by kernel_rfl) (by kernel_rfl) rfl (by exact fun _ _ _ h => h) (by rfl) ?_ (by assumption) ?_
          rotate_left
          · intro w hSw; (try dsimp only at hSw); go_simp; try (with_reducible rfl)
          try simp only [Act.put, List.setIfInBounds_toArray, List.set_cons_zero, List.set_cons_succ]
          refine wpAnyH_ready (rs := [1]) (by kernel_rfl) (by simp) ?_
          refine AllReadyH.cons (o := _) (by simp only [List.getElem?_toArray, List.getElem?_cons_succ, List.getElem?_cons_zero]; rfl) (fun K hK => ?_) AllReadyH.nil
          go_simp
          refine (HR.out _ (by exact condsR_heap hCW rfl) (by exact ints_heap hIW rfl)).mono ?_
          rintro e w8 ⟨rfl, b9⟩
          have b10 : Below W.heap.size W w8 := ⟨b9.os, b9.tape, b9.output, b9.size, b9.block⟩
          have s0 := (b10.cell (p := ⟨wr.heap.size, 0, none⟩) hlt2).trans q0
          have s1 := (b10.cell (p := ⟨wr.heap.size, 1, none⟩) hlt2).trans q1
          have s2 := (b10.cell (p := ⟨wr.heap.size, 2, none⟩) hlt2).trans q2
          have s3 := (b10.cell (p := ⟨wr.heap.size, 3, none⟩) hlt2).trans q3
          refine hK.out _ _ ⟨s0, s1, s2, s3⟩ (fun hHeld => ?_)
          clear hK K
          try simp only [Act.put, List.setIfInBounds_toArray, List.set_cons_zero, List.set_cons_succ]
          refine take_runs (i := 2) (v := ?_) (by simp only [List.getElem?_toArray, List.getElem?_cons_succ, List.getElem?_cons_zero]; rfl) (by kernel_rfl) (by kernel_rfl) (by kernel_rfl) rfl (by exact fun _ _ _ h => h) (by rfl) ?_ (by assumption) ?_
          rotate_left
          · intro w hSw; (try dsimp only at hSw); go_simp; try (with_reducible rfl)
          try simp only [Act.put, List.setIfInBounds_toArray, List.set_cons_zero, List.set_cons_succ]
          refine take_runs (i := 3) (v := ?_) (by simp only [List.getElem?_toArray, List.getElem?_cons_succ, List.getElem?_cons_zero]; rfl) (by kernel_rfl) (by kernel_rfl) (by kernel_rfl) rfl (by exact fun _ _ _ h => h) (by rfl) ?_ (by assumption) ?_
          rotate_left
          · intro w hSw; (try dsimp only at hSw); go_simp; try (with_reducible rfl)
          try simp only [Act.put, List.setIfInBounds_toArray, List.set_cons_zero, List.set_cons_succ]
          refine take_runs (i := 4) (v := ?_) (by simp only [List.getElem?_toArray, List.getElem?_cons_succ, List.getElem?_cons_zero]; rfl) (by kernel_rfl) (by kernel_rfl) (by kernel_rfl) rfl (by exact fun _ _ _ h => h) (by rfl) ?_ (by assumption) ?_
          rotate_left
          · intro w hSw; (try dsimp only at hSw); go_simp; try (with_reducible rfl)
          try simp only [Act.put, List.setIfInBounds_toArray, List.set_cons_zero, List.set_cons_succ]
          refine take_runs (i := 5) (v := ?_) (by simp only [List.getElem?_toArray, List.getElem?_cons_succ, List.getElem?_cons_zero]; rfl) (by kernel_rfl) (by kernel_rfl) (by kernel_rfl) rfl (by exact fun _ _ _ h => h) (by rfl) ?_ (by assumption) ?_
          rotate_left
          · intro w hSw; (try dsimp only at hSw); go_simp; try (with_reducible rfl)
          try simp only [Act.put, List.setIfInBounds_toArray, List.set_cons_zero, List.set_cons_succ]
          refine take_runs (i := 6) (v := ?_) (by simp only [List.getElem?_toArray, List.getElem?_cons_succ, List.getElem?_cons_zero]; rfl) (by kernel_rfl) (by kernel_rfl) (by kernel_rfl) rfl (by exact fun _ _ _ h => h) (by rfl) ?_ (by assumption) ?_
          rotate_left
          · intro w hSw; (try dsimp only at hSw); go_simp; try (with_reducible rfl)
          try simp only [Act.put, List.setIfInBounds_toArray, List.set_cons_zero, List.set_cons_succ]
          refine take_over (i := 7) (by simp only [List.getElem?_toArray, List.getElem?_cons_succ, List.getElem?_cons_zero]; rfl) (by kernel_rfl) (by kernel_rfl) (by kernel_rfl) rfl (by exact fun _ _ _ h => h) (by rfl) (by assumption) ?_
          try simp only [Act.put, List.setIfInBounds_toArray, List.set_cons_zero, List.set_cons_succ]
          refine take_over (i := 8) (by simp only [List.getElem?_toArray, List.getElem?_cons_succ, List.getElem?_cons_zero]; rfl) (by kernel_rfl) (by kernel_rfl) (by kernel_rfl) rfl (by exact fun _ _ _ h => h) (by rfl) (by assumption) ?_
          try simp only [Act.put, List.setIfInBounds_toArray, List.set_cons_zero, List.set_cons_succ]
          refine take_over (i := 9) (by simp only [List.getElem?_toArray, List.getElem?_cons_succ, List.getElem?_cons_zero]; rfl) (by kernel_rfl) (by kernel_rfl) (by kernel_rfl) rfl (by exact fun _ _ _ h => h) (by rfl) (by assumption) ?_
          try simp only [Act.put, List.setIfInBounds_toArray, List.set_cons_zero, List.set_cons_succ]
          refine take_over (i := 10) (by simp only [List.getElem?_toArray, List.getElem?_cons_succ, List.getElem?_cons_zero]; rfl) (by kernel_rfl) (by kernel_rfl) (by kernel_rfl) rfl (by exact fun _ _ _ h => h) (by rfl) (by assumption) ?_
          try simp only [Act.put, List.setIfInBounds_toArray, List.set_cons_zero, List.set_cons_succ]
          refine take_over (i := 11) (by simp only [List.getElem?_toArray, List.getElem?_cons_succ, List.getElem?_cons_zero]; rfl) (by kernel_rfl) (by kernel_rfl) (by kernel_rfl) rfl (by exact fun _ _ _ h => h) (by rfl) (by assumption) ?_
          try simp only [Act.put, List.setIfInBounds_toArray, List.set_cons_zero, List.set_cons_succ]
          refine take_over (i := 12) (by simp only [List.getElem?_toArray, List.getElem?_cons_succ, List.getElem?_cons_zero]; rfl) (by kernel_rfl) (by kernel_rfl) (by kernel_rfl) rfl (by exact fun _ _ _ h => h) (by rfl) (by assumption) ?_
          try simp only [Act.put, List.setIfInBounds_toArray, List.set_cons_zero, List.set_cons_succ]
          refine take_over (i := 13) (by simp only [List.getElem?_toArray, List.getElem?_cons_succ, List.getElem?_cons_zero]; rfl) (by kernel_rfl) (by kernel_rfl) (by kernel_rfl) rfl (by exact fun _ _ _ h => h) (by rfl) (by assumption) ?_
          try simp only [Act.put, List.setIfInBounds_toArray, List.set_cons_zero, List.set_cons_succ]
          refine take_over (i := 14) (by simp only [List.getElem?_toArray, List.getElem?_cons_succ, List.getElem?_cons_zero]; rfl) (by kernel_rfl) (by kernel_rfl) (by kernel_rfl) rfl (by exact fun _ _ _ h => h) (by rfl) (by assumption) ?_
          try simp only [Act.put, List.setIfInBounds_toArray, List.set_cons_zero, List.set_cons_succ]
          refine take_over (i := 15) (by simp only [List.getElem?_toArray, List.getElem?_cons_succ, List.getElem?_cons_zero]; rfl) (by kernel_rfl) (by kernel_rfl) (by kernel_rfl) rfl (by exact fun _ _ _ h => h) (by rfl) (by assumption) ?_
          try simp only [Act.put, List.setIfInBounds_toArray, List.set_cons_zero, List.set_cons_succ]
          refine take_runs (i := 16) (v := ?_) (by simp only [List.getElem?_toArray, List.getElem?_cons_succ, List.getElem?_cons_zero]; rfl) (by kernel_rfl) (by kernel_rfl) (by kernel_rfl) rfl (by exact fun _ _ _ h => h) (by rfl) ?_ (by assumption) ?_
          rotate_left
          · intro w hSw; (try dsimp only at hSw); go_simp; try (with_reducible rfl)
          try simp only [Act.put, List.setIfInBounds_toArray, List.set_cons_zero, List.set_cons_succ]
          refine take_runs (i := 17) (v := ?_) (by simp only [List.getElem?_toArray, List.getElem?_cons_succ, List.getElem?_cons_zero]; rfl) (by kernel_rfl) (by kernel_rfl) (by kernel_rfl) rfl (by exact fun _ _ _ h => h) (by rfl) ?_ (by assumption) ?_
          rotate_left
          · intro w hSw; (try dsimp only at hSw); go_simp; try (with_reducible rfl)
          try simp only [Act.put, List.setIfInBounds_toArray, List.set_cons_zero, List.set_cons_succ]
          refine wpAnyH_done (by kernel_rfl) ?_ _
          have b11 := hbel.trans ((hW.trans (b10.mono hW.size)).mono hbel.size)
          clear s0 s1 s2 s3 hHeld b9 b10
          try clear s4
          go_wp2
          go_roundw
          case rel => exact ⟨k + 1, by omega, by go_num, HA, b11⟩
          case measure => simp [intOf]; omega
        · obtain ⟨m, hkm⟩ : ∃ m, k = m + 1 := ⟨k - 1, by omega⟩
          have hml : m < qs.length := by omega
          obtain ⟨b', off', cap'', cv', ov', hv', _, hc0, _, _, _, _, _⟩ := queriesR_at H1.out hml
          simp only [Value.slice.injEq, Option.some.injEq, Addr.mk.injEq] at hv'
          obtain ⟨⟨rfl, rfl, _⟩, _, rfl⟩ := hv'
          have hg : decide ((0 : Int) < (k : Int)) = true := decide_eq_true (by omega)
          have hgn : decide (0 < k) = true := decide_eq_true (by omega)
          have j1 : (0 : Int) ≤ (m : Int) := by omega
          have j2 : (m : Int) < (qs.length : Int) := by omega
          have hsub : IntKind.i64.wrap ((k : Int) - 1) = (m : Int) := by rw [IntWalk.i64_in _ (by omega)]; omega
          rw [show k - 1 = m by omega] at HBAD HSTEP
          by_cases hle : (qs.getD k q0D).1 ≤ (qs.getD m q0D).1
          · have HF := Lib.hid (HBAD.out (Or.inr ⟨by omega, by omega⟩))
            have hd := decide_eq_true hle
            clear hrb HBAD HSTEP H1 hz hle hkm
            generalize (qs.getD k q0D).1 = id at *
            generalize (qs.getD k q0D).2.1 = tn at *
            generalize (qs.getD k q0D).2.2.1 = cs at *
            generalize (qs.getD k q0D).2.2.2 = os at *
            obtain ⟨ca, ccap, rfl⟩ := condsR_len hC
            obtain ⟨oa, ocap, rfl⟩ := ints_len hI
            generalize (qs.getD m q0D).1 = fp at *
            go_wp2
            have hW : Below wr.heap.size wr (wr.alloc (.cells #[.int .i64 id, .int .i64 tn, .slice ca cs.length ccap, .slice oa os.length ocap] 59)) := (Below.refl _ wr).alloc (Nat.le_refl _) _
            have g0 := heap_alloc_new wr (.cells #[.int .i64 id, .int .i64 tn, .slice ca cs.length ccap, .slice oa os.length ocap] 59)
            have hlt2 : wr.heap.size < (wr.alloc (.cells #[.int .i64 id, .int .i64 tn, .slice ca cs.length ccap, .slice oa os.length ocap] 59)).heap.size := by simp
            generalize wr.alloc (.cells #[.int .i64 id, .int .i64 tn, .slice ca cs.length ccap, .slice oa os.length ocap] 59) = W at *
            have q0 := cell_of_row W _ 0 _ _ _ g0
            have q1 := cell_of_row W _ 1 _ _ _ g0
            have q2 := cell_of_row W _ 2 _ _ _ g0
            have q3 := cell_of_row W _ 3 _ _ _ g0
            simp at q0 q1 q2 q3
            have hCW := condsR_below hC hW
            have hIW := ints_below hI hW
            have p0 := (hW.cell (p := ⟨b, off + m * 4, none⟩) hbl).trans hc0
            refine wp_region_held_drew (S := fun w' => w'.cell? ⟨wr.heap.size, 0, none⟩ = some (.int .i64 id) ∧ w'.cell? ⟨wr.heap.size, 1, none⟩ = some (.int .i64 tn) ∧ w'.cell? ⟨wr.heap.size, 2, none⟩ = some (.slice ca cs.length ccap) ∧ w'.cell? ⟨wr.heap.size, 3, none⟩ = some (.slice oa os.length ocap) ∧ w'.cell? ⟨b, off + m * 4, none⟩ = some (.int .i64 fp)) (by kernel_rfl) ⟨q0, q1, q2, q3, p0⟩ (fun hHeld => ?_)
            refine take_runs (i := 0) (v := ?_) (by simp only [List.getElem?_toArray, List.getElem?_cons_succ, List.getElem?_cons_zero]; rfl) (by kernel_rfl) (by kernel_rfl) (by kernel_rfl) rfl (by exact fun _ _ _ h => h) (by rfl) ?_ (by assumption) ?_
            rotate_left
            · intro w hSw; (try dsimp only at hSw); go_simp; try (with_reducible rfl)
            try simp only [Act.put, List.setIfInBounds_toArray, List.set_cons_zero, List.set_cons_succ]
            refine wpAnyH_ready (rs := [1]) (by kernel_rfl) (by simp) ?_
            refine AllReadyH.cons (o := _) (by simp only [List.getElem?_toArray, List.getElem?_cons_succ, List.getElem?_cons_zero]; rfl) (fun K hK => ?_) AllReadyH.nil
            go_simp
            refine (HR.out _ (by exact condsR_heap hCW rfl) (by exact ints_heap hIW rfl)).mono ?_
            rintro e w8 ⟨rfl, b9⟩
            have b10 : Below W.heap.size W w8 := ⟨b9.os, b9.tape, b9.output, b9.size, b9.block⟩
            have s0 := (b10.cell (p := ⟨wr.heap.size, 0, none⟩) hlt2).trans q0
            have s1 := (b10.cell (p := ⟨wr.heap.size, 1, none⟩) hlt2).trans q1
            have s2 := (b10.cell (p := ⟨wr.heap.size, 2, none⟩) hlt2).trans q2
            have s3 := (b10.cell (p := ⟨wr.heap.size, 3, none⟩) hlt2).trans q3
            have s4 := (b10.cell (p := ⟨b, off + m * 4, none⟩) (Nat.lt_of_lt_of_le hbl hW.size)).trans p0
            refine hK.out _ _ ⟨s0, s1, s2, s3, s4⟩ (fun hHeld => ?_)
            clear hK K
            try simp only [Act.put, List.setIfInBounds_toArray, List.set_cons_zero, List.set_cons_succ]
            refine take_runs (i := 2) (v := ?_) (by simp only [List.getElem?_toArray, List.getElem?_cons_succ, List.getElem?_cons_zero]; rfl) (by kernel_rfl) (by kernel_rfl) (by kernel_rfl) rfl (by exact fun _ _ _ h => h) (by rfl) ?_ (by assumption) ?_
            rotate_left
            · intro w hSw; (try dsimp only at hSw); go_simp; try (with_reducible rfl)
            try simp only [Act.put, List.setIfInBounds_toArray, List.set_cons_zero, List.set_cons_succ]
            refine take_runs (i := 3) (v := ?_) (by simp only [List.getElem?_toArray, List.getElem?_cons_succ, List.getElem?_cons_zero]; rfl) (by kernel_rfl) (by kernel_rfl) (by kernel_rfl) rfl (by exact fun _ _ _ h => h) (by rfl) ?_ (by assumption) ?_
            rotate_left
            · intro w hSw; (try dsimp only at hSw); go_simp; try (with_reducible rfl)
            try simp only [Act.put, List.setIfInBounds_toArray, List.set_cons_zero, List.set_cons_succ]
            refine take_runs (i := 4) (v := ?_) (by simp only [List.getElem?_toArray, List.getElem?_cons_succ, List.getElem?_cons_zero]; rfl) (by kernel_rfl) (by kernel_rfl) (by kernel_rfl) rfl (by exact fun _ _ _ h => h) (by rfl) ?_ (by assumption) ?_
            rotate_left
            · intro w hSw; (try dsimp only at hSw); go_simp; try (with_reducible rfl)
            try simp only [Act.put, List.setIfInBounds_toArray, List.set_cons_zero, List.set_cons_succ]
            refine take_runs (i := 5) (v := ?_) (by simp only [List.getElem?_toArray, List.getElem?_cons_succ, List.getElem?_cons_zero]; rfl) (by kernel_rfl) (by kernel_rfl) (by kernel_rfl) rfl (by exact fun _ _ _ h => h) (by rfl) ?_ (by assumption) ?_
            rotate_left
            · intro w hSw; (try dsimp only at hSw); go_simp; try (with_reducible rfl)
            try simp only [Act.put, List.setIfInBounds_toArray, List.set_cons_zero, List.set_cons_succ]
            refine take_runs (i := 6) (v := ?_) (by simp only [List.getElem?_toArray, List.getElem?_cons_succ, List.getElem?_cons_zero]; rfl) (by kernel_rfl) (by kernel_rfl) (by kernel_rfl) rfl (by exact fun _ _ _ h => h) (by rfl) ?_ (by assumption) ?_
            rotate_left
            · intro w hSw; (try dsimp only at hSw); go_simp; try (with_reducible rfl)
            try simp only [Act.put, List.setIfInBounds_toArray, List.set_cons_zero, List.set_cons_succ]
            refine take_runs (i := 7) (v := ?_) (by simp only [List.getElem?_toArray, List.getElem?_cons_succ, List.getElem?_cons_zero]; rfl) (by kernel_rfl) (by kernel_rfl) (by kernel_rfl) rfl (by exact fun _ _ _ h => h) (by rfl) ?_ (by assumption) ?_
            rotate_left
            · intro w hSw; (try dsimp only at hSw); go_simp; try (with_reducible rfl)
            try simp only [Act.put, List.setIfInBounds_toArray, List.set_cons_zero, List.set_cons_succ]
            refine take_runs (i := 8) (v := ?_) (by simp only [List.getElem?_toArray, List.getElem?_cons_succ, List.getElem?_cons_zero]; rfl) (by kernel_rfl) (by kernel_rfl) (by kernel_rfl) rfl (by exact fun _ _ _ h => h) (by rfl) ?_ (by assumption) ?_
            rotate_left
            · intro w hSw; (try dsimp only at hSw); go_simp; try (with_reducible rfl)
            try simp only [Act.put, List.setIfInBounds_toArray, List.set_cons_zero, List.set_cons_succ]
            refine take_runs (i := 9) (v := ?_) (by simp only [List.getElem?_toArray, List.getElem?_cons_succ, List.getElem?_cons_zero]; rfl) (by kernel_rfl) (by kernel_rfl) (by kernel_rfl) rfl (by exact fun _ _ _ h => h) (by rfl) ?_ (by assumption) ?_
            rotate_left
            · intro w hSw; (try dsimp only at hSw); go_simp; try (with_reducible rfl)
            try simp only [Act.put, List.setIfInBounds_toArray, List.set_cons_zero, List.set_cons_succ]
            refine take_runs (i := 10) (v := ?_) (by simp only [List.getElem?_toArray, List.getElem?_cons_succ, List.getElem?_cons_zero]; rfl) (by kernel_rfl) (by kernel_rfl) (by kernel_rfl) rfl (by exact fun _ _ _ h => h) (by rfl) ?_ (by assumption) ?_
            rotate_left
            · intro w hSw; (try dsimp only at hSw); go_simp; try (with_reducible rfl)
            try simp only [Act.put, List.setIfInBounds_toArray, List.set_cons_zero, List.set_cons_succ]
            refine take_runs (i := 11) (v := ?_) (by simp only [List.getElem?_toArray, List.getElem?_cons_succ, List.getElem?_cons_zero]; rfl) (by kernel_rfl) (by kernel_rfl) (by kernel_rfl) rfl (by exact fun _ _ _ h => h) (by rfl) ?_ (by assumption) ?_
            rotate_left
            · intro w hSw; (try dsimp only at hSw); go_simp; try (with_reducible rfl)
            try simp only [Act.put, List.setIfInBounds_toArray, List.set_cons_zero, List.set_cons_succ]
            refine take_runs (i := 12) (v := ?_) (by simp only [List.getElem?_toArray, List.getElem?_cons_succ, List.getElem?_cons_zero]; rfl) (by kernel_rfl) (by kernel_rfl) (by kernel_rfl) rfl (by exact fun _ _ _ h => h) (by rfl) ?_ (by assumption) ?_
            rotate_left
            · intro w hSw; (try dsimp only at hSw); go_simp; try (with_reducible rfl)
            try simp only [Act.put, List.setIfInBounds_toArray, List.set_cons_zero, List.set_cons_succ]
            refine take_runs (i := 13) (v := ?_) (by simp only [List.getElem?_toArray, List.getElem?_cons_succ, List.getElem?_cons_zero]; rfl) (by kernel_rfl) (by kernel_rfl) (by kernel_rfl) rfl (by exact fun _ _ _ h => h) (by rfl) ?_ (by assumption) ?_
            rotate_left
            · intro w hSw; (try dsimp only at hSw); go_simp; try (with_reducible rfl)
            try simp only [Act.put, List.setIfInBounds_toArray, List.set_cons_zero, List.set_cons_succ]
            refine take_runs (i := 14) (v := ?_) (by simp only [List.getElem?_toArray, List.getElem?_cons_succ, List.getElem?_cons_zero]; rfl) (by kernel_rfl) (by kernel_rfl) (by kernel_rfl) rfl (by exact fun _ _ _ h => h) (by rfl) ?_ (by assumption) ?_
            rotate_left
            · intro w hSw; (try dsimp only at hSw); go_simp; try (with_reducible rfl)
            try simp only [Act.put, List.setIfInBounds_toArray, List.set_cons_zero, List.set_cons_succ]
            refine take_runs (i := 15) (v := ?_) (by simp only [List.getElem?_toArray, List.getElem?_cons_succ, List.getElem?_cons_zero]; rfl) (by kernel_rfl) (by kernel_rfl) (by kernel_rfl) rfl (by exact fun _ _ _ h => h) (by rfl) ?_ (by assumption) ?_
            rotate_left
            · intro w hSw; (try dsimp only at hSw); go_simp; try (with_reducible rfl)
            try simp only [Act.put, List.setIfInBounds_toArray, List.set_cons_zero, List.set_cons_succ]
            refine take_runs (i := 16) (v := ?_) (by simp only [List.getElem?_toArray, List.getElem?_cons_succ, List.getElem?_cons_zero]; rfl) (by kernel_rfl) (by kernel_rfl) (by kernel_rfl) rfl (by exact fun _ _ _ h => h) (by rfl) ?_ (by assumption) ?_
            rotate_left
            · intro w hSw; (try dsimp only at hSw); go_simp; try (with_reducible rfl)
            try simp only [Act.put, List.setIfInBounds_toArray, List.set_cons_zero, List.set_cons_succ]
            refine take_runs (i := 17) (v := ?_) (by simp only [List.getElem?_toArray, List.getElem?_cons_succ, List.getElem?_cons_zero]; rfl) (by kernel_rfl) (by kernel_rfl) (by kernel_rfl) rfl (by exact fun _ _ _ h => h) (by rfl) ?_ (by assumption) ?_
            rotate_left
            · intro w hSw; (try dsimp only at hSw); go_simp; try (with_reducible rfl)
            try simp only [Act.put, List.setIfInBounds_toArray, List.set_cons_zero, List.set_cons_succ]
            refine wpAnyH_done (by kernel_rfl) ?_ _
            have b11 := hbel.trans ((hW.trans (b10.mono hW.size)).mono hbel.size)
            clear s0 s1 s2 s3 hHeld b9 b10
            try clear s4
            go_wp2
            go_ret
            exact ⟨ret_b HF.out.symm, b11⟩
          · have HA := Lib.hid (HSTEP.out hrb (fun _ => by omega))
            have hd := decide_eq_false hle
            clear hrb HBAD HSTEP H1 hz hle hkm
            generalize (qs.getD k q0D).1 = id at *
            generalize (qs.getD k q0D).2.1 = tn at *
            generalize (qs.getD k q0D).2.2.1 = cs at *
            generalize (qs.getD k q0D).2.2.2 = os at *
            obtain ⟨ca, ccap, rfl⟩ := condsR_len hC
            obtain ⟨oa, ocap, rfl⟩ := ints_len hI
            generalize (qs.getD m q0D).1 = fp at *
            go_wp2
            have hW : Below wr.heap.size wr (wr.alloc (.cells #[.int .i64 id, .int .i64 tn, .slice ca cs.length ccap, .slice oa os.length ocap] 59)) := (Below.refl _ wr).alloc (Nat.le_refl _) _
            have g0 := heap_alloc_new wr (.cells #[.int .i64 id, .int .i64 tn, .slice ca cs.length ccap, .slice oa os.length ocap] 59)
            have hlt2 : wr.heap.size < (wr.alloc (.cells #[.int .i64 id, .int .i64 tn, .slice ca cs.length ccap, .slice oa os.length ocap] 59)).heap.size := by simp
            generalize wr.alloc (.cells #[.int .i64 id, .int .i64 tn, .slice ca cs.length ccap, .slice oa os.length ocap] 59) = W at *
            have q0 := cell_of_row W _ 0 _ _ _ g0
            have q1 := cell_of_row W _ 1 _ _ _ g0
            have q2 := cell_of_row W _ 2 _ _ _ g0
            have q3 := cell_of_row W _ 3 _ _ _ g0
            simp at q0 q1 q2 q3
            have hCW := condsR_below hC hW
            have hIW := ints_below hI hW
            have p0 := (hW.cell (p := ⟨b, off + m * 4, none⟩) hbl).trans hc0
            refine wp_region_held_drew (S := fun w' => w'.cell? ⟨wr.heap.size, 0, none⟩ = some (.int .i64 id) ∧ w'.cell? ⟨wr.heap.size, 1, none⟩ = some (.int .i64 tn) ∧ w'.cell? ⟨wr.heap.size, 2, none⟩ = some (.slice ca cs.length ccap) ∧ w'.cell? ⟨wr.heap.size, 3, none⟩ = some (.slice oa os.length ocap) ∧ w'.cell? ⟨b, off + m * 4, none⟩ = some (.int .i64 fp)) (by kernel_rfl) ⟨q0, q1, q2, q3, p0⟩ (fun hHeld => ?_)
            refine take_runs (i := 0) (v := ?_) (by simp only [List.getElem?_toArray, List.getElem?_cons_succ, List.getElem?_cons_zero]; rfl) (by kernel_rfl) (by kernel_rfl) (by kernel_rfl) rfl (by exact fun _ _ _ h => h) (by rfl) ?_ (by assumption) ?_
            rotate_left
            · intro w hSw; (try dsimp only at hSw); go_simp; try (with_reducible rfl)
            try simp only [Act.put, List.setIfInBounds_toArray, List.set_cons_zero, List.set_cons_succ]
            refine wpAnyH_ready (rs := [1]) (by kernel_rfl) (by simp) ?_
            refine AllReadyH.cons (o := _) (by simp only [List.getElem?_toArray, List.getElem?_cons_succ, List.getElem?_cons_zero]; rfl) (fun K hK => ?_) AllReadyH.nil
            go_simp
            refine (HR.out _ (by exact condsR_heap hCW rfl) (by exact ints_heap hIW rfl)).mono ?_
            rintro e w8 ⟨rfl, b9⟩
            have b10 : Below W.heap.size W w8 := ⟨b9.os, b9.tape, b9.output, b9.size, b9.block⟩
            have s0 := (b10.cell (p := ⟨wr.heap.size, 0, none⟩) hlt2).trans q0
            have s1 := (b10.cell (p := ⟨wr.heap.size, 1, none⟩) hlt2).trans q1
            have s2 := (b10.cell (p := ⟨wr.heap.size, 2, none⟩) hlt2).trans q2
            have s3 := (b10.cell (p := ⟨wr.heap.size, 3, none⟩) hlt2).trans q3
            have s4 := (b10.cell (p := ⟨b, off + m * 4, none⟩) (Nat.lt_of_lt_of_le hbl hW.size)).trans p0
            refine hK.out _ _ ⟨s0, s1, s2, s3, s4⟩ (fun hHeld => ?_)
            clear hK K
            try simp only [Act.put, List.setIfInBounds_toArray, List.set_cons_zero, List.set_cons_succ]
            refine take_runs (i := 2) (v := ?_) (by simp only [List.getElem?_toArray, List.getElem?_cons_succ, List.getElem?_cons_zero]; rfl) (by kernel_rfl) (by kernel_rfl) (by kernel_rfl) rfl (by exact fun _ _ _ h => h) (by rfl) ?_ (by assumption) ?_
            rotate_left
            · intro w hSw; (try dsimp only at hSw); go_simp; try (with_reducible rfl)
            try simp only [Act.put, List.setIfInBounds_toArray, List.set_cons_zero, List.set_cons_succ]
            refine take_runs (i := 3) (v := ?_) (by simp only [List.getElem?_toArray, List.getElem?_cons_succ, List.getElem?_cons_zero]; rfl) (by kernel_rfl) (by kernel_rfl) (by kernel_rfl) rfl (by exact fun _ _ _ h => h) (by rfl) ?_ (by assumption) ?_
            rotate_left
            · intro w hSw; (try dsimp only at hSw); go_simp; try (with_reducible rfl)
            try simp only [Act.put, List.setIfInBounds_toArray, List.set_cons_zero, List.set_cons_succ]
            refine take_runs (i := 4) (v := ?_) (by simp only [List.getElem?_toArray, List.getElem?_cons_succ, List.getElem?_cons_zero]; rfl) (by kernel_rfl) (by kernel_rfl) (by kernel_rfl) rfl (by exact fun _ _ _ h => h) (by rfl) ?_ (by assumption) ?_
            rotate_left
            · intro w hSw; (try dsimp only at hSw); go_simp; try (with_reducible rfl)
            try simp only [Act.put, List.setIfInBounds_toArray, List.set_cons_zero, List.set_cons_succ]
            refine take_runs (i := 5) (v := ?_) (by simp only [List.getElem?_toArray, List.getElem?_cons_succ, List.getElem?_cons_zero]; rfl) (by kernel_rfl) (by kernel_rfl) (by kernel_rfl) rfl (by exact fun _ _ _ h => h) (by rfl) ?_ (by assumption) ?_
            rotate_left
            · intro w hSw; (try dsimp only at hSw); go_simp; try (with_reducible rfl)
            try simp only [Act.put, List.setIfInBounds_toArray, List.set_cons_zero, List.set_cons_succ]
            refine take_runs (i := 6) (v := ?_) (by simp only [List.getElem?_toArray, List.getElem?_cons_succ, List.getElem?_cons_zero]; rfl) (by kernel_rfl) (by kernel_rfl) (by kernel_rfl) rfl (by exact fun _ _ _ h => h) (by rfl) ?_ (by assumption) ?_
            rotate_left
            · intro w hSw; (try dsimp only at hSw); go_simp; try (with_reducible rfl)
            try simp only [Act.put, List.setIfInBounds_toArray, List.set_cons_zero, List.set_cons_succ]
            refine take_runs (i := 7) (v := ?_) (by simp only [List.getElem?_toArray, List.getElem?_cons_succ, List.getElem?_cons_zero]; rfl) (by kernel_rfl) (by kernel_rfl) (by kernel_rfl) rfl (by exact fun _ _ _ h => h) (by rfl) ?_ (by assumption) ?_
            rotate_left
            · intro w hSw; (try dsimp only at hSw); go_simp; try (with_reducible rfl)
            try simp only [Act.put, List.setIfInBounds_toArray, List.set_cons_zero, List.set_cons_succ]
            refine take_runs (i := 8) (v := ?_) (by simp only [List.getElem?_toArray, List.getElem?_cons_succ, List.getElem?_cons_zero]; rfl) (by kernel_rfl) (by kernel_rfl) (by kernel_rfl) rfl (by exact fun _ _ _ h => h) (by rfl) ?_ (by assumption) ?_
            rotate_left
            · intro w hSw; (try dsimp only at hSw); go_simp; try (with_reducible rfl)
            try simp only [Act.put, List.setIfInBounds_toArray, List.set_cons_zero, List.set_cons_succ]
            refine take_runs (i := 9) (v := ?_) (by simp only [List.getElem?_toArray, List.getElem?_cons_succ, List.getElem?_cons_zero]; rfl) (by kernel_rfl) (by kernel_rfl) (by kernel_rfl) rfl (by exact fun _ _ _ h => h) (by rfl) ?_ (by assumption) ?_
            rotate_left
            · intro w hSw; (try dsimp only at hSw); go_simp; try (with_reducible rfl)
            try simp only [Act.put, List.setIfInBounds_toArray, List.set_cons_zero, List.set_cons_succ]
            refine take_runs (i := 10) (v := ?_) (by simp only [List.getElem?_toArray, List.getElem?_cons_succ, List.getElem?_cons_zero]; rfl) (by kernel_rfl) (by kernel_rfl) (by kernel_rfl) rfl (by exact fun _ _ _ h => h) (by rfl) ?_ (by assumption) ?_
            rotate_left
            · intro w hSw; (try dsimp only at hSw); go_simp; try (with_reducible rfl)
            try simp only [Act.put, List.setIfInBounds_toArray, List.set_cons_zero, List.set_cons_succ]
            refine take_runs (i := 11) (v := ?_) (by simp only [List.getElem?_toArray, List.getElem?_cons_succ, List.getElem?_cons_zero]; rfl) (by kernel_rfl) (by kernel_rfl) (by kernel_rfl) rfl (by exact fun _ _ _ h => h) (by rfl) ?_ (by assumption) ?_
            rotate_left
            · intro w hSw; (try dsimp only at hSw); go_simp; try (with_reducible rfl)
            try simp only [Act.put, List.setIfInBounds_toArray, List.set_cons_zero, List.set_cons_succ]
            refine take_runs (i := 12) (v := ?_) (by simp only [List.getElem?_toArray, List.getElem?_cons_succ, List.getElem?_cons_zero]; rfl) (by kernel_rfl) (by kernel_rfl) (by kernel_rfl) rfl (by exact fun _ _ _ h => h) (by rfl) ?_ (by assumption) ?_
            rotate_left
            · intro w hSw; (try dsimp only at hSw); go_simp; try (with_reducible rfl)
            try simp only [Act.put, List.setIfInBounds_toArray, List.set_cons_zero, List.set_cons_succ]
            refine take_runs (i := 13) (v := ?_) (by simp only [List.getElem?_toArray, List.getElem?_cons_succ, List.getElem?_cons_zero]; rfl) (by kernel_rfl) (by kernel_rfl) (by kernel_rfl) rfl (by exact fun _ _ _ h => h) (by rfl) ?_ (by assumption) ?_
            rotate_left
            · intro w hSw; (try dsimp only at hSw); go_simp; try (with_reducible rfl)
            try simp only [Act.put, List.setIfInBounds_toArray, List.set_cons_zero, List.set_cons_succ]
            refine take_runs (i := 14) (v := ?_) (by simp only [List.getElem?_toArray, List.getElem?_cons_succ, List.getElem?_cons_zero]; rfl) (by kernel_rfl) (by kernel_rfl) (by kernel_rfl) rfl (by exact fun _ _ _ h => h) (by rfl) ?_ (by assumption) ?_
            rotate_left
            · intro w hSw; (try dsimp only at hSw); go_simp; try (with_reducible rfl)
            try simp only [Act.put, List.setIfInBounds_toArray, List.set_cons_zero, List.set_cons_succ]
            refine take_runs (i := 15) (v := ?_) (by simp only [List.getElem?_toArray, List.getElem?_cons_succ, List.getElem?_cons_zero]; rfl) (by kernel_rfl) (by kernel_rfl) (by kernel_rfl) rfl (by exact fun _ _ _ h => h) (by rfl) ?_ (by assumption) ?_
            rotate_left
            · intro w hSw; (try dsimp only at hSw); go_simp; try (with_reducible rfl)
            try simp only [Act.put, List.setIfInBounds_toArray, List.set_cons_zero, List.set_cons_succ]
            refine take_runs (i := 16) (v := ?_) (by simp only [List.getElem?_toArray, List.getElem?_cons_succ, List.getElem?_cons_zero]; rfl) (by kernel_rfl) (by kernel_rfl) (by kernel_rfl) rfl (by exact fun _ _ _ h => h) (by rfl) ?_ (by assumption) ?_
            rotate_left
            · intro w hSw; (try dsimp only at hSw); go_simp; try (with_reducible rfl)
            try simp only [Act.put, List.setIfInBounds_toArray, List.set_cons_zero, List.set_cons_succ]
            refine take_runs (i := 17) (v := ?_) (by simp only [List.getElem?_toArray, List.getElem?_cons_succ, List.getElem?_cons_zero]; rfl) (by kernel_rfl) (by kernel_rfl) (by kernel_rfl) rfl (by exact fun _ _ _ h => h) (by rfl) ?_ (by assumption) ?_
            rotate_left
            · intro w hSw; (try dsimp only at hSw); go_simp; try (with_reducible rfl)
            try simp only [Act.put, List.setIfInBounds_toArray, List.set_cons_zero, List.set_cons_succ]
            refine wpAnyH_done (by kernel_rfl) ?_ _
            have b11 := hbel.trans ((hW.trans (b10.mono hW.size)).mono hbel.size)
            clear s0 s1 s2 s3 hHeld b9 b10
            try clear s4
            go_wp2
            go_roundw
            case rel => exact ⟨k + 1, by omega, by go_num, HA, b11⟩
            case measure => simp [intOf]; omega
    · obtain rfl : k = qs.length := by omega
      have HA := Lib.hid (HT.out hall.out)
      clear hall
      go_wp2
      go_ret
      exact ⟨ret_b HA.out.symm, hbel⟩
end Go.Proofs.YtmkcfkblfjhnhaaDoor
namespace Go.Proofs.YtmkcfkblfjhnhaaDoor
open Go.RowKit
set_option linter.unusedVariables false
set_option linter.unusedSimpArgs false
/-- The slice v owns the intervals cs (from, to, value), in a block from B on. -/
def OwnsI (w : World) (B : Nat) (v : Value) (cs : List CondD) : Prop := w.ownsRow B 74 3 v cs.length (flatC cs)
theorem ownsI_conds {w : World} {B : Nat} {v : Value} {cs : List CondD} (h : OwnsI w B v cs) : CondsR w v cs := by
  have h1' := h
  rcases h.2 with ⟨rfl, h0⟩ | ⟨g, cap, cur, rfl, hb, hg, hn, hm, hcs, htake⟩
  · exact Or.inl ⟨List.eq_nil_of_length_eq_zero h0, none, 0, rfl⟩
  · refine Or.inr ⟨g, 0, cap, rfl, hn, (Array.getElem?_eq_some_iff.1 hg).1, fun j hj => ?_⟩
    obtain ⟨f1, f2, f3⟩ := flatC_at cs j hj
    refine ⟨?_, ?_, ?_⟩
    · rw [Nat.zero_add, World.ownsRow.cellAt h1' (j * 3) (by omega)]; exact f1
    · rw [Nat.zero_add, World.ownsRow.cellAt h1' (j * 3 + 1) (by omega)]; exact f2
    · rw [Nat.zero_add, World.ownsRow.cellAt h1' (j * 3 + 2) (by omega)]; exact f3
theorem ownsI_below {w w' : World} {B : Nat} {v : Value} {cs : List CondD} (h : OwnsI w B v cs) (hb : Below w.heap.size w w') : OwnsI w' B v cs := ownsRow_below h hb
theorem ownsI_store {w : World} {B g n cap : Nat} {cs : List CondD} (h : OwnsI w B (.slice (some ⟨g, 0, none⟩) n cap) cs) {k : Nat} (hk : k < cs.length) (c : CondD) :
    OwnsI (((w.setCell ⟨g, k * 3, none⟩ (.int .i64 c.1)).setCell ⟨g, k * 3 + 1, none⟩ (.int .i64 c.2.1)).setCell ⟨g, k * 3 + 2, none⟩ (.int .i64 c.2.2)) B (.slice (some ⟨g, 0, none⟩) n cap) (cs.set k c) := by
  have hn : n = cs.length := by
    rcases h.2 with ⟨h', _⟩ | ⟨_, _, _, h', _⟩
    · simp at h'
    · simp only [Value.slice.injEq] at h'; exact h'.2.1
  subst hn
  have s1 := (World.ownsRow.stored h (k * 3) (.int .i64 c.1)).1
  have s2 := (World.ownsRow.stored s1 (k * 3 + 1) (.int .i64 c.2.1)).1
  have s3 := (World.ownsRow.stored s2 (k * 3 + 2) (.int .i64 c.2.2)).1
  rw [flatC_set cs k c hk] at s3
  unfold OwnsI
  rw [List.length_set]
  exact s3
theorem ownsI_cells {w : World} {B g n cap : Nat} {cs : List CondD} (h : OwnsI w B (.slice (some ⟨g, 0, none⟩) n cap) cs) {k : Nat} (hk : k < cs.length) :
    (∃ x, w.cell? ⟨g, k * 3, none⟩ = some x) ∧ (∃ x, w.cell? ⟨g, k * 3 + 1, none⟩ = some x) ∧ (∃ x, w.cell? ⟨g, k * 3 + 2, none⟩ = some x) ∧ w.frozen? ⟨g, k * 3, none⟩ = false ∧ w.frozen? ⟨g, k * 3 + 1, none⟩ = false ∧ w.frozen? ⟨g, k * 3 + 2, none⟩ = false := by
  have hn : n = cs.length := by
    rcases h.2 with ⟨h', _⟩ | ⟨_, _, _, h', _⟩
    · simp at h'
    · simp only [Value.slice.injEq] at h'; exact h'.2.1
  subst hn
  obtain ⟨f1, f2, f3⟩ := flatC_at cs k hk
  exact ⟨⟨_, (World.ownsRow.cellAt h (k * 3) (by omega)).trans f1⟩, ⟨_, (World.ownsRow.cellAt h (k * 3 + 1) (by omega)).trans f2⟩, ⟨_, (World.ownsRow.cellAt h (k * 3 + 2) (by omega)).trans f3⟩, World.ownsRow.frozenAt h _, World.ownsRow.frozenAt h _, World.ownsRow.frozenAt h _⟩
theorem ownsI_made {w : World} {B g n : Nat} (h : w.ownsRow B 74 3 (.slice (some ⟨g, 0, none⟩) n n) n (madeCells #[Value.int .i64 0, Value.int .i64 0, Value.int .i64 0] (n * 3)).toList) : OwnsI w B (.slice (some ⟨g, 0, none⟩) n n) (List.replicate n (0, 0, 0)) := by
  rw [flatC_zero] at h
  unfold OwnsI
  simpa using h
theorem Tryd.infoIv : (Tryd.prog.info? 74).map (fun i => (i.zero, i.size, i.bytes)) = some (some (.agg #[.int .i64 0, .int .i64 0, .int .i64 0]), 3, 24) := by kernel_rfl
theorem range_none {cs : List CondD} {f : Int} (h : ∀ j, j < cs.length → ¬ (cs.getD j (0, 0, 0)).1 = f) : rangeC cs f = (0, 99) := by
  unfold rangeC
  have : cs.find? (fun c => decide (c.1 = f)) = none := by
    rw [List.find?_eq_none]
    intro c hc
    obtain ⟨j, hj, rfl⟩ := List.getElem_of_mem hc
    have e : cs.getD j (0, 0, 0) = cs[j] := by simp [List.getD, hj]
    have := h j hj
    rw [e] at this
    simpa using this
  rw [this]
theorem range_at {cs : List CondD} {f : Int} {k : Nat} (hk : k < cs.length) (h : ∀ j, j < k → ¬ (cs.getD j (0, 0, 0)).1 = f) (he : (cs.getD k (0, 0, 0)).1 = f) : rangeC cs f = ((cs.getD k (0, 0, 0)).2.1, (cs.getD k (0, 0, 0)).2.2) := by
  unfold rangeC
  have e : cs.getD k (0, 0, 0) = cs[k] := by simp [List.getD, hk]
  have : cs.find? (fun c => decide (c.1 = f)) = some (cs.getD k (0, 0, 0)) := by
    rw [List.find?_eq_some_iff_getElem]
    refine ⟨by simpa using he, k, hk, e.symm, fun j hj => ?_⟩
    have e2 : cs.getD j (0, 0, 0) = cs[j] := by simp [List.getD, Nat.lt_trans hj hk]
    have := h j hj
    rw [e2] at this
    simpa using this
  rw [this]
set_option maxHeartbeats 4000000 in
set_option maxRecDepth 100000 in
theorem rangeOf_any (v : Value) (cs : List CondD) (f : Int) (w : World) (h : CondsR w v cs) (hn : cs.length ≤ 1048576) :
    Calls Tryd.prog 46 #[v, .int .i64 f] w fun e w' => e = .returned (.tuple #[.int .i64 (rangeC cs f).1, .int .i64 (rangeC cs f).2]) ∧ Below w.heap.size w w' := by
  have H := Lib.hid h
  obtain ⟨a, cap, rfl⟩ := condsR_len h
  clear h
  go_enter Tryd.func46, Tryd.ntmps46
  go_wp2
  go_loopw [10] (fun i wr => ∃ k : Nat, k ≤ cs.length ∧ i = .int .i64 k ∧ Hid (∀ j, j < k → ¬ (cs.getD j (0, 0, 0)).1 = f) ∧ Below w.heap.size w wr) (fun i _ => cs.length - (intOf i).toNat)
  case atStart => exact ⟨0, Nat.zero_le _, rfl, Lib.hid (fun j hj => by omega), Below.refl _ _⟩
  case round =>
    obtain ⟨k, hk, rfl, hall, hbel⟩ := hrel
    by_cases hlt : k < cs.length
    · obtain ⟨b, off, cap', hv, hbl, hc1, hc2, hc3⟩ := condsR_at (condsR_below H.out hbel) hlt
      simp only [Value.slice.injEq] at hv
      obtain ⟨rfl, _, rfl⟩ := hv
      have i1 : (0 : Int) ≤ (k : Int) := by omega
      have i2 : (k : Int) < (cs.length : Int) := by omega
      have HAT := Lib.hid (range_at (f := f) hlt hall.out)
      have HNX : Hid (¬ (cs.getD k (0, 0, 0)).1 = f → ∀ j, j < k + 1 → ¬ (cs.getD j (0, 0, 0)).1 = f) := Lib.hid (fun he j hj => by
        by_cases e : j = k
        · exact e ▸ he
        · exact hall.out j (by omega))
      clear hall
      generalize cs.getD k (0, 0, 0) = c at *
      obtain ⟨cf, lo, hi⟩ := c
      simp only at hc1 hc2 hc3 HAT HNX
      have b3 := hbel.alloc hbel.size (.cells #[.int .i64 cf, .int .i64 lo, .int .i64 hi] 92)
      by_cases he : cf = f
      · have HR := Lib.hid (HAT.out he)
        subst he
        clear HAT HNX
        go_wp2
        go_quiet (fail)
        go_wp2
        go_ret2
        exact ⟨by rw [HR.out]; rfl, below_dn b3 _⟩
      · have HN := Lib.hid (HNX.out he)
        have hne : (cf == f) = false := by simp [he]
        clear HAT HNX
        go_wp2
        go_roundw
        case rel => exact ⟨k + 1, by omega, by go_num, HN, b3⟩
        case measure => simp [intOf]; omega
    · obtain rfl : k = cs.length := by omega
      have HR := Lib.hid (range_none hall.out)
      clear hall
      go_wp2
      go_ret2
      exact ⟨by rw [HR.out]; rfl, hbel⟩
set_option maxHeartbeats 4000000 in
set_option maxRecDepth 100000 in
theorem contains_is (a b c v : Int) (w : World) : Calls Tryd.prog 47 #[.agg #[.int .i64 a, .int .i64 b, .int .i64 c], .int .i64 v] w fun e w' => e = .returned (.bool (decide (a ≤ v ∧ v ≤ b))) ∧ Below w.heap.size w w' := by
  have hb : Below w.heap.size w (w.alloc (.cells #[.int .i64 a, .int .i64 b, .int .i64 c] 74)) := (Below.refl _ w).alloc (Nat.le_refl _) _
  obtain ⟨r, hr⟩ : ∃ r, decide (a ≤ v ∧ v ≤ b) = r := ⟨_, rfl⟩
  rw [hr]
  by_cases h1 : a ≤ v
  · by_cases h2 : v ≤ b
    · have HT : Hid (r = true) := Lib.hid (by rw [← hr]; exact decide_eq_true ⟨h1, h2⟩)
      clear hr
      go_enter Tryd.func47, Tryd.ntmps47
      go_wp2
      go_ret
      exact ⟨ret_b HT.out.symm, hb⟩
    · have HT : Hid (r = false) := Lib.hid (by rw [← hr]; exact decide_eq_false (fun g => h2 g.2))
      clear hr
      go_enter Tryd.func47, Tryd.ntmps47
      go_wp2
      go_ret
      exact ⟨ret_b HT.out.symm, hb⟩
  · have HT : Hid (r = false) := Lib.hid (by rw [← hr]; exact decide_eq_false (fun g => h1 g.1))
    clear hr
    go_enter Tryd.func47, Tryd.ntmps47
    go_wp2
    go_ret
    exact ⟨ret_b HT.out.symm, hb⟩
def admV (f : Int) (q : QD) : CondD := ((rangeC q.2.2.1 f).1, (rangeC q.2.2.1 f).2, q.1)
def admL (a : List QD) (f : Int) : List CondD := a.map (admV f)
theorem adm_copied (a : List QD) (f : Int) (k : Nat) (h : k < a.length) : ((a.take k).map (admV f) ++ List.replicate (a.length - k) ((0, 0, 0) : CondD)).set k (admV f (a.getD k q0D)) = (a.take (k + 1)).map (admV f) ++ List.replicate (a.length - (k + 1)) (0, 0, 0) := by
  have e : a.getD k q0D = a[k] := by simp [List.getD, h]
  rw [e, List.take_succ_eq_append_getElem h, List.map_append, List.set_append_right _ _ (by simp; omega)]
  simp only [List.length_map, List.length_take, Nat.min_eq_left (Nat.le_of_lt h), Nat.sub_self]
  rw [show a.length - k = (a.length - (k + 1)) + 1 by omega, List.replicate_succ, List.set_cons_zero]
  simp
set_option maxHeartbeats 8000000 in
set_option maxRecDepth 100000 in
theorem admissions_any (v : Value) (a : List QD) (f : Int) (w : World) (h : QueriesR w v a) (hs : szQL a ≤ 1048576) :
    Calls Tryd.prog 21 #[v, .int .i64 f] w fun e w' => ∃ u, e = .returned u ∧ OwnsI w' w.heap.size u (admL a f) ∧ Below w.heap.size w w' := by
  obtain ⟨i0, hi, hz0, hz1, hz2⟩ := info_parts Tryd.infoIv
  have HI := Lib.hid hi; have HZ0 := Lib.hid hz0; have HZ1 := Lib.hid hz1; have HZ2 := Lib.hid hz2
  clear hi hz0 hz1 hz2
  have H := Lib.hid h
  have HS := Lib.hid hs
  have hn := szQL_len hs
  obtain ⟨ao, cap, rfl⟩ := queriesR_len h
  clear h hs
  go_enter Tryd.func21, Tryd.ntmps21
  go_wp2_with (at_make; refine wpList_make_full _ rfl (.tmp 11) (.tmp 11) 44 rfl w.heap.size 74 i0 (.agg #[.int .i64 0, .int .i64 0, .int .i64 0]) 3 Tryd.underlying44 HI.out HZ0.out HZ1.out _ _ _ _ a.length rfl rfl rfl rfl (by rw [HZ2.out]; omega) (by unfold maxLen; omega) (Nat.le_refl _) ?_)
  intro w1 hown0 hg0
  have hown1 := ownsI_made hown0
  have hbel1 := (Below.refl w.heap.size w).grown hg0 (Nat.le_refl _) (fun k hk => by cases hk)
  clear hown0 hg0
  go_wp2
  go_loopw [15] (fun i wr => ∃ k : Nat, k ≤ a.length ∧ i = .int .i64 k ∧ OwnsI wr w.heap.size (.slice (some ⟨w.heap.size, 0, none⟩) a.length a.length) ((a.take k).map (admV f) ++ List.replicate (a.length - k) (0, 0, 0)) ∧ Below w.heap.size w wr) (fun i _ => a.length - (intOf i).toNat)
  case atStart => exact ⟨0, Nat.zero_le _, rfl, by simpa using hown1, hbel1⟩
  case round =>
    obtain ⟨k, hk, rfl, hown, hbel⟩ := hrel
    by_cases hlt : k < a.length
    · obtain ⟨b, off, cap', cv, ov, hv, hbl, hc1, hc2, hc3, hc4, hC, hO⟩ := queriesR_at (queriesR_below H.out hbel) hlt
      simp only [Value.slice.injEq] at hv
      obtain ⟨rfl, _, rfl⟩ := hv
      have HSET := Lib.hid (adm_copied a f k hlt)
      have HKL : Hid (k < ((a.take k).map (admV f) ++ List.replicate (a.length - k) ((0, 0, 0) : CondD)).length) := Lib.hid (by simp; omega)
      have i1 : (0 : Int) ≤ (k : Int) := by omega
      have i2 : (k : Int) < (a.length : Int) := by omega
      have hcl := (szQL_at HS.out hlt).1
      clear hown1 hbel1
      generalize a.getD k q0D = q at *
      obtain ⟨qid, qtn, qc, qo⟩ := q
      simp only at hc1 hc2 hc3 hc4 hC hO hcl
      have hav : admV f (qid, qtn, qc, qo) = ((rangeC qc f).1, (rangeC qc f).2, qid) := rfl
      rw [hav] at HSET
      clear hav
      generalize (a.take k).map (admV f) ++ List.replicate (a.length - k) ((0, 0, 0) : CondD) = us at *
      have hal : Below wr.heap.size wr (wr.alloc (.cells #[.int .i64 qid, .int .i64 qtn, cv, ov] 59)) := (Below.refl _ _).alloc (Nat.le_refl _) _
      have g0 := heap_alloc_new wr (.cells #[.int .i64 qid, .int .i64 qtn, cv, ov] 59)
      have HZL : Hid (wr.heap.size < (wr.alloc (.cells #[.int .i64 qid, .int .i64 qtn, cv, ov] 59)).heap.size) := Lib.hid (by simp)
      obtain ⟨ca, ccap, rfl⟩ := condsR_len hC
      obtain ⟨oa, ocap, rfl⟩ := ints_len hO
      have HCW := Lib.hid (condsR_below hC hal)
      have HOW := Lib.hid (ownsI_below hown hal)
      have HBW := Lib.hid (hbel.trans (hal.mono hbel.size))
      clear hown hbel hC hO
      go_wp2_with fail
      generalize wr.alloc (.cells #[.int .i64 qid, .int .i64 qtn, .slice ca qc.length ccap, .slice oa qo.length ocap] 59) = W at *
      refine (rangeOf_any _ qc f _ HCW.out hcl).mono ?_
      rintro e w2 ⟨rfl, b2⟩
      have k2 := (b2.block _ HZL.out).trans g0
      have p0 := (cell_of_row w2 _ 0 _ _ _ k2).trans (show _ = some (Value.int .i64 qid) from rfl)
      have ho := ownsI_below HOW.out b2
      have hst := Lib.hid (ownsI_store ho HKL.out ((rangeC qc f).1, (rangeC qc f).2, qid))
      rw [HSET.out] at hst
      have b3 := HBW.out.trans (b2.mono HBW.out.size)
      generalize (rangeC qc f).1 = lo at *
      generalize (rangeC qc f).2 = hi at *
      have B3 := ((b3.setCell (p := ⟨w.heap.size, k * 3, none⟩) (Nat.le_refl _) (.int .i64 lo)).setCell (p := ⟨w.heap.size, k * 3 + 1, none⟩) (Nat.le_refl _) (.int .i64 hi)).setCell (p := ⟨w.heap.size, k * 3 + 2, none⟩) (Nat.le_refl _) (.int .i64 qid)
      obtain ⟨⟨x0, q0⟩, ⟨x1, q1⟩, ⟨x2, q2⟩, f0, f1, f2⟩ := ownsI_cells ho HKL.out
      clear b2 ho hc1 hc2 hc3 hc4 k2 HOW HCW HSET g0 hal
      go_wp2
      go_roundw
      case rel => exact ⟨k + 1, by omega, by go_num, hst.out, B3⟩
      case measure => simp [intOf]; omega
    · obtain rfl : k = a.length := by omega
      have HE : Hid ((a.take a.length).map (admV f) ++ List.replicate (a.length - a.length) ((0, 0, 0) : CondD) = admL a f) := Lib.hid (by simp [admL])
      rw [HE.out] at hown
      go_wp2
      go_ret
      exact ⟨_, rfl, hown, hbel⟩
def ivB (v : Int) (c : CondD) : Bool := decide (c.1 ≤ v ∧ v ≤ c.2.1)
def ivL (cs : List CondD) (v : Int) : List Int := (cs.filter (ivB v)).map (·.2.2)
theorem ivL_adm (a : List QD) (f v : Int) : ivL (admL a f) v = valsL a f v := by
  unfold ivL admL valsL
  rw [List.filter_map, List.map_map]
  rfl
theorem ivL_yes {cs : List CondD} {v : Int} {k : Nat} (hk : k < cs.length) (h : ivB v (cs.getD k (0, 0, 0)) = true) : ivL (cs.take k) v ++ [(cs.getD k (0, 0, 0)).2.2] = ivL (cs.take (k + 1)) v := by
  have e : cs.getD k (0, 0, 0) = cs[k] := by simp [List.getD, hk]
  rw [e] at h ⊢
  unfold ivL
  rw [List.take_succ_eq_append_getElem hk, List.filter_append, List.map_append]
  simp [List.filter_cons, h]
theorem ivL_no {cs : List CondD} {v : Int} {k : Nat} (hk : k < cs.length) (h : ivB v (cs.getD k (0, 0, 0)) = false) : ivL (cs.take k) v = ivL (cs.take (k + 1)) v := by
  have e : cs.getD k (0, 0, 0) = cs[k] := by simp [List.getD, hk]
  rw [e] at h
  unfold ivL
  rw [List.take_succ_eq_append_getElem hk, List.filter_append, List.map_append]
  simp [List.filter_cons, h]
theorem ivL_len (cs : List CondD) (v : Int) : (ivL cs v).length ≤ cs.length := by
  unfold ivL
  rw [List.length_map]
  exact List.length_filter_le _ _
set_option maxHeartbeats 8000000 in
set_option maxRecDepth 100000 in
theorem valuesAt_any (u : Value) (cs : List CondD) (v : Int) (w : World) (h : CondsR w u cs) (hn : cs.length ≤ 1048576) :
    Calls Tryd.prog 22 #[u, .int .i64 v] w (FreshInts w (ivL cs v)) := by
  have H := Lib.hid h
  have HN := Lib.hid hn
  obtain ⟨a, cap, rfl⟩ := condsR_len h
  clear h
  go_enter Tryd.func22, Tryd.ntmps22
  go_wp2
  go_loopw [5, 10] (fun o i wr => ∃ k : Nat, k ≤ cs.length ∧ i = .int .i64 k ∧ OwnsN wr w.heap.size o (ivL (cs.take k) v) ∧ Below w.heap.size w wr) (fun _ i _ => cs.length - (intOf i).toNat)
  case atStart => exact ⟨0, Nat.zero_le _, rfl, ownsN_nil _ _, Below.refl _ _⟩
  case round =>
    obtain ⟨k, hk, rfl, hown, hbel⟩ := hrel
    by_cases hlt : k < cs.length
    · obtain ⟨b, off, cap', hv, hbl, hc1, hc2, hc3⟩ := condsR_at (condsR_below H.out hbel) hlt
      simp only [Value.slice.injEq] at hv
      obtain ⟨rfl, _, rfl⟩ := hv
      have i1 : (0 : Int) ≤ (k : Int) := by omega
      have i2 : (k : Int) < (cs.length : Int) := by omega
      have HYES := Lib.hid (fun h => ivL_yes (v := v) hlt h)
      have HNO := Lib.hid (fun h => ivL_no (v := v) hlt h)
      have HL : Hid ((ivL (cs.take k) v).length ≤ 1048576) := Lib.hid (by have := ivL_len (cs.take k) v; rw [List.length_take] at this; omega)
      generalize cs.getD k (0, 0, 0) = c at *
      obtain ⟨lo, hi, x⟩ := c
      simp only at hc1 hc2 hc3 HYES HNO
      have hal : Below wr.heap.size wr (wr.alloc (.cells #[.int .i64 lo, .int .i64 hi, .int .i64 x] 74)) := (Below.refl _ _).alloc (Nat.le_refl _) _
      have g0 := heap_alloc_new wr (.cells #[.int .i64 lo, .int .i64 hi, .int .i64 x] 74)
      have HZL : Hid (wr.heap.size < (wr.alloc (.cells #[.int .i64 lo, .int .i64 hi, .int .i64 x] 74)).heap.size) := Lib.hid (by simp)
      have HOW := Lib.hid (ownsN_below hown hal)
      have HBW := Lib.hid (hbel.trans (hal.mono hbel.size))
      have HIV : Hid (ivB v (lo, hi, x) = decide (lo ≤ v ∧ v ≤ hi)) := Lib.hid rfl
      clear hown hbel
      go_wp2_with fail
      generalize wr.alloc (.cells #[.int .i64 lo, .int .i64 hi, .int .i64 x] 74) = W at *
      refine (contains_is lo hi x v _).mono ?_
      rintro e w2 ⟨rfl, b2⟩
      have k2 := (b2.block _ HZL.out).trans g0
      have p2 := (cell_of_row w2 _ 2 _ _ _ k2).trans (show _ = some (Value.int .i64 x) from rfl)
      have ho := ownsN_below HOW.out b2
      have b3 := HBW.out.trans (b2.mono HBW.out.size)
      have hB3 := b3.size
      rw [← HIV.out]
      clear b2 hc1 hc2 hc3 k2 HOW g0 hal
      cases hin : ivB v (lo, hi, x) with
      | true =>
        have HY := Lib.hid (HYES.out hin)
        clear HYES HNO hin
        generalize ivL (cs.take k) v = ac at *
        go_wp2_with (at_builtin; refine append_ints rfl (.tmp 17) (.tmp 20) rfl w.heap.size _ _ rfl ho hB3 _ [x] 1 _ rfl (by first | rfl | (simp; done)) rfl (by have := HL.out; simp; omega) ?_)
        intro v' w4 hown3 hb3
        rw [HY.out] at hown3
        have hb4 := b3.trans hb3
        clear ho b3 hb3 p2
        go_wp2
        go_roundw
        case rel => exact ⟨k + 1, by omega, by go_num, hown3, hb4⟩
        case measure => simp [intOf]; omega
      | false =>
        have HY := Lib.hid (HNO.out hin)
        clear HYES HNO hin
        rw [HY.out] at ho
        go_wp2
        go_roundw
        case rel => exact ⟨k + 1, by omega, by go_num, ho, b3⟩
        case measure => simp [intOf]; omega
    · obtain rfl : k = cs.length := by omega
      rw [List.take_length] at hown
      go_wp2
      go_ret
      exact ⟨_, rfl, hown, hbel⟩
theorem isFieldValue_is (v : Int) (w : World) : Calls Tryd.prog 38 #[.int .i64 v] w fun e w' => e = .returned (.bool (okV v)) ∧ w' = w := by
  by_cases h1 : 0 ≤ v
  · have hge : v ≥ 0 := h1
    by_cases h2 : v ≤ 99
    · have HT : Hid (okV v = true) := Lib.hid (by unfold okV; exact decide_eq_true ⟨h1, h2⟩)
      go_enter Tryd.func38, Tryd.ntmps38
      go_wp2
      go_ret
      exact ⟨ret_b HT.out.symm, rfl⟩
    · have HT : Hid (okV v = false) := Lib.hid (by unfold okV; exact decide_eq_false (fun g => h2 g.2))
      go_enter Tryd.func38, Tryd.ntmps38
      go_wp2
      go_ret
      exact ⟨ret_b HT.out.symm, rfl⟩
  · have hge : ¬ v ≥ 0 := h1
    have HT : Hid (okV v = false) := Lib.hid (by unfold okV; exact decide_eq_false (fun g => h1 g.1))
    go_enter Tryd.func38, Tryd.ntmps38
    go_wp2
    go_ret
    exact ⟨ret_b HT.out.symm, rfl⟩
theorem isField_is (f : Int) (w : World) : Calls Tryd.prog 20 #[.int .i64 f] w fun e w' => e = .returned (.bool (okF f)) ∧ w' = w := by
  by_cases h : 0 ≤ f ∧ f < 3
  · rw [show okF f = true by unfold okF; exact decide_eq_true ⟨h.1, by omega⟩]; exact isField_yes f w h.1 h.2
  · rw [show okF f = false by unfold okF; exact decide_eq_false (fun g => h ⟨g.1, by omega⟩)]; exact isField_no f w h
theorem stab_no {a : List QD} {f v : Int} (h : (areQB a && (okF f && okV v)) = false) : stabL a f v = [] := by unfold stabL; rw [h]; rfl
set_option maxHeartbeats 4000000 in
set_option maxRecDepth 100000 in
theorem implStabSet (va : Value) (a : List QD) (f v : Int) (w : World) (h : QueriesR w va a) (hs : szQL a ≤ 1048576) :
    Calls Tryd.prog 16 #[va, .int .i64 f, .int .i64 v] w (FreshInts w (stabL a f v)) := by
  have H := Lib.hid h
  have HA := Lib.hid (fun w h => implAreQueries va a w h hs)
  have HF := Lib.hid (fun w => isField_is f w)
  have HV := Lib.hid (fun w => isFieldValue_is v w)
  have HAD := Lib.hid (fun w h => admissions_any va a f w h hs)
  have HVL := Lib.hid (fun u w h => valuesAt_any u (admL a f) v w h (by unfold admL; rw [List.length_map]; exact szQL_len hs))
  clear h hs
  cases ha : areQB a with
  | false =>
    have HE : Hid (stabL a f v = []) := Lib.hid (stab_no (by rw [ha]; rfl))
    rw [ha] at HA
    rw [HE.out]
    clear HF HV HAD HVL HE ha
    go_enter Tryd.func16, Tryd.ntmps16
    go_wp2_with fail
    refine (HA.out _ H.out).mono ?_
    rintro e w1 ⟨rfl, b1⟩
    go_wp2
    go_ret
    exact ⟨_, rfl, ownsN_nil _ _, b1⟩
  | true =>
    rw [ha] at HA
    cases hf : okF f with
    | false =>
      have HE : Hid (stabL a f v = []) := Lib.hid (stab_no (by rw [ha, hf]; rfl))
      rw [hf] at HF
      rw [HE.out]
      clear HV HAD HVL HE ha hf
      go_enter Tryd.func16, Tryd.ntmps16
      go_wp2_with fail
      refine (HA.out _ H.out).mono ?_
      rintro e w1 ⟨rfl, b1⟩
      go_wp2_with fail
      refine (HF.out _).mono ?_
      rintro e w2 ⟨rfl, rfl⟩
      go_wp2
      go_ret
      exact ⟨_, rfl, ownsN_nil _ _, b1⟩
    | true =>
      rw [hf] at HF
      cases hv : okV v with
      | false =>
        have HE : Hid (stabL a f v = []) := Lib.hid (stab_no (by rw [ha, hf, hv]; rfl))
        rw [hv] at HV
        rw [HE.out]
        clear HAD HVL HE ha hf hv
        go_enter Tryd.func16, Tryd.ntmps16
        go_wp2_with fail
        refine (HA.out _ H.out).mono ?_
        rintro e w1 ⟨rfl, b1⟩
        go_wp2_with fail
        refine (HF.out _).mono ?_
        rintro e w2 ⟨rfl, rfl⟩
        go_wp2_with fail
        refine (HV.out _).mono ?_
        rintro e w2 ⟨rfl, rfl⟩
        go_wp2
        go_ret
        exact ⟨_, rfl, ownsN_nil _ _, b1⟩
      | true =>
        have HE : Hid (ivL (admL a f) v = stabL a f v) := Lib.hid (by
          rw [ivL_adm]
          refine valsL_eq ha ?_ ?_
          · unfold okF at hf; simpa using hf
          · unfold okV at hv; simpa using hv)
        rw [hv] at HV
        rw [HE.out] at HVL
        generalize stabL a f v = s at *
        generalize admL a f = rs at *
        clear HE ha hf hv
        go_enter Tryd.func16, Tryd.ntmps16
        go_wp2_with fail
        refine (HA.out _ H.out).mono ?_
        rintro e w1 ⟨rfl, b1⟩
        go_wp2_with fail
        refine (HF.out _).mono ?_
        rintro e w2 ⟨rfl, rfl⟩
        go_wp2_with fail
        refine (HV.out _).mono ?_
        rintro e w2 ⟨rfl, rfl⟩
        go_wp2_with fail
        refine (HAD.out _ (queriesR_below H.out b1)).mono ?_
        rintro e w3 ⟨u, rfl, ou, b3⟩
        have c3 := b1.trans (b3.mono b1.size)
        go_wp2_with fail
        refine (HVL.out _ _ (ownsI_conds ou)).mono ?_
        rintro e w4 ⟨r, rfl, or, b4⟩
        have c4 := c3.trans (b4.mono c3.size)
        have o4 := ownsN_up or c3.size
        clear ou or b3 b4 c3 b1
        go_wp2
        go_ret
        exact ⟨_, rfl, o4, c4⟩
end Go.Proofs.YtmkcfkblfjhnhaaDoor
namespace Go.Proofs.YtmkcfkblfjhnhaaDoor
open Go.RowKit
set_option linter.unusedVariables false
theorem Tryd.infoSpan : (Tryd.prog.info? 34).map (fun i => (i.zero, i.size)) = some (some (.agg #[.int .i64 0, .int .i64 0, .slice none 0 0]), 3) := by kernel_rfl
theorem span_bytes : (Tryd.prog.info? 34).map (fun i => i.bytes) = some 40 := by kernel_rfl
/-- The slice v owns the spans rs, in blocks from B on, each block once. -/
def OwnsP (w : World) (B : Nat) (v : Value) (rs : List SpanD) : Prop :=
  ∃ (cs : List Value) (vs : Nat → Value), w.ownsRow B 34 3 v rs.length cs ∧
    (∀ j, j < rs.length → cs[j * 3]? = some (.int .i64 (rs.getD j p0D).1) ∧ cs[j * 3 + 1]? = some (.int .i64 (rs.getD j p0D).2.1) ∧ cs[j * 3 + 2]? = some (vs j) ∧ OwnsN w B (vs j) (rs.getD j p0D).2.2 ∧ ∀ b, (vs j).ownBlock = some b → v.ownBlock ≠ some b) ∧
    ∀ i j, i < rs.length → j < rs.length → i ≠ j → ∀ b, (vs i).ownBlock = some b → (vs j).ownBlock ≠ some b
theorem ownsP_len {w : World} {B : Nat} {v : Value} {rs : List SpanD} (h : OwnsP w B v rs) : ∃ a cap, v = .slice a rs.length cap := by
  obtain ⟨cs, vs, h1, _⟩ := h
  rcases h1.2 with ⟨rfl, h0⟩ | ⟨g, cap, cur, rfl, _⟩
  · exact ⟨none, 0, by rw [h0]⟩
  · exact ⟨_, cap, rfl⟩
theorem ownsP_spans {w : World} {B : Nat} {v : Value} {rs : List SpanD} (h : OwnsP w B v rs) : SpansR w v rs := by
  obtain ⟨cs, vs, h1, h2, _⟩ := h
  have h1' := h1
  rcases h1.2 with ⟨rfl, h0⟩ | ⟨g, cap, cur, rfl, hb, hg, hn, hm, hcs, htake⟩
  · exact Or.inl ⟨List.eq_nil_of_length_eq_zero h0, none, 0, rfl⟩
  · refine Or.inr ⟨g, 0, cap, vs, rfl, hn, (Array.getElem?_eq_some_iff.1 hg).1, fun j hj => ?_⟩
    obtain ⟨g1, g2, g3, g4, _⟩ := h2 j hj
    refine ⟨?_, ?_, ?_, ownsN_ints g4⟩
    · rw [Nat.zero_add, World.ownsRow.cellAt h1' (j * 3) (by omega)]; exact g1
    · rw [Nat.zero_add, World.ownsRow.cellAt h1' (j * 3 + 1) (by omega)]; exact g2
    · rw [Nat.zero_add, World.ownsRow.cellAt h1' (j * 3 + 2) (by omega)]; exact g3
theorem ownsP_below {w w' : World} {B : Nat} {v : Value} {rs : List SpanD} (h : OwnsP w B v rs) (hb : Below w.heap.size w w') : OwnsP w' B v rs := by
  obtain ⟨cs, vs, h1, h2, h3⟩ := h
  exact ⟨cs, vs, ownsRow_below h1 hb, fun j hj => ⟨(h2 j hj).1, (h2 j hj).2.1, (h2 j hj).2.2.1, ownsN_below (h2 j hj).2.2.2.1 hb, (h2 j hj).2.2.2.2⟩, h3⟩
theorem ownsP_up {w : World} {B C : Nat} {v : Value} {rs : List SpanD} (h : OwnsP w C v rs) (hb : B ≤ C) : OwnsP w B v rs := by
  obtain ⟨cs, vs, h1, h2, h3⟩ := h
  refine ⟨cs, vs, ⟨h1.1, ?_⟩, fun j hj => ⟨(h2 j hj).1, (h2 j hj).2.1, (h2 j hj).2.2.1, ownsN_up (h2 j hj).2.2.2.1 hb, (h2 j hj).2.2.2.2⟩, h3⟩
  rcases h1.2 with hn | ⟨g, cap, cur, e, hb', rest⟩
  · exact .inl hn
  · exact .inr ⟨g, cap, cur, e, Nat.le_trans hb hb', rest⟩
end Go.Proofs.YtmkcfkblfjhnhaaDoor
namespace Go.Proofs.YtmkcfkblfjhnhaaDoor
open Go.RowKit
set_option linter.unusedVariables false
set_option linter.unusedSimpArgs false
theorem info_span : ∃ i, Tryd.prog.info? 34 = some i ∧ i.zero = some (.agg #[.int .i64 0, .int .i64 0, .slice none 0 0]) ∧ i.size = 3 ∧ i.bytes = 40 := by
  have h1 := Tryd.infoSpan
  have h2 := span_bytes
  cases e : Tryd.prog.info? 34 with
  | none => rw [e] at h1; simp at h1
  | some i => rw [e] at h1 h2; simp at h1 h2; exact ⟨i, rfl, h1.1, h1.2, h2⟩
/-- The cells of a slice of spans that the call made. -/
def SpansC (w : World) (B : Nat) (v : Value) (n : Nat) (cs : List Value) : Prop := w.ownsRow B 34 3 v n cs
theorem spansC_kept {w w' : World} {B : Nat} {v : Value} {n : Nat} {cs : List Value} (h : SpansC w B v n cs) (hb : Below w.heap.size w w') : SpansC w' B v n cs := ownsRow_below h hb
/-- 'append(x, ..)' of m spans whose cells lie at ad. -/
theorem append_spans {w : World} {ops : Array Oper} {rest : List Oper} {o : Oper} {a : Act} {Q : Exit → Act → World → Prop} (hgd : o.guard = none) (s x : Operand)
    (ho : o.op = .call { callee := .builtin .append, args := #[s, x], argTypes := #[27, 27] })
    (B : Nat) (v : Value) (n : Nat) (cs : List Value) (hs : a.eval s = v) (hown : SpansC w B v n cs) (hB : B ≤ w.heap.size)
    (ad : Addr) (m c : Nat) (news : List Value) (hx : a.eval x = .slice (some ad) m c) (hl : news.length = m * 3) (hnews : ∀ j u, news[j]? = some u → w.cell? (ad.add j) = some u) (h1 : ∀ u ∈ news, u.oneCell' = true) (h63 : n + m ≤ 2097152)
    (h : ∀ v' w', SpansC w' B v' (n + m) (cs ++ news) → w.grownBy w' v.ownBlock → (v' = .slice none 0 0 ↔ v = .slice none 0 0 ∧ m = 0) → (v'.ownBlock = v.ownBlock ∨ v'.ownBlock = some w.heap.size) → wpList Tryd.prog ops Q rest (a.put o.dst v') w') : wpList Tryd.prog ops Q (o :: rest) a w := by
  obtain ⟨i0, hi, hz0, hz1, hz2⟩ := info_span
  exact wpList_append_own_at _ hgd s x 27 ho B 34 i0 (.agg #[.int .i64 0, .int .i64 0, .slice none 0 0]) 3 40 Tryd.underlying27 hi hz0 hz1 hz2 rfl (by decide) v n cs hs hown ad m c news hx hl hnews h1 (by unfold maxLen; omega) (by omega) hB h
/-- A span whose set lies in new memory is appended to a slice of spans that the call made. -/
theorem append_ownsP {w1 w2 w3 : World} {B D : Nat} {v v' vv : Value} {rs : List SpanD} {vs : Nat → Value} {cs : List Value} {r : SpanD}
    (h1 : w1.ownsRow B 34 3 v rs.length cs)
    (h2 : ∀ j, j < rs.length → cs[j * 3]? = some (.int .i64 (rs.getD j p0D).1) ∧ cs[j * 3 + 1]? = some (.int .i64 (rs.getD j p0D).2.1) ∧ cs[j * 3 + 2]? = some (vs j) ∧ OwnsN w1 B (vs j) (rs.getD j p0D).2.2 ∧ ∀ b, (vs j).ownBlock = some b → v.ownBlock ≠ some b)
    (h3 : ∀ i j, i < rs.length → j < rs.length → i ≠ j → ∀ b, (vs i).ownBlock = some b → (vs j).ownBlock ≠ some b)
    (hlow : ∀ j, j < rs.length → ∀ b, (vs j).ownBlock = some b → b < D) (hvlow : ∀ b, v.ownBlock = some b → b < D) (hBD : B ≤ D) (hv : OwnsN w1 D vv r.2.2)
    (h12 : Below w1.heap.size w1 w2) (hg : w2.grownBy w3 v.ownBlock) (hx : SpansC w3 B v' (rs.length + 1) (cs ++ [.int .i64 r.1, .int .i64 r.2.1, vv])) (hat : v'.ownBlock = v.ownBlock ∨ v'.ownBlock = some w2.heap.size) : OwnsP w3 B v' (rs ++ [r]) := by
  have hcl : cs.length = rs.length * 3 := h1.1
  have hlen : (rs ++ [r]).length = rs.length + 1 := by simp
  have old : ∀ j, j < rs.length → OwnsN w3 B (vs j) (rs.getD j p0D).2.2 := fun j hj => by
    refine World.ownsRow.kept (ownsN_below (h2 j hj).2.2.2.1 h12) hg ?_
    cases e : (vs j).ownBlock with
    | none => exact Or.inl rfl
    | some b => exact Or.inr (fun q => (h2 j hj).2.2.2.2 b e q.symm)
  have new : OwnsN w3 D vv r.2.2 := by
    refine World.ownsRow.kept (ownsN_below hv h12) hg ?_
    cases e : vv.ownBlock with
    | none => exact Or.inl rfl
    | some b => exact Or.inr (fun q => by have := hvlow b q.symm; have := (hv.lt b e).1; omega)
  have lt1 : ∀ j, j < rs.length → ∀ b, (vs j).ownBlock = some b → b < w2.heap.size := fun j hj b e => Nat.lt_of_lt_of_le ((h2 j hj).2.2.2.1.lt b e).2 h12.size
  have lt2 : ∀ b, vv.ownBlock = some b → b < w2.heap.size := fun b e => Nat.lt_of_lt_of_le (hv.lt b e).2 h12.size
  have get_old : ∀ j, j < rs.length → (rs ++ [r]).getD j p0D = rs.getD j p0D := fun j hj => by simp [List.getD, List.getElem?_append_left hj]
  have get_new : (rs ++ [r]).getD rs.length p0D = r := by simp [List.getD]
  refine ⟨cs ++ [.int .i64 r.1, .int .i64 r.2.1, vv], fun j => if j < rs.length then vs j else vv, by rw [hlen]; exact hx, fun j hj => ?_, fun i j hi hj hij b hb => ?_⟩
  · rw [hlen] at hj
    by_cases c : j < rs.length
    · simp only [if_pos c]
      obtain ⟨g1, g1b, g2, _, g4⟩ := h2 j c
      rw [get_old j c, List.getElem?_append_left (by omega), List.getElem?_append_left (by omega), List.getElem?_append_left (by omega)]
      refine ⟨g1, g1b, g2, old j c, fun b e q => ?_⟩
      rcases hat with h | h
      · rw [h] at q; exact g4 b e q
      · rw [h] at q; have := lt1 j c b e; have := Option.some.inj q; omega
    · obtain rfl : j = rs.length := by omega
      simp only [if_neg c]
      rw [get_new, List.getElem?_append_right (by omega), List.getElem?_append_right (by omega), List.getElem?_append_right (by omega), show rs.length * 3 - cs.length = 0 by omega, show rs.length * 3 + 1 - cs.length = 1 by omega, show rs.length * 3 + 2 - cs.length = 2 by omega]
      refine ⟨rfl, rfl, rfl, ownsN_up new hBD, fun b e q => ?_⟩
      rcases hat with h | h
      · rw [h] at q; have := hvlow b q; have := (hv.lt b e).1; omega
      · rw [h] at q; have := lt2 b e; have := Option.some.inj q; omega
  · rw [hlen] at hi hj
    by_cases ci : i < rs.length
    · by_cases cj : j < rs.length
      · simp only [if_pos ci, if_pos cj] at hb ⊢
        exact h3 i j ci cj hij b hb
      · simp only [if_pos ci, if_neg cj] at hb ⊢
        intro q
        have := hlow i ci b hb
        have := (hv.lt b q).1
        omega
    · have cj : j < rs.length := by omega
      simp only [if_neg ci, if_pos cj] at hb ⊢
      intro q
      have := hlow j cj b q
      have := (hv.lt b hb).1
      omega
/-- The last number of span k is stored. -/
theorem ownsP_to {w : World} {B g n cap : Nat} {rs : List SpanD} (h : OwnsP w B (.slice (some ⟨g, 0, none⟩) n cap) rs) {k : Nat} (hk : k < rs.length) (x : Int) :
    OwnsP (w.setCell ⟨g, k * 3 + 1, none⟩ (.int .i64 x)) B (.slice (some ⟨g, 0, none⟩) n cap) (rs.set k ((rs.getD k p0D).1, x, (rs.getD k p0D).2.2)) := by
  obtain ⟨cs, vs, h1, h2, h3⟩ := h
  have hn : n = rs.length := by
    rcases h1.2 with ⟨h', _⟩ | ⟨_, _, _, h', _⟩
    · simp at h'
    · simp only [Value.slice.injEq] at h'; exact h'.2.1
  subst hn
  have hcl : cs.length = rs.length * 3 := h1.1
  have s1 := (World.ownsRow.stored h1 (k * 3 + 1) (.int .i64 x)).1
  have hp : ∀ i, i < rs.length → (vs i).ownBlock = none ∨ (vs i).ownBlock ≠ some g := fun i hi => by
    cases e : (vs i).ownBlock with
    | none => exact Or.inl rfl
    | some b => exact Or.inr (fun q => (h2 i hi).2.2.2.2 b e (by rw [q]; rfl))
  refine ⟨cs.set (k * 3 + 1) (.int .i64 x), vs, by rw [List.length_set]; exact s1, ?_, by rw [List.length_set]; exact h3⟩
  intro i hi
  rw [List.length_set] at hi
  obtain ⟨g1, g2, g3, g4, g5⟩ := h2 i hi
  have kn := World.ownsRow.kept g4 (grow_set w g (k * 3 + 1) (.int .i64 x)) (hp i hi)
  by_cases e : i = k
  · subst e
    have er : (rs.set i (((rs.getD i p0D).1, x, (rs.getD i p0D).2.2) : SpanD)).getD i p0D = ((rs.getD i p0D).1, x, (rs.getD i p0D).2.2) := by
      simp only [List.getD]
      rw [List.getElem?_set_self hi]
      rfl
    rw [er]
    refine ⟨?_, ?_, ?_, kn, g5⟩
    · rw [List.getElem?_set_ne (by omega)]; exact g1
    · rw [List.getElem?_set_self (by omega)]
    · rw [List.getElem?_set_ne (by omega)]; exact g3
  · have er : (rs.set k (((rs.getD k p0D).1, x, (rs.getD k p0D).2.2) : SpanD)).getD i p0D = rs.getD i p0D := by
      simp only [List.getD]
      rw [List.getElem?_set_ne (Ne.symm e)]
    rw [er]
    refine ⟨?_, ?_, ?_, kn, g5⟩
    · rw [List.getElem?_set_ne (by omega)]; exact g1
    · rw [List.getElem?_set_ne (by omega)]; exact g2
    · rw [List.getElem?_set_ne (by omega)]; exact g3
theorem ownsP_empty (w : World) : OwnsP (w.alloc (.cells #[] 34)) w.heap.size (.slice (some ⟨w.heap.size, 0, none⟩) 0 0) [] := by
  refine ⟨[], fun _ => .slice none 0 0, ?_, fun j hj => by simp at hj, fun i j hi => by simp at hi⟩
  exact World.ownsRow_lit (e := 34) (size := 3) w #[] 0 (Nat.le_refl _) (by unfold maxLen; omega) rfl
theorem ownsP_none (w : World) (B : Nat) : OwnsP w B (.slice none 0 0) [] :=
  ⟨[], fun _ => .slice none 0 0, World.ownsRow_nil w B _ _, fun j hj => by simp at hj, fun i j hi => by simp at hi⟩
theorem ownsP_shape {w : World} {B : Nat} {v : Value} {rs : List SpanD} (h : OwnsP w B v rs) (hp : 0 < rs.length) : ∃ g cap, v = .slice (some ⟨g, 0, none⟩) rs.length cap ∧ B ≤ g ∧ g < w.heap.size ∧
    w.frozen? ⟨g, (rs.length - 1) * 3 + 1, none⟩ = false ∧ ∃ vv, w.cell? ⟨g, (rs.length - 1) * 3 + 2, none⟩ = some vv ∧ w.cell? ⟨g, (rs.length - 1) * 3 + 1, none⟩ = some (.int .i64 (rs.getD (rs.length - 1) p0D).2.1) ∧ Ints w vv (rs.getD (rs.length - 1) p0D).2.2 := by
  obtain ⟨cs, vs, h1, h2, _⟩ := h
  have h1' := h1
  rcases h1.2 with ⟨_, h0⟩ | ⟨g, cap, cur, rfl, hb, hg, _⟩
  · omega
  · have hl : rs.length - 1 < rs.length := by omega
    obtain ⟨g1, g2, g3, g4, _⟩ := h2 _ hl
    exact ⟨g, cap, rfl, hb, (Array.getElem?_eq_some_iff.1 hg).1, World.ownsRow.frozenAt h1' _, vs (rs.length - 1), (World.ownsRow.cellAt h1' _ (by omega)).trans g3, (World.ownsRow.cellAt h1' _ (by omega)).trans g2, ownsN_ints g4⟩
theorem stepP_set {acc : List SpanD} {v : Int} {s : List Int} (h0 : 0 < acc.length) (h : (acc.getD (acc.length - 1) p0D).2.2 = s) : acc.set (acc.length - 1) ((acc.getD (acc.length - 1) p0D).1, v, (acc.getD (acc.length - 1) p0D).2.2) = stepP acc v s := by
  unfold stepP; rw [if_pos ⟨h0, h⟩]
theorem stepP_app {acc : List SpanD} {v : Int} {s : List Int} (h : ¬ (0 < acc.length ∧ (acc.getD (acc.length - 1) p0D).2.2 = s)) : acc ++ [(v, v, s)] = stepP acc v s := by
  unfold stepP; rw [if_neg h]
theorem spansL_no {a : List QD} {f : Int} (h : (areQB a && okF f) = false) : spansL a f = [] := by
  unfold spansL; exact if_neg (by rw [h]; exact Bool.noConfusion)
theorem spansL_yes {a : List QD} {f : Int} (h : (areQB a && okF f) = true) : spansL a f = spansTo (stabL a f) 100 := by
  unfold spansL; exact if_pos h
end Go.Proofs.YtmkcfkblfjhnhaaDoor
namespace Go.Proofs.YtmkcfkblfjhnhaaDoor
open Go.RowKit
set_option linter.unusedVariables false
/-- A slice of spans in new memory is answered. -/
def FreshSpans (w : World) (rs : List SpanD) (e : Ending) (w' : World) : Prop := ∃ v, e = .returned v ∧ OwnsP w' w.heap.size v rs ∧ Below w.heap.size w w'
theorem zpL_span {rs : List SpanD} {k : Nat} (h : zpL rs ≤ 1048576) (hlt : k < rs.length) : (rs.getD k p0D).2.2.length ≤ 1048576 := by
  have h1 := zpTo_step hlt
  have h2 := zpTo_le (rs := rs) (k := k + 1) (by omega)
  omega
end Go.Proofs.YtmkcfkblfjhnhaaDoor
namespace Go.Proofs.YtmkcfkblfjhnhaaDoor
open Go.RowKit
set_option linter.unusedVariables false
set_option linter.unusedSimpArgs false
set_option maxHeartbeats 2000000 in
set_option maxRecDepth 100000 in
theorem equalInts_any (v u : Value) (xs ys : List Int) (w : World) (h : Ints w v xs) (g : Ints w u ys) (hn : xs.length ≤ 1048576) (hm : ys.length ≤ 1048576) :
    Calls Tryd.prog 23 #[v, u] w fun e w' => e = .returned (.bool (decide (xs = ys))) ∧ Below w.heap.size w w' := by
  have H := Lib.hid h
  have G := Lib.hid g
  obtain ⟨a, cap, rfl⟩ := ints_len h
  obtain ⟨a2, cap2, rfl⟩ := ints_len g
  clear h g
  by_cases hl : xs.length = ys.length
  · have HL := Lib.hid hl
    have hne : ((xs.length : Int) != (ys.length : Int)) = false := by rw [hl]; simp
    clear hl
    go_enter Tryd.func23, Tryd.ntmps23
    go_wp2
    clear hne
    go_loopw [13] (fun i wr => ∃ k : Nat, k ≤ xs.length ∧ i = .int .i64 k ∧ Hid (∀ j, j < k → xs.getD j 0 = ys.getD j 0) ∧ Below w.heap.size w wr) (fun i _ => xs.length - (intOf i).toNat)
    case atStart => exact ⟨0, Nat.zero_le _, rfl, Lib.hid (fun j hj => by omega), Below.refl _ _⟩
    case round =>
      obtain ⟨k, hk, rfl, hall, hbel⟩ := hrel
      by_cases hlt : k < xs.length
      · obtain ⟨b, off, cap', hv, hbl, hc⟩ := ints_cell H.out (by omega)
        simp only [Value.slice.injEq] at hv
        obtain ⟨rfl, _, rfl⟩ := hv
        obtain ⟨b2, off2, cap2', hv2, hbl2, hc2⟩ := ints_cell G.out (by have := HL.out; omega)
        simp only [Value.slice.injEq] at hv2
        obtain ⟨rfl, _, rfl⟩ := hv2
        have hcell := (hbel.cell (p := ⟨b, off + k, none⟩) hbl).trans (hc k hlt)
        have hcell2 := (hbel.cell (p := ⟨b2, off2 + k, none⟩) hbl2).trans (hc2 k (by have := HL.out; omega))
        have i1 : (0 : Int) ≤ (k : Int) := by omega
        have i2 : (k : Int) < (xs.length : Int) := by omega
        have i3 : (k : Int) < (ys.length : Int) := by have := HL.out; omega
        clear hc hc2
        by_cases he : xs.getD k 0 = ys.getD k 0
        · have HA : Hid (∀ j, j < k + 1 → xs.getD j 0 = ys.getD j 0) := Lib.hid (fun j hj => by
            by_cases e : j = k
            · exact e ▸ he
            · exact hall.out j (by omega))
          rw [← he] at hcell2
          clear he hall
          generalize xs.getD k 0 = y at hcell hcell2
          go_wp2
          go_quiet (fail)
          go_wp2
          go_roundw
          case rel => exact ⟨k + 1, by omega, by go_num, HA, below_dn hbel _⟩
          case measure => simp [intOf]; omega
        · have HF := Lib.hid (decide_eq_false (list_ne_at hlt he))
          have heq : (xs.getD k 0 != ys.getD k 0) = true := by rw [bne_iff_ne]; exact he
          clear he hall
          generalize xs.getD k 0 = y at hcell heq
          generalize ys.getD k 0 = z at hcell2 heq
          go_wp2
          go_quiet (fail)
          go_wp2
          go_ret
          exact ⟨ret_b HF.out.symm, below_dn hbel _⟩
      · obtain rfl : k = xs.length := by omega
        have HT := Lib.hid (decide_eq_true (list_eq_all HL.out hall.out))
        clear hall
        go_wp2
        go_ret
        exact ⟨ret_b HT.out.symm, hbel⟩
  · have HF := Lib.hid (decide_eq_false (show ¬ xs = ys from fun e => hl (by rw [e])))
    have hne : ((xs.length : Int) != (ys.length : Int)) = true := by rw [bne_iff_ne]; omega
    clear hl
    go_enter Tryd.func23, Tryd.ntmps23
    go_wp2
    go_ret
    exact ⟨ret_b HF.out.symm, Below.refl _ _⟩
end Go.Proofs.YtmkcfkblfjhnhaaDoor
