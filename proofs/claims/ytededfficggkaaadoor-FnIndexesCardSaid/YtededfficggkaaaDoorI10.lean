/-
 Texts of the proof, merged: QueryAre, AdmitSpec, StabMath, IndexMath.
-/
import Derived.Test.YtededfficggkaaaDoorI2
import Derived.Test.YtededfficggkaaaDoorI4
import Derived.Test.YtededfficggkaaaDoorI5
namespace Go.Proofs.YtededfficggkaaaDoor
open Go.RowKit
set_option linter.unusedVariables false
set_option linter.unusedSimpArgs false
/-- Is it a query? -/
def qB (q : QD) : Bool := queryB q.1 q.2.1 q.2.2.1 q.2.2.2
/-- As far as k the queries are queries, in ascending order of their numbers. -/
def AreQTo (qs : List QD) (k : Nat) : Prop := ∀ i, i < k → qB (qs.getD i q0D) = true ∧ (0 < i → (qs.getD (i - 1) q0D).1 < (qs.getD i q0D).1)
/-- Are they queries? -/
def areQB (qs : List QD) : Bool := (List.range qs.length).all (fun i => qB (qs.getD i q0D) && (decide (i = 0) || decide ((qs.getD (i - 1) q0D).1 < (qs.getD i q0D).1))) && decide (qs.length ≤ 24)
theorem areQB_all {qs : List QD} (h : AreQTo qs qs.length) : areQB qs = decide (qs.length ≤ 24) := by
 have : (List.range qs.length).all (fun i => qB (qs.getD i q0D) && (decide (i = 0) || decide ((qs.getD (i - 1) q0D).1 < (qs.getD i q0D).1))) = true := by
  rw [List.all_eq_true]
  intro i hi
  rw [List.mem_range] at hi
  obtain ⟨h1, h2⟩ := h i hi
  rw [h1]
  by_cases e : i = 0
  ·
   simp [e]
  ·
   rw [decide_eq_true (h2 (by omega))]; simp
 unfold areQB
 simp only [this, Bool.true_and]
theorem areQB_bad {qs : List QD} {k : Nat} (hk : k < qs.length) (h : qB (qs.getD k q0D) = false ∨ (0 < k ∧ ¬ (qs.getD (k - 1) q0D).1 < (qs.getD k q0D).1)) : areQB qs = false := by
 have : (List.range qs.length).all (fun i => qB (qs.getD i q0D) && (decide (i = 0) || decide ((qs.getD (i - 1) q0D).1 < (qs.getD i q0D).1))) = false := by
  rw [Bool.eq_false_iff]
  intro g
  rw [List.all_eq_true] at g
  have := g k (List.mem_range.2 hk)
  rw [Bool.and_eq_true, Bool.or_eq_true, decide_eq_true_eq, decide_eq_true_eq] at this
  rcases h with h | ⟨h1, h2⟩
  ·
   rw [h] at this; exact Bool.noConfusion this.1
  ·
   rcases this.2 with e | e
   ·
    omega
   ·
    exact h2 e
 unfold areQB
 simp only [this, Bool.false_and]
theorem areQTo_step {qs : List QD} {k : Nat} (h : AreQTo qs k) (h1 : qB (qs.getD k q0D) = true) (h2 : 0 < k → (qs.getD (k - 1) q0D).1 < (qs.getD k q0D).1) : AreQTo qs (k + 1) := fun i hi => by
 by_cases e : i = k
 ·
  subst e; exact ⟨h1, h2⟩
 ·
  exact h i (by omega)
set_option maxHeartbeats 8000000 in
set_option maxRecDepth 100000 in
theorem specAreQueries (v : Value) (qs : List QD) (w : World) (h : QueriesR w v qs) (hs : szQL qs ≤ 1048576) :
  Calls Tryd.prog 29 #[v] w fun e w' => e = .returned (.bool (areQB qs)) ∧ Below w.heap.size w w' := by
 have H := Lib.hid h
 have HS := Lib.hid hs
 have hlen := szQL_len hs
 obtain ⟨a, cap, rfl⟩ := queriesR_len h
 clear h hs
 go_enter Tryd.func29, Tryd.ntmps29
 go_wp2
 go_loopw [3] (fun i wr => ∃ k : Nat, k ≤ qs.length ∧ i = .int .i64 k ∧ Hid (AreQTo qs k) ∧ Below w.heap.size w wr) (fun i _ => qs.length - (intOf i).toNat)
 case atStart => exact ⟨0, Nat.zero_le _, rfl, Lib.hid (fun i hi => by omega), Below.refl _ _⟩
 case round =>
  obtain ⟨k, hk, rfl, hall, hbel⟩ := hrel
  by_cases hlt : k < qs.length
  ·
   have H1 := Lib.hid (queriesR_below H.out hbel)
   obtain ⟨b, off, cap', cv, ov, hv, hbl, hc1, hc2, hc3, hc4, hC, hI⟩ := queriesR_at H1.out hlt
   simp only [Value.slice.injEq] at hv
   obtain ⟨rfl, _, rfl⟩ := hv
   have hxl := szQL_at HS.out hlt
   have HBAD := Lib.hid (areQB_bad (qs := qs) (k := k) hlt)
   have HSTEP := Lib.hid (areQTo_step hall.out)
   have HR : Hid (∀ (w : World), CondsR w cv (qs.getD k q0D).2.2.1 → Ints w ov (qs.getD k q0D).2.2.2 → Calls Tryd.prog 71 #[qV (qs.getD k q0D).1 (qs.getD k q0D).2.1 cv ov] w fun e w' => e = .returned (.bool (qB (qs.getD k q0D))) ∧ Below w.heap.size w w') :=
    Lib.hid (fun w h g => specIsQuery (qs.getD k q0D).1 (qs.getD k q0D).2.1 cv ov (qs.getD k q0D).2.2.1 (qs.getD k q0D).2.2.2 w h hxl.1 g hxl.2)
   have i1 : (0 : Int) ≤ (k : Int) := by omega
   have i2 : (k : Int) < (qs.length : Int) := by omega
   clear hall hxl
   cases hrb : qB (qs.getD k q0D) with
   | false =>
    have HF := Lib.hid (HBAD.out (Or.inl hrb))
    rw [hrb] at HR
    clear hrb HBAD HSTEP H1
    generalize (qs.getD k q0D).1 = id at *
    generalize (qs.getD k q0D).2.1 = tn at *
    generalize (qs.getD k q0D).2.2.1 = cs at *
    generalize (qs.getD k q0D).2.2.2 = os at *
    go_wp2
    refine wp_region_held_drew (S := fun w' => w'.cell? ⟨b, off + k * 4, none⟩ = some (.int .i64 id) ∧ w'.cell? ⟨b, off + k * 4 + 1, none⟩ = some (.int .i64 tn) ∧ w'.cell? ⟨b, off + k * 4 + 2, none⟩ = some (cv) ∧ w'.cell? ⟨b, off + k * 4 + 3, none⟩ = some (ov)) (by kernel_rfl) ⟨hc1, hc2, hc3, hc4⟩ (fun hHeld => ?_)
    refine tR (i := 0) (v := ?_) ?_ ?_; rotate_left
    ·
     intro w hSw; (try dsimp only at hSw); go_simp; try (with_reducible rfl)
    try simp only [Act.put, lA, lB, lC]
    refine tR (i := 1) (v := ?_) ?_ ?_; rotate_left
    ·
     intro w hSw; (try dsimp only at hSw); go_simp; try (with_reducible rfl)
    try simp only [Act.put, lA, lB, lC]
    refine tR (i := 2) (v := ?_) ?_ ?_; rotate_left
    ·
     intro w hSw; (try dsimp only at hSw); go_simp; try (with_reducible rfl)
    try simp only [Act.put, lA, lB, lC]
    refine tR (i := 3) (v := ?_) ?_ ?_; rotate_left
    ·
     intro w hSw; (try dsimp only at hSw); go_simp; try (with_reducible rfl)
    try simp only [Act.put, lA, lB, lC]
    refine wpAnyH_ready (rs := [4]) (by kernel_rfl) (by simp) ?_
    refine AllReadyH.cons (o := _) (by simp only [hA, hB, hC]; rfl) (fun K hK => ?_) AllReadyH.nil
    go_simp
    refine (HR.out _ (by exact condsR_heap hC rfl) (by exact ints_heap hI rfl)).mono ?_
    rintro e w8 ⟨rfl, b9⟩
    have b10 : Below wr.heap.size wr w8 := ⟨b9.os, b9.tape, b9.output, b9.size, b9.block⟩
    have s1 := (b10.cell (p := ⟨b, off + k * 4, none⟩) hbl).trans hc1
    have s2 := (b10.cell (p := ⟨b, off + k * 4 + 1, none⟩) hbl).trans hc2
    have s3 := (b10.cell (p := ⟨b, off + k * 4 + 2, none⟩) hbl).trans hc3
    have s4 := (b10.cell (p := ⟨b, off + k * 4 + 3, none⟩) hbl).trans hc4
    refine hK.out _ _ ⟨s1, s2, s3, s4⟩ (fun hHeld => ?_)
    clear hK K
    try simp only [Act.put, lA, lB, lC]
    refine tR (i := 5) (v := ?_) ?_ ?_; rotate_left
    ·
     intro w hSw; (try dsimp only at hSw); go_simp; try (with_reducible rfl)
    try simp only [Act.put, lA, lB, lC]
    refine tR (i := 6) (v := ?_) ?_ ?_; rotate_left
    ·
     intro w hSw; (try dsimp only at hSw); go_simp; try (with_reducible rfl)
    try simp only [Act.put, lA, lB, lC]
    refine tO (i := 7) ?_
    try simp only [Act.put, lA, lB, lC]
    refine tO (i := 8) ?_
    try simp only [Act.put, lA, lB, lC]
    refine tO (i := 9) ?_
    try simp only [Act.put, lA, lB, lC]
    refine tO (i := 10) ?_
    try simp only [Act.put, lA, lB, lC]
    refine tO (i := 11) ?_
    try simp only [Act.put, lA, lB, lC]
    refine tO (i := 12) ?_
    try simp only [Act.put, lA, lB, lC]
    refine tO (i := 13) ?_
    try simp only [Act.put, lA, lB, lC]
    refine tO (i := 14) ?_
    try simp only [Act.put, lA, lB, lC]
    refine tO (i := 15) ?_
    try simp only [Act.put, lA, lB, lC]
    refine tO (i := 16) ?_
    try simp only [Act.put, lA, lB, lC]
    refine tO (i := 17) ?_
    try simp only [Act.put, lA, lB, lC]
    refine tO (i := 18) ?_
    try simp only [Act.put, lA, lB, lC]
    refine tO (i := 19) ?_
    try simp only [Act.put, lA, lB, lC]
    refine tO (i := 20) ?_
    try simp only [Act.put, lA, lB, lC]
    refine tO (i := 21) ?_
    try simp only [Act.put, lA, lB, lC]
    refine tO (i := 22) ?_
    try simp only [Act.put, lA, lB, lC]
    refine tR (i := 23) (v := ?_) ?_ ?_; rotate_left
    ·
     intro w hSw; (try dsimp only at hSw); go_simp; try (with_reducible rfl)
    try simp only [Act.put, lA, lB, lC]
    refine wpAnyH_done (by kernel_rfl) ?_ _
    have b11 := hbel.trans (b10.mono hbel.size)
    clear s1 s2 s3 s4 hHeld b9 b10
    try clear s5
    go_wp2
    go_ret
    exact ⟨ret_b HF.out.symm, b11⟩
   | true =>
    rw [hrb] at HR
    by_cases hz : k = 0
    ·
     have HA := Lib.hid (HSTEP.out hrb (fun g => absurd g (by omega)))
     have hg : decide ((0 : Int) < (k : Int)) = false := decide_eq_false (by omega)
     have hgn : decide (0 < k) = false := decide_eq_false (by omega)
     clear hrb HBAD HSTEP H1 hz
     generalize (qs.getD k q0D).1 = id at *
     generalize (qs.getD k q0D).2.1 = tn at *
     generalize (qs.getD k q0D).2.2.1 = cs at *
     generalize (qs.getD k q0D).2.2.2 = os at *
     go_wp2
     refine wp_region_held_drew (S := fun w' => w'.cell? ⟨b, off + k * 4, none⟩ = some (.int .i64 id) ∧ w'.cell? ⟨b, off + k * 4 + 1, none⟩ = some (.int .i64 tn) ∧ w'.cell? ⟨b, off + k * 4 + 2, none⟩ = some (cv) ∧ w'.cell? ⟨b, off + k * 4 + 3, none⟩ = some (ov)) (by kernel_rfl) ⟨hc1, hc2, hc3, hc4⟩ (fun hHeld => ?_)
     refine tR (i := 0) (v := ?_) ?_ ?_; rotate_left
     ·
      intro w hSw; (try dsimp only at hSw); go_simp; try (with_reducible rfl)
     try simp only [Act.put, lA, lB, lC]
     refine tR (i := 1) (v := ?_) ?_ ?_; rotate_left
     ·
      intro w hSw; (try dsimp only at hSw); go_simp; try (with_reducible rfl)
     try simp only [Act.put, lA, lB, lC]
     refine tR (i := 2) (v := ?_) ?_ ?_; rotate_left
     ·
      intro w hSw; (try dsimp only at hSw); go_simp; try (with_reducible rfl)
     try simp only [Act.put, lA, lB, lC]
     refine tR (i := 3) (v := ?_) ?_ ?_; rotate_left
     ·
      intro w hSw; (try dsimp only at hSw); go_simp; try (with_reducible rfl)
     try simp only [Act.put, lA, lB, lC]
     refine wpAnyH_ready (rs := [4]) (by kernel_rfl) (by simp) ?_
     refine AllReadyH.cons (o := _) (by simp only [hA, hB, hC]; rfl) (fun K hK => ?_) AllReadyH.nil
     go_simp
     refine (HR.out _ (by exact condsR_heap hC rfl) (by exact ints_heap hI rfl)).mono ?_
     rintro e w8 ⟨rfl, b9⟩
     have b10 : Below wr.heap.size wr w8 := ⟨b9.os, b9.tape, b9.output, b9.size, b9.block⟩
     have s1 := (b10.cell (p := ⟨b, off + k * 4, none⟩) hbl).trans hc1
     have s2 := (b10.cell (p := ⟨b, off + k * 4 + 1, none⟩) hbl).trans hc2
     have s3 := (b10.cell (p := ⟨b, off + k * 4 + 2, none⟩) hbl).trans hc3
     have s4 := (b10.cell (p := ⟨b, off + k * 4 + 3, none⟩) hbl).trans hc4
     refine hK.out _ _ ⟨s1, s2, s3, s4⟩ (fun hHeld => ?_)
     clear hK K
     try simp only [Act.put, lA, lB, lC]
     refine tR (i := 5) (v := ?_) ?_ ?_; rotate_left
     ·
      intro w hSw; (try dsimp only at hSw); go_simp; try (with_reducible rfl)
     try simp only [Act.put, lA, lB, lC]
     refine tR (i := 6) (v := ?_) ?_ ?_; rotate_left
     ·
      intro w hSw; (try dsimp only at hSw); go_simp; try (with_reducible rfl)
     try simp only [Act.put, lA, lB, lC]
     refine tR (i := 7) (v := ?_) ?_ ?_; rotate_left
     ·
      intro w hSw; (try dsimp only at hSw); go_simp; try (with_reducible rfl)
     try simp only [Act.put, lA, lB, lC]
     refine tR (i := 8) (v := ?_) ?_ ?_; rotate_left
     ·
      intro w hSw; (try dsimp only at hSw); go_simp; try (with_reducible rfl)
     try simp only [Act.put, lA, lB, lC]
     refine tR (i := 9) (v := ?_) ?_ ?_; rotate_left
     ·
      intro w hSw; (try dsimp only at hSw); go_simp; try (with_reducible rfl)
     try simp only [Act.put, lA, lB, lC]
     refine tO (i := 10) ?_
     try simp only [Act.put, lA, lB, lC]
     refine tO (i := 11) ?_
     try simp only [Act.put, lA, lB, lC]
     refine tO (i := 12) ?_
     try simp only [Act.put, lA, lB, lC]
     refine tO (i := 13) ?_
     try simp only [Act.put, lA, lB, lC]
     refine tO (i := 14) ?_
     try simp only [Act.put, lA, lB, lC]
     refine tO (i := 15) ?_
     try simp only [Act.put, lA, lB, lC]
     refine tO (i := 16) ?_
     try simp only [Act.put, lA, lB, lC]
     refine tO (i := 17) ?_
     try simp only [Act.put, lA, lB, lC]
     refine tO (i := 18) ?_
     try simp only [Act.put, lA, lB, lC]
     refine tO (i := 19) ?_
     try simp only [Act.put, lA, lB, lC]
     refine tO (i := 20) ?_
     try simp only [Act.put, lA, lB, lC]
     refine tO (i := 21) ?_
     try simp only [Act.put, lA, lB, lC]
     refine tR (i := 22) (v := ?_) ?_ ?_; rotate_left
     ·
      intro w hSw; (try dsimp only at hSw); go_simp; try (with_reducible rfl)
     try simp only [Act.put, lA, lB, lC]
     refine tR (i := 23) (v := ?_) ?_ ?_; rotate_left
     ·
      intro w hSw; (try dsimp only at hSw); go_simp; try (with_reducible rfl)
     try simp only [Act.put, lA, lB, lC]
     refine wpAnyH_done (by kernel_rfl) ?_ _
     have b11 := hbel.trans (b10.mono hbel.size)
     clear s1 s2 s3 s4 hHeld b9 b10
     try clear s5
     go_wp2
     go_roundw
     case rel => exact ⟨k + 1, by omega, by go_num, HA, b11⟩
     case measure => simp [intOf]; omega
    ·
     obtain ⟨m, hkm⟩ : ∃ m, k = m + 1 := ⟨k - 1, by omega⟩
     have hml : m < qs.length := by omega
     obtain ⟨b', off', cap'', cv', ov', hv', _, hc0, _, _, _, _, _⟩ := queriesR_at H1.out hml
     simp only [Value.slice.injEq, Option.some.injEq, Addr.mk.injEq] at hv'
     obtain ⟨⟨rfl, rfl, _⟩, _, rfl⟩ := hv'
     have hg : decide ((0 : Int) < (k : Int)) = true := decide_eq_true (by omega)
     have hgn : decide (0 < k) = true := decide_eq_true (by omega)
     have j1 : (0 : Int) ≤ (m : Int) := by omega
     have j2 : (m : Int) < (qs.length : Int) := by omega
     have hsub : IntKind.i64.wrap ((k : Int) - 1) = (m : Int) := by rw [IntWalk.i64_in _ (by omega)]; omega
     rw [show k - 1 = m by omega] at HBAD HSTEP
     by_cases hle : (qs.getD k q0D).1 ≤ (qs.getD m q0D).1
     ·
      have HF := Lib.hid (HBAD.out (Or.inr ⟨by omega, by omega⟩))
      have hd := decide_eq_true hle
      clear hrb HBAD HSTEP H1 hz hle hkm
      generalize (qs.getD k q0D).1 = id at *
      generalize (qs.getD k q0D).2.1 = tn at *
      generalize (qs.getD k q0D).2.2.1 = cs at *
      generalize (qs.getD k q0D).2.2.2 = os at *
      generalize (qs.getD m q0D).1 = idp at *
      go_wp2
      refine wp_region_held_drew (S := fun w' => w'.cell? ⟨b, off + k * 4, none⟩ = some (.int .i64 id) ∧ w'.cell? ⟨b, off + k * 4 + 1, none⟩ = some (.int .i64 tn) ∧ w'.cell? ⟨b, off + k * 4 + 2, none⟩ = some (cv) ∧ w'.cell? ⟨b, off + k * 4 + 3, none⟩ = some (ov) ∧ w'.cell? ⟨b, off + m * 4, none⟩ = some (.int .i64 idp)) (by kernel_rfl) ⟨hc1, hc2, hc3, hc4, hc0⟩ (fun hHeld => ?_)
      refine tR (i := 0) (v := ?_) ?_ ?_; rotate_left
      ·
       intro w hSw; (try dsimp only at hSw); go_simp; try (with_reducible rfl)
      try simp only [Act.put, lA, lB, lC]
      refine tR (i := 1) (v := ?_) ?_ ?_; rotate_left
      ·
       intro w hSw; (try dsimp only at hSw); go_simp; try (with_reducible rfl)
      try simp only [Act.put, lA, lB, lC]
      refine tR (i := 2) (v := ?_) ?_ ?_; rotate_left
      ·
       intro w hSw; (try dsimp only at hSw); go_simp; try (with_reducible rfl)
      try simp only [Act.put, lA, lB, lC]
      refine tR (i := 3) (v := ?_) ?_ ?_; rotate_left
      ·
       intro w hSw; (try dsimp only at hSw); go_simp; try (with_reducible rfl)
      try simp only [Act.put, lA, lB, lC]
      refine wpAnyH_ready (rs := [4]) (by kernel_rfl) (by simp) ?_
      refine AllReadyH.cons (o := _) (by simp only [hA, hB, hC]; rfl) (fun K hK => ?_) AllReadyH.nil
      go_simp
      refine (HR.out _ (by exact condsR_heap hC rfl) (by exact ints_heap hI rfl)).mono ?_
      rintro e w8 ⟨rfl, b9⟩
      have b10 : Below wr.heap.size wr w8 := ⟨b9.os, b9.tape, b9.output, b9.size, b9.block⟩
      have s1 := (b10.cell (p := ⟨b, off + k * 4, none⟩) hbl).trans hc1
      have s2 := (b10.cell (p := ⟨b, off + k * 4 + 1, none⟩) hbl).trans hc2
      have s3 := (b10.cell (p := ⟨b, off + k * 4 + 2, none⟩) hbl).trans hc3
      have s4 := (b10.cell (p := ⟨b, off + k * 4 + 3, none⟩) hbl).trans hc4
      have s5 := (b10.cell (p := ⟨b, off + m * 4, none⟩) hbl).trans hc0
      refine hK.out _ _ ⟨s1, s2, s3, s4, s5⟩ (fun hHeld => ?_)
      clear hK K
      try simp only [Act.put, lA, lB, lC]
      refine tR (i := 5) (v := ?_) ?_ ?_; rotate_left
      ·
       intro w hSw; (try dsimp only at hSw); go_simp; try (with_reducible rfl)
      try simp only [Act.put, lA, lB, lC]
      refine tR (i := 6) (v := ?_) ?_ ?_; rotate_left
      ·
       intro w hSw; (try dsimp only at hSw); go_simp; try (with_reducible rfl)
      try simp only [Act.put, lA, lB, lC]
      refine tR (i := 7) (v := ?_) ?_ ?_; rotate_left
      ·
       intro w hSw; (try dsimp only at hSw); go_simp; try (with_reducible rfl)
      try simp only [Act.put, lA, lB, lC]
      refine tR (i := 8) (v := ?_) ?_ ?_; rotate_left
      ·
       intro w hSw; (try dsimp only at hSw); go_simp; try (with_reducible rfl)
      try simp only [Act.put, lA, lB, lC]
      refine tR (i := 9) (v := ?_) ?_ ?_; rotate_left
      ·
       intro w hSw; (try dsimp only at hSw); go_simp; try (with_reducible rfl)
      try simp only [Act.put, lA, lB, lC]
      refine tR (i := 10) (v := ?_) ?_ ?_; rotate_left
      ·
       intro w hSw; (try dsimp only at hSw); go_simp; try (with_reducible rfl)
      try simp only [Act.put, lA, lB, lC]
      refine tR (i := 11) (v := ?_) ?_ ?_; rotate_left
      ·
       intro w hSw; (try dsimp only at hSw); go_simp; try (with_reducible rfl)
      try simp only [Act.put, lA, lB, lC]
      refine tR (i := 12) (v := ?_) ?_ ?_; rotate_left
      ·
       intro w hSw; (try dsimp only at hSw); go_simp; try (with_reducible rfl)
      try simp only [Act.put, lA, lB, lC]
      refine tR (i := 13) (v := ?_) ?_ ?_; rotate_left
      ·
       intro w hSw; (try dsimp only at hSw); go_simp; try (with_reducible rfl)
      try simp only [Act.put, lA, lB, lC]
      refine tR (i := 14) (v := ?_) ?_ ?_; rotate_left
      ·
       intro w hSw; (try dsimp only at hSw); go_simp; try (with_reducible rfl)
      try simp only [Act.put, lA, lB, lC]
      refine tR (i := 15) (v := ?_) ?_ ?_; rotate_left
      ·
       intro w hSw; (try dsimp only at hSw); go_simp; try (with_reducible rfl)
      try simp only [Act.put, lA, lB, lC]
      refine tR (i := 16) (v := ?_) ?_ ?_; rotate_left
      ·
       intro w hSw; (try dsimp only at hSw); go_simp; try (with_reducible rfl)
      try simp only [Act.put, lA, lB, lC]
      refine tR (i := 17) (v := ?_) ?_ ?_; rotate_left
      ·
       intro w hSw; (try dsimp only at hSw); go_simp; try (with_reducible rfl)
      try simp only [Act.put, lA, lB, lC]
      refine tR (i := 18) (v := ?_) ?_ ?_; rotate_left
      ·
       intro w hSw; (try dsimp only at hSw); go_simp; try (with_reducible rfl)
      try simp only [Act.put, lA, lB, lC]
      refine tR (i := 19) (v := ?_) ?_ ?_; rotate_left
      ·
       intro w hSw; (try dsimp only at hSw); go_simp; try (with_reducible rfl)
      try simp only [Act.put, lA, lB, lC]
      refine tR (i := 20) (v := ?_) ?_ ?_; rotate_left
      ·
       intro w hSw; (try dsimp only at hSw); go_simp; try (with_reducible rfl)
      try simp only [Act.put, lA, lB, lC]
      refine tR (i := 21) (v := ?_) ?_ ?_; rotate_left
      ·
       intro w hSw; (try dsimp only at hSw); go_simp; try (with_reducible rfl)
      try simp only [Act.put, lA, lB, lC]
      refine tR (i := 22) (v := ?_) ?_ ?_; rotate_left
      ·
       intro w hSw; (try dsimp only at hSw); go_simp; try (with_reducible rfl)
      try simp only [Act.put, lA, lB, lC]
      refine tR (i := 23) (v := ?_) ?_ ?_; rotate_left
      ·
       intro w hSw; (try dsimp only at hSw); go_simp; try (with_reducible rfl)
      try simp only [Act.put, lA, lB, lC]
      refine wpAnyH_done (by kernel_rfl) ?_ _
      have b11 := hbel.trans (b10.mono hbel.size)
      clear s1 s2 s3 s4 hHeld b9 b10
      try clear s5
      go_wp2
      go_ret
      exact ⟨ret_b HF.out.symm, b11⟩
     ·
      have HA := Lib.hid (HSTEP.out hrb (fun _ => by omega))
      have hd := decide_eq_false hle
      clear hrb HBAD HSTEP H1 hz hle hkm
      generalize (qs.getD k q0D).1 = id at *
      generalize (qs.getD k q0D).2.1 = tn at *
      generalize (qs.getD k q0D).2.2.1 = cs at *
      generalize (qs.getD k q0D).2.2.2 = os at *
      generalize (qs.getD m q0D).1 = idp at *
      go_wp2
      refine wp_region_held_drew (S := fun w' => w'.cell? ⟨b, off + k * 4, none⟩ = some (.int .i64 id) ∧ w'.cell? ⟨b, off + k * 4 + 1, none⟩ = some (.int .i64 tn) ∧ w'.cell? ⟨b, off + k * 4 + 2, none⟩ = some (cv) ∧ w'.cell? ⟨b, off + k * 4 + 3, none⟩ = some (ov) ∧ w'.cell? ⟨b, off + m * 4, none⟩ = some (.int .i64 idp)) (by kernel_rfl) ⟨hc1, hc2, hc3, hc4, hc0⟩ (fun hHeld => ?_)
      refine tR (i := 0) (v := ?_) ?_ ?_; rotate_left
      ·
       intro w hSw; (try dsimp only at hSw); go_simp; try (with_reducible rfl)
      try simp only [Act.put, lA, lB, lC]
      refine tR (i := 1) (v := ?_) ?_ ?_; rotate_left
      ·
       intro w hSw; (try dsimp only at hSw); go_simp; try (with_reducible rfl)
      try simp only [Act.put, lA, lB, lC]
      refine tR (i := 2) (v := ?_) ?_ ?_; rotate_left
      ·
       intro w hSw; (try dsimp only at hSw); go_simp; try (with_reducible rfl)
      try simp only [Act.put, lA, lB, lC]
      refine tR (i := 3) (v := ?_) ?_ ?_; rotate_left
      ·
       intro w hSw; (try dsimp only at hSw); go_simp; try (with_reducible rfl)
      try simp only [Act.put, lA, lB, lC]
      refine wpAnyH_ready (rs := [4]) (by kernel_rfl) (by simp) ?_
      refine AllReadyH.cons (o := _) (by simp only [hA, hB, hC]; rfl) (fun K hK => ?_) AllReadyH.nil
      go_simp
      refine (HR.out _ (by exact condsR_heap hC rfl) (by exact ints_heap hI rfl)).mono ?_
      rintro e w8 ⟨rfl, b9⟩
      have b10 : Below wr.heap.size wr w8 := ⟨b9.os, b9.tape, b9.output, b9.size, b9.block⟩
      have s1 := (b10.cell (p := ⟨b, off + k * 4, none⟩) hbl).trans hc1
      have s2 := (b10.cell (p := ⟨b, off + k * 4 + 1, none⟩) hbl).trans hc2
      have s3 := (b10.cell (p := ⟨b, off + k * 4 + 2, none⟩) hbl).trans hc3
      have s4 := (b10.cell (p := ⟨b, off + k * 4 + 3, none⟩) hbl).trans hc4
      have s5 := (b10.cell (p := ⟨b, off + m * 4, none⟩) hbl).trans hc0
      refine hK.out _ _ ⟨s1, s2, s3, s4, s5⟩ (fun hHeld => ?_)
      clear hK K
      try simp only [Act.put, lA, lB, lC]
      refine tR (i := 5) (v := ?_) ?_ ?_; rotate_left
      ·
       intro w hSw; (try dsimp only at hSw); go_simp; try (with_reducible rfl)
      try simp only [Act.put, lA, lB, lC]
      refine tR (i := 6) (v := ?_) ?_ ?_; rotate_left
      ·
       intro w hSw; (try dsimp only at hSw); go_simp; try (with_reducible rfl)
      try simp only [Act.put, lA, lB, lC]
      refine tR (i := 7) (v := ?_) ?_ ?_; rotate_left
      ·
       intro w hSw; (try dsimp only at hSw); go_simp; try (with_reducible rfl)
      try simp only [Act.put, lA, lB, lC]
      refine tR (i := 8) (v := ?_) ?_ ?_; rotate_left
      ·
       intro w hSw; (try dsimp only at hSw); go_simp; try (with_reducible rfl)
      try simp only [Act.put, lA, lB, lC]
      refine tR (i := 9) (v := ?_) ?_ ?_; rotate_left
      ·
       intro w hSw; (try dsimp only at hSw); go_simp; try (with_reducible rfl)
      try simp only [Act.put, lA, lB, lC]
      refine tR (i := 10) (v := ?_) ?_ ?_; rotate_left
      ·
       intro w hSw; (try dsimp only at hSw); go_simp; try (with_reducible rfl)
      try simp only [Act.put, lA, lB, lC]
      refine tR (i := 11) (v := ?_) ?_ ?_; rotate_left
      ·
       intro w hSw; (try dsimp only at hSw); go_simp; try (with_reducible rfl)
      try simp only [Act.put, lA, lB, lC]
      refine tR (i := 12) (v := ?_) ?_ ?_; rotate_left
      ·
       intro w hSw; (try dsimp only at hSw); go_simp; try (with_reducible rfl)
      try simp only [Act.put, lA, lB, lC]
      refine tR (i := 13) (v := ?_) ?_ ?_; rotate_left
      ·
       intro w hSw; (try dsimp only at hSw); go_simp; try (with_reducible rfl)
      try simp only [Act.put, lA, lB, lC]
      refine tR (i := 14) (v := ?_) ?_ ?_; rotate_left
      ·
       intro w hSw; (try dsimp only at hSw); go_simp; try (with_reducible rfl)
      try simp only [Act.put, lA, lB, lC]
      refine tR (i := 15) (v := ?_) ?_ ?_; rotate_left
      ·
       intro w hSw; (try dsimp only at hSw); go_simp; try (with_reducible rfl)
      try simp only [Act.put, lA, lB, lC]
      refine tR (i := 16) (v := ?_) ?_ ?_; rotate_left
      ·
       intro w hSw; (try dsimp only at hSw); go_simp; try (with_reducible rfl)
      try simp only [Act.put, lA, lB, lC]
      refine tR (i := 17) (v := ?_) ?_ ?_; rotate_left
      ·
       intro w hSw; (try dsimp only at hSw); go_simp; try (with_reducible rfl)
      try simp only [Act.put, lA, lB, lC]
      refine tR (i := 18) (v := ?_) ?_ ?_; rotate_left
      ·
       intro w hSw; (try dsimp only at hSw); go_simp; try (with_reducible rfl)
      try simp only [Act.put, lA, lB, lC]
      refine tR (i := 19) (v := ?_) ?_ ?_; rotate_left
      ·
       intro w hSw; (try dsimp only at hSw); go_simp; try (with_reducible rfl)
      try simp only [Act.put, lA, lB, lC]
      refine tR (i := 20) (v := ?_) ?_ ?_; rotate_left
      ·
       intro w hSw; (try dsimp only at hSw); go_simp; try (with_reducible rfl)
      try simp only [Act.put, lA, lB, lC]
      refine tR (i := 21) (v := ?_) ?_ ?_; rotate_left
      ·
       intro w hSw; (try dsimp only at hSw); go_simp; try (with_reducible rfl)
      try simp only [Act.put, lA, lB, lC]
      refine tR (i := 22) (v := ?_) ?_ ?_; rotate_left
      ·
       intro w hSw; (try dsimp only at hSw); go_simp; try (with_reducible rfl)
      try simp only [Act.put, lA, lB, lC]
      refine tR (i := 23) (v := ?_) ?_ ?_; rotate_left
      ·
       intro w hSw; (try dsimp only at hSw); go_simp; try (with_reducible rfl)
      try simp only [Act.put, lA, lB, lC]
      refine wpAnyH_done (by kernel_rfl) ?_ _
      have b11 := hbel.trans (b10.mono hbel.size)
      clear s1 s2 s3 s4 hHeld b9 b10
      try clear s5
      go_wp2
      go_roundw
      case rel => exact ⟨k + 1, by omega, by go_num, HA, b11⟩
      case measure => simp [intOf]; omega
  ·
   obtain rfl : k = qs.length := by omega
   have HE := Lib.hid (areQB_all hall.out)
   clear hall
   by_cases h32 : qs.length ≤ 24
   ·
    have HT : Hid (areQB qs = true) := Lib.hid (by rw [HE.out]; exact decide_eq_true h32)
    have h33 : (qs.length : Int) ≤ 24 := by omega
    go_wp2
    go_ret
    exact ⟨ret_b HT.out.symm, hbel⟩
   ·
    have HT : Hid (areQB qs = false) := Lib.hid (by rw [HE.out]; exact decide_eq_false h32)
    have h33 : ¬ (qs.length : Int) ≤ 24 := by omega
    go_wp2
    go_ret
    exact ⟨ret_b HT.out.symm, hbel⟩
/-- The condition, if it is on the field, contains the value. -/
def admC (field v : Int) (c : CondD) : Bool := !decide (c.1 = field) || decide (c.2.1 ≤ v ∧ v ≤ c.2.2)
def admB (cs : List CondD) (field v : Int) : Bool := cs.all (admC field v)
theorem adm_bad {cs : List CondD} {field v : Int} {k : Nat} (hk : k < cs.length) (h : admC field v (cs.getD k (0, 0, 0)) = false) : admB cs field v = false := by
 unfold admB
 rw [Bool.eq_false_iff]
 intro g
 rw [List.all_eq_true] at g
 have e : cs.getD k (0, 0, 0) = cs[k] := by simp [List.getD, hk]
 rw [e, g _ (List.getElem_mem hk)] at h
 exact Bool.noConfusion h
theorem adm_ok {cs : List CondD} {field v : Int} (h : ∀ k, k < cs.length → admC field v (cs.getD k (0, 0, 0)) = true) : admB cs field v = true := by
 unfold admB
 rw [List.all_eq_true]
 intro c hc
 obtain ⟨k, hk, rfl⟩ := List.getElem_of_mem hc
 have := h k hk
 have e : cs.getD k (0, 0, 0) = cs[k] := by simp [List.getD, hk]
 rwa [e] at this
theorem adm_other {f lo hi field v : Int} (h : ¬ f = field) : admC field v (f, lo, hi) = true := by simp [admC, h]
theorem adm_in {f lo hi field v : Int} (h : lo ≤ v ∧ v ≤ hi) : admC field v (f, lo, hi) = true := by simp [admC, h]
theorem adm_out {lo hi field v : Int} (h : ¬ (lo ≤ v ∧ v ≤ hi)) : admC field v (field, lo, hi) = false := by
 unfold admC
 rw [decide_eq_false h]; simp
set_option maxHeartbeats 16000000 in
set_option maxRecDepth 100000 in
theorem specAdmits (id tn field v : Int) (cv ov : Value) (cs : List CondD) (w : World) (h : CondsR w cv cs) (hn : cs.length ≤ 1048576) :
  Calls Tryd.prog 76 #[qV id tn cv ov, .int .i64 field, .int .i64 v] w fun e w' => e = .returned (.bool (admB cs field v)) ∧ Below w.heap.size w w' := by
 obtain ⟨ca, ccap, rfl⟩ := condsR_len h
 have hb0 : Below w.heap.size w (w.alloc (.cells #[.int .i64 id, .int .i64 tn, .slice ca cs.length ccap, ov] 63)) := (Below.refl _ w).alloc (Nat.le_refl _) _
 have HG0 := Lib.hid (heap_alloc_new w (.cells #[.int .i64 id, .int .i64 tn, .slice ca cs.length ccap, ov] 63))
 have HZ : Hid (w.heap.size < (w.alloc (.cells #[.int .i64 id, .int .i64 tn, .slice ca cs.length ccap, ov] 63)).heap.size) := Lib.hid (by simp)
 have HB0 := Lib.hid hb0
 have HC := Lib.hid (condsR_below h hb0)
 clear h hb0
 go_enter Tryd.func76, Tryd.ntmps76
 go_wp2
 generalize w.alloc (.cells #[.int .i64 id, .int .i64 tn, .slice ca cs.length ccap, ov] 63) = W at *
 go_loopw [7] (fun i wr => ∃ k : Nat, k ≤ cs.length ∧ i = .int .i64 k ∧ Hid (∀ j, j < k → admC field v (cs.getD j (0, 0, 0)) = true) ∧ Below W.heap.size W wr) (fun i _ => cs.length - (intOf i).toNat)
 case atStart => exact ⟨0, Nat.zero_le _, rfl, Lib.hid (fun j hj => by omega), Below.refl _ _⟩
 case round =>
  obtain ⟨k, hk, rfl, hall, hbel⟩ := hrel
  have kq := (hbel.block w.heap.size HZ.out).trans HG0.out
  have p2 := (cell_of_row wr _ 2 _ _ _ kq).trans (show _ = some (Value.slice ca cs.length ccap) from rfl)
  clear kq
  by_cases hlt : k < cs.length
  ·
   obtain ⟨b, off, cap', hv, hbl, hc1, hc2, hc3⟩ := condsR_at (condsR_below HC.out hbel) hlt
   simp only [Value.slice.injEq] at hv
   obtain ⟨rfl, _, rfl⟩ := hv
   have i1 : (0 : Int) ≤ (k : Int) := by omega
   have i2 : (k : Int) < (cs.length : Int) := by omega
   have HBAD := Lib.hid (fun e => adm_bad (field := field) (v := v) hlt e)
   have HALL : Hid (admC field v (cs.getD k (0, 0, 0)) = true → ∀ j, j < k + 1 → admC field v (cs.getD j (0, 0, 0)) = true) := Lib.hid (fun he j hj => by
    by_cases e : j = k
    ·
     exact e ▸ he
    ·
     exact hall.out j (by omega))
   clear hall
   generalize cs.getD k (0, 0, 0) = c at *
   obtain ⟨f, lo, hi⟩ := c
   simp only at hc1 hc2 hc3
   go_wp2
   by_cases hf : f = field
   ·
    subst hf
    have ef : (f == f) = true := by simp
    by_cases hin : lo ≤ v ∧ v ≤ hi
    ·
     have HA := Lib.hid (HALL.out (adm_in hin))
     have HIN := Lib.hid (fun w => in_yes v lo hi w hin.1 hin.2)
     clear hin HALL HBAD
     refine wp_region_held_drew (S := fun w' => w'.cell? ⟨w.heap.size, 2, none⟩ = some (.slice (some ⟨b, off, none⟩) cs.length ccap) ∧ w'.cell? ⟨b, off + k * 3, none⟩ = some (.int .i64 f) ∧ w'.cell? ⟨b, off + k * 3 + 1, none⟩ = some (.int .i64 lo) ∧ w'.cell? ⟨b, off + k * 3 + 2, none⟩ = some (.int .i64 hi)) (by kernel_rfl) ⟨p2, hc1, hc2, hc3⟩ (fun hHeld => ?_)
     refine tR (i := 0) (v := ?_) ?_ ?_; rotate_left
     ·
      intro w hSw; (try dsimp only at hSw); go_simp; try (with_reducible rfl)
     try simp only [Act.put, lA, lB, lC]
     refine tR (i := 1) (v := ?_) ?_ ?_; rotate_left
     ·
      intro w hSw; (try dsimp only at hSw); go_simp; try (with_reducible rfl)
     try simp only [Act.put, lA, lB, lC]
     refine tR (i := 2) (v := ?_) ?_ ?_; rotate_left
     ·
      intro w hSw; (try dsimp only at hSw); go_simp; try (with_reducible rfl)
     try simp only [Act.put, lA, lB, lC]
     refine tR (i := 3) (v := ?_) ?_ ?_; rotate_left
     ·
      intro w hSw; (try dsimp only at hSw); go_simp; try (with_reducible rfl)
     try simp only [Act.put, lA, lB, lC]
     refine tR (i := 4) (v := ?_) ?_ ?_; rotate_left
     ·
      intro w hSw; (try dsimp only at hSw); go_simp; try (with_reducible rfl)
     try simp only [Act.put, lA, lB, lC]
     refine tR (i := 5) (v := ?_) ?_ ?_; rotate_left
     ·
      intro w hSw; (try dsimp only at hSw); go_simp; try (with_reducible rfl)
     try simp only [Act.put, lA, lB, lC]
     refine tR (i := 6) (v := ?_) ?_ ?_; rotate_left
     ·
      intro w hSw; (try dsimp only at hSw); go_simp; try (with_reducible rfl)
     try simp only [Act.put, lA, lB, lC]
     refine tR (i := 7) (v := ?_) ?_ ?_; rotate_left
     ·
      intro w hSw; (try dsimp only at hSw); go_simp; try (with_reducible rfl)
     try simp only [Act.put, lA, lB, lC]
     refine tR (i := 8) (v := ?_) ?_ ?_; rotate_left
     ·
      intro w hSw; (try dsimp only at hSw); go_simp; try (with_reducible rfl)
     try simp only [Act.put, lA, lB, lC]
     refine tR (i := 9) (v := ?_) ?_ ?_; rotate_left
     ·
      intro w hSw; (try dsimp only at hSw); go_simp; try (with_reducible rfl)
     try simp only [Act.put, lA, lB, lC]
     refine tR (i := 10) (v := ?_) ?_ ?_; rotate_left
     ·
      intro w hSw; (try dsimp only at hSw); go_simp; try (with_reducible rfl)
     try simp only [Act.put, lA, lB, lC]
     refine tR (i := 11) (v := ?_) ?_ ?_; rotate_left
     ·
      intro w hSw; (try dsimp only at hSw); go_simp; try (with_reducible rfl)
     try simp only [Act.put, lA, lB, lC]
     refine tR (i := 12) (v := ?_) ?_ ?_; rotate_left
     ·
      intro w hSw; (try dsimp only at hSw); go_simp; try (with_reducible rfl)
     try simp only [Act.put, lA, lB, lC]
     refine tR (i := 13) (v := ?_) ?_ ?_; rotate_left
     ·
      intro w hSw; (try dsimp only at hSw); go_simp; try (with_reducible rfl)
     try simp only [Act.put, lA, lB, lC]
     refine tR (i := 14) (v := ?_) ?_ ?_; rotate_left
     ·
      intro w hSw; (try dsimp only at hSw); go_simp; try (with_reducible rfl)
     try simp only [Act.put, lA, lB, lC]
     refine tR (i := 15) (v := ?_) ?_ ?_; rotate_left
     ·
      intro w hSw; (try dsimp only at hSw); go_simp; try (with_reducible rfl)
     try simp only [Act.put, lA, lB, lC]
     refine tR (i := 16) (v := ?_) ?_ ?_; rotate_left
     ·
      intro w hSw; (try dsimp only at hSw); go_simp; try (with_reducible rfl)
     try simp only [Act.put, lA, lB, lC]
     refine tR (i := 17) (v := ?_) ?_ ?_; rotate_left
     ·
      intro w hSw; (try dsimp only at hSw); go_simp; try (with_reducible rfl)
     try simp only [Act.put, lA, lB, lC]
     refine tR (i := 18) (v := ?_) ?_ ?_; rotate_left
     ·
      intro w hSw; (try dsimp only at hSw); go_simp; try (with_reducible rfl)
     try simp only [Act.put, lA, lB, lC]
     refine tR (i := 19) (v := ?_) ?_ ?_; rotate_left
     ·
      intro w hSw; (try dsimp only at hSw); go_simp; try (with_reducible rfl)
     try simp only [Act.put, lA, lB, lC]
     refine tR (i := 20) (v := ?_) ?_ ?_; rotate_left
     ·
      intro w hSw; (try dsimp only at hSw); go_simp; try (with_reducible rfl)
     try simp only [Act.put, lA, lB, lC]
     refine tR (i := 21) (v := ?_) ?_ ?_; rotate_left
     ·
      intro w hSw; (try dsimp only at hSw); go_simp; try (with_reducible rfl)
     try simp only [Act.put, lA, lB, lC]
     refine wpAnyH_ready (rs := [22]) (by kernel_rfl) (by simp) ?_
     refine AllReadyH.cons (o := _) (by simp only [hA, hB, hC]; rfl) (fun K hK => ?_) AllReadyH.nil
     go_simp
     refine (HIN.out _).mono ?_
     rintro e w8 ⟨rfl, rfl⟩
     refine hK.out _ _ ⟨p2, hc1, hc2, hc3⟩ (fun hHeld => ?_)
     clear hK K
     try simp only [Act.put, lA, lB, lC]
     refine tR (i := 23) (v := ?_) ?_ ?_; rotate_left
     ·
      intro w hSw; (try dsimp only at hSw); go_simp; try (with_reducible rfl)
     try simp only [Act.put, lA, lB, lC]
     refine tR (i := 24) (v := ?_) ?_ ?_; rotate_left
     ·
      intro w hSw; (try dsimp only at hSw); go_simp; try (with_reducible rfl)
     try simp only [Act.put, lA, lB, lC]
     refine wpAnyH_done (by kernel_rfl) ?_ _
     have b11 : Below W.heap.size W wr.drew := below_drew hbel
     clear hHeld
     go_wp2
     go_roundw
     case rel => exact ⟨k + 1, by omega, by go_num, HA, b11⟩
     case measure => simp [intOf]; omega
    ·
     have HF := Lib.hid (HBAD.out (adm_out hin))
     have HIN := Lib.hid (fun w => in_no v lo hi w hin)
     clear hin HALL HBAD
     refine wp_region_held_drew (S := fun w' => w'.cell? ⟨w.heap.size, 2, none⟩ = some (.slice (some ⟨b, off, none⟩) cs.length ccap) ∧ w'.cell? ⟨b, off + k * 3, none⟩ = some (.int .i64 f) ∧ w'.cell? ⟨b, off + k * 3 + 1, none⟩ = some (.int .i64 lo) ∧ w'.cell? ⟨b, off + k * 3 + 2, none⟩ = some (.int .i64 hi)) (by kernel_rfl) ⟨p2, hc1, hc2, hc3⟩ (fun hHeld => ?_)
     refine tR (i := 0) (v := ?_) ?_ ?_; rotate_left
     ·
      intro w hSw; (try dsimp only at hSw); go_simp; try (with_reducible rfl)
     try simp only [Act.put, lA, lB, lC]
     refine tR (i := 1) (v := ?_) ?_ ?_; rotate_left
     ·
      intro w hSw; (try dsimp only at hSw); go_simp; try (with_reducible rfl)
     try simp only [Act.put, lA, lB, lC]
     refine tR (i := 2) (v := ?_) ?_ ?_; rotate_left
     ·
      intro w hSw; (try dsimp only at hSw); go_simp; try (with_reducible rfl)
     try simp only [Act.put, lA, lB, lC]
     refine tR (i := 3) (v := ?_) ?_ ?_; rotate_left
     ·
      intro w hSw; (try dsimp only at hSw); go_simp; try (with_reducible rfl)
     try simp only [Act.put, lA, lB, lC]
     refine tR (i := 4) (v := ?_) ?_ ?_; rotate_left
     ·
      intro w hSw; (try dsimp only at hSw); go_simp; try (with_reducible rfl)
     try simp only [Act.put, lA, lB, lC]
     refine tR (i := 5) (v := ?_) ?_ ?_; rotate_left
     ·
      intro w hSw; (try dsimp only at hSw); go_simp; try (with_reducible rfl)
     try simp only [Act.put, lA, lB, lC]
     refine tR (i := 6) (v := ?_) ?_ ?_; rotate_left
     ·
      intro w hSw; (try dsimp only at hSw); go_simp; try (with_reducible rfl)
     try simp only [Act.put, lA, lB, lC]
     refine tR (i := 7) (v := ?_) ?_ ?_; rotate_left
     ·
      intro w hSw; (try dsimp only at hSw); go_simp; try (with_reducible rfl)
     try simp only [Act.put, lA, lB, lC]
     refine tR (i := 8) (v := ?_) ?_ ?_; rotate_left
     ·
      intro w hSw; (try dsimp only at hSw); go_simp; try (with_reducible rfl)
     try simp only [Act.put, lA, lB, lC]
     refine tR (i := 9) (v := ?_) ?_ ?_; rotate_left
     ·
      intro w hSw; (try dsimp only at hSw); go_simp; try (with_reducible rfl)
     try simp only [Act.put, lA, lB, lC]
     refine tR (i := 10) (v := ?_) ?_ ?_; rotate_left
     ·
      intro w hSw; (try dsimp only at hSw); go_simp; try (with_reducible rfl)
     try simp only [Act.put, lA, lB, lC]
     refine tR (i := 11) (v := ?_) ?_ ?_; rotate_left
     ·
      intro w hSw; (try dsimp only at hSw); go_simp; try (with_reducible rfl)
     try simp only [Act.put, lA, lB, lC]
     refine tR (i := 12) (v := ?_) ?_ ?_; rotate_left
     ·
      intro w hSw; (try dsimp only at hSw); go_simp; try (with_reducible rfl)
     try simp only [Act.put, lA, lB, lC]
     refine tR (i := 13) (v := ?_) ?_ ?_; rotate_left
     ·
      intro w hSw; (try dsimp only at hSw); go_simp; try (with_reducible rfl)
     try simp only [Act.put, lA, lB, lC]
     refine tR (i := 14) (v := ?_) ?_ ?_; rotate_left
     ·
      intro w hSw; (try dsimp only at hSw); go_simp; try (with_reducible rfl)
     try simp only [Act.put, lA, lB, lC]
     refine tR (i := 15) (v := ?_) ?_ ?_; rotate_left
     ·
      intro w hSw; (try dsimp only at hSw); go_simp; try (with_reducible rfl)
     try simp only [Act.put, lA, lB, lC]
     refine tR (i := 16) (v := ?_) ?_ ?_; rotate_left
     ·
      intro w hSw; (try dsimp only at hSw); go_simp; try (with_reducible rfl)
     try simp only [Act.put, lA, lB, lC]
     refine tR (i := 17) (v := ?_) ?_ ?_; rotate_left
     ·
      intro w hSw; (try dsimp only at hSw); go_simp; try (with_reducible rfl)
     try simp only [Act.put, lA, lB, lC]
     refine tR (i := 18) (v := ?_) ?_ ?_; rotate_left
     ·
      intro w hSw; (try dsimp only at hSw); go_simp; try (with_reducible rfl)
     try simp only [Act.put, lA, lB, lC]
     refine tR (i := 19) (v := ?_) ?_ ?_; rotate_left
     ·
      intro w hSw; (try dsimp only at hSw); go_simp; try (with_reducible rfl)
     try simp only [Act.put, lA, lB, lC]
     refine tR (i := 20) (v := ?_) ?_ ?_; rotate_left
     ·
      intro w hSw; (try dsimp only at hSw); go_simp; try (with_reducible rfl)
     try simp only [Act.put, lA, lB, lC]
     refine tR (i := 21) (v := ?_) ?_ ?_; rotate_left
     ·
      intro w hSw; (try dsimp only at hSw); go_simp; try (with_reducible rfl)
     try simp only [Act.put, lA, lB, lC]
     refine wpAnyH_ready (rs := [22]) (by kernel_rfl) (by simp) ?_
     refine AllReadyH.cons (o := _) (by simp only [hA, hB, hC]; rfl) (fun K hK => ?_) AllReadyH.nil
     go_simp
     refine (HIN.out _).mono ?_
     rintro e w8 ⟨rfl, rfl⟩
     refine hK.out _ _ ⟨p2, hc1, hc2, hc3⟩ (fun hHeld => ?_)
     clear hK K
     try simp only [Act.put, lA, lB, lC]
     refine tR (i := 23) (v := ?_) ?_ ?_; rotate_left
     ·
      intro w hSw; (try dsimp only at hSw); go_simp; try (with_reducible rfl)
     try simp only [Act.put, lA, lB, lC]
     refine tR (i := 24) (v := ?_) ?_ ?_; rotate_left
     ·
      intro w hSw; (try dsimp only at hSw); go_simp; try (with_reducible rfl)
     try simp only [Act.put, lA, lB, lC]
     refine wpAnyH_done (by kernel_rfl) ?_ _
     have b11 : Below W.heap.size W wr.drew := below_drew hbel
     clear hHeld
     go_wp2
     go_ret
     exact ⟨ret_b HF.out.symm, HB0.out.trans (b11.mono HB0.out.size)⟩
   ·
    have ef : (f == field) = false := by rw [beq_eq_false_iff_ne]; exact hf
    have HA := Lib.hid (HALL.out (adm_other hf))
    clear hf HALL HBAD
    refine wp_region_held_drew (S := fun w' => w'.cell? ⟨w.heap.size, 2, none⟩ = some (.slice (some ⟨b, off, none⟩) cs.length ccap) ∧ w'.cell? ⟨b, off + k * 3, none⟩ = some (.int .i64 f) ∧ w'.cell? ⟨b, off + k * 3 + 1, none⟩ = some (.int .i64 lo) ∧ w'.cell? ⟨b, off + k * 3 + 2, none⟩ = some (.int .i64 hi)) (by kernel_rfl) ⟨p2, hc1, hc2, hc3⟩ (fun hHeld => ?_)
    refine tR (i := 0) (v := ?_) ?_ ?_; rotate_left
    ·
     intro w hSw; (try dsimp only at hSw); go_simp; try (with_reducible rfl)
    try simp only [Act.put, lA, lB, lC]
    refine tR (i := 1) (v := ?_) ?_ ?_; rotate_left
    ·
     intro w hSw; (try dsimp only at hSw); go_simp; try (with_reducible rfl)
    try simp only [Act.put, lA, lB, lC]
    refine tR (i := 2) (v := ?_) ?_ ?_; rotate_left
    ·
     intro w hSw; (try dsimp only at hSw); go_simp; try (with_reducible rfl)
    try simp only [Act.put, lA, lB, lC]
    refine tR (i := 3) (v := ?_) ?_ ?_; rotate_left
    ·
     intro w hSw; (try dsimp only at hSw); go_simp; try (with_reducible rfl)
    try simp only [Act.put, lA, lB, lC]
    refine tR (i := 4) (v := ?_) ?_ ?_; rotate_left
    ·
     intro w hSw; (try dsimp only at hSw); go_simp; try (with_reducible rfl)
    try simp only [Act.put, lA, lB, lC]
    refine tR (i := 5) (v := ?_) ?_ ?_; rotate_left
    ·
     intro w hSw; (try dsimp only at hSw); go_simp; try (with_reducible rfl)
    try simp only [Act.put, lA, lB, lC]
    refine tR (i := 6) (v := ?_) ?_ ?_; rotate_left
    ·
     intro w hSw; (try dsimp only at hSw); go_simp; try (with_reducible rfl)
    try simp only [Act.put, lA, lB, lC]
    refine tR (i := 7) (v := ?_) ?_ ?_; rotate_left
    ·
     intro w hSw; (try dsimp only at hSw); go_simp; try (with_reducible rfl)
    try simp only [Act.put, lA, lB, lC]
    refine tR (i := 8) (v := ?_) ?_ ?_; rotate_left
    ·
     intro w hSw; (try dsimp only at hSw); go_simp; try (with_reducible rfl)
    try simp only [Act.put, lA, lB, lC]
    refine tO (i := 9) ?_
    try simp only [Act.put, lA, lB, lC]
    refine tO (i := 10) ?_
    try simp only [Act.put, lA, lB, lC]
    refine tO (i := 11) ?_
    try simp only [Act.put, lA, lB, lC]
    refine tO (i := 12) ?_
    try simp only [Act.put, lA, lB, lC]
    refine tO (i := 13) ?_
    try simp only [Act.put, lA, lB, lC]
    refine tO (i := 14) ?_
    try simp only [Act.put, lA, lB, lC]
    refine tO (i := 15) ?_
    try simp only [Act.put, lA, lB, lC]
    refine tO (i := 16) ?_
    try simp only [Act.put, lA, lB, lC]
    refine tO (i := 17) ?_
    try simp only [Act.put, lA, lB, lC]
    refine tO (i := 18) ?_
    try simp only [Act.put, lA, lB, lC]
    refine tO (i := 19) ?_
    try simp only [Act.put, lA, lB, lC]
    refine tO (i := 20) ?_
    try simp only [Act.put, lA, lB, lC]
    refine tO (i := 21) ?_
    try simp only [Act.put, lA, lB, lC]
    refine tO (i := 22) ?_
    try simp only [Act.put, lA, lB, lC]
    refine tO (i := 23) ?_
    try simp only [Act.put, lA, lB, lC]
    refine tR (i := 24) (v := ?_) ?_ ?_; rotate_left
    ·
     intro w hSw; (try dsimp only at hSw); go_simp; try (with_reducible rfl)
    try simp only [Act.put, lA, lB, lC]
    refine wpAnyH_done (by kernel_rfl) ?_ _
    have b11 : Below W.heap.size W wr.drew := below_drew hbel
    clear hHeld
    go_wp2
    go_roundw
    case rel => exact ⟨k + 1, by omega, by go_num, HA, b11⟩
    case measure => simp [intOf]; omega
  ·
   obtain rfl : k = cs.length := by omega
   have HF := Lib.hid (adm_ok hall.out)
   clear hall
   go_wp2
   go_ret
   exact ⟨ret_b HF.out.symm, HB0.out.trans (hbel.mono HB0.out.size)⟩
def admQ (f v : Int) (q : QD) : Bool := admB q.2.2.1 f v
def okF (f : Int) : Bool := decide (0 ≤ f ∧ f ≤ 2)
def okV (v : Int) : Bool := decide (0 ≤ v ∧ v ≤ 99)
def stabL (a : List QD) (f v : Int) : List Int := if (areQB a && (okF f && okV v)) = true then (a.filter (admQ f v)).map (·.1) else []
def stepP (acc : List SpanD) (v : Int) (s : List Int) : List SpanD :=
 if 0 < acc.length ∧ (acc.getD (acc.length - 1) p0D).2.2 = s then acc.set (acc.length - 1) ((acc.getD (acc.length - 1) p0D).1, v, (acc.getD (acc.length - 1) p0D).2.2) else acc ++ [(v, v, s)]
def spansTo (F : Int → List Int) : Nat → List SpanD
 | 0 => []
 | n + 1 => stepP (spansTo F n) (n : Int) (F n)
def spansL (a : List QD) (f : Int) : List SpanD := if (areQB a && okF f) = true then spansTo (stabL a f) 100 else []
theorem areQ_len {a : List QD} (h : areQB a = true) : a.length ≤ 24 := by
 unfold areQB at h
 simp only [Bool.and_eq_true, decide_eq_true_eq] at h
 exact h.2
theorem areQ_at {a : List QD} (h : areQB a = true) {q : QD} (hq : q ∈ a) : qB q = true := by
 unfold areQB at h
 rw [Bool.and_eq_true, List.all_eq_true] at h
 obtain ⟨i, hi, rfl⟩ := List.getElem_of_mem hq
 have := h.1 i (List.mem_range.2 hi)
 rw [Bool.and_eq_true] at this
 have e : a.getD i q0D = a[i] := by simp [List.getD, hi]
 rw [e] at this
 exact this.1
theorem stabL_len (a : List QD) (f v : Int) : (stabL a f v).length ≤ 24 := by
 unfold stabL
 split
 ·
  next h =>
  simp only [Bool.and_eq_true] at h
  rw [List.length_map]
  exact Nat.le_trans (List.length_filter_le _ _) (areQ_len h.1)
 ·
  simp
theorem stepP_len (acc : List SpanD) (v : Int) (s : List Int) : (stepP acc v s).length ≤ acc.length + 1 := by
 unfold stepP
 split
 ·
  rw [List.length_set]; omega
 ·
  simp
theorem spansTo_len (F : Int → List Int) : ∀ n, (spansTo F n).length ≤ n
 | 0 => by simp [spansTo]
 | n + 1 => by
  have h1 := stepP_len (spansTo F n) n (F n)
  have h2 := spansTo_len F n
  unfold spansTo
  omega
theorem getD_mem {rs : List SpanD} {i : Nat} (h : i < rs.length) : rs.getD i p0D ∈ rs := by
 have e : rs.getD i p0D = rs[i] := by simp [List.getD, h]
 rw [e]; exact List.getElem_mem h
theorem spansTo_sets {F : Int → List Int} {M : Nat} (hF : ∀ v, (F v).length ≤ M) : ∀ n, ∀ r ∈ spansTo F n, r.2.2.length ≤ M
 | 0 => by simp [spansTo]
 | n + 1 => by
  have ih := spansTo_sets hF n
  intro r hr
  unfold spansTo stepP at hr
  split at hr
  ·
   next c =>
   rcases List.mem_or_eq_of_mem_set hr with h | h
   ·
    exact ih r h
   ·
    subst h
    have h3 := ih _ (getD_mem (rs := spansTo F n) (i := (spansTo F n).length - 1) (by omega))
    exact h3
  ·
   rw [List.mem_append, List.mem_singleton] at hr
   rcases hr with h | h
   ·
    exact ih r h
   ·
    subst h; exact hF _
theorem sum_le_of {M : Nat} : ∀ (l : List SpanD), (∀ r ∈ l, r.2.2.length ≤ M) → (l.map fun r => r.2.2.length).sum ≤ l.length * M
 | [], _ => by simp
 | r :: l, h => by
  have ih := sum_le_of l (fun x hx => h x (List.mem_cons_of_mem _ hx))
  have h0 := h r List.mem_cons_self
  simp only [List.map_cons, List.sum_cons, List.length_cons, Nat.add_mul, Nat.one_mul]
  omega
theorem spansTo_size {F : Int → List Int} (hF : ∀ v, (F v).length ≤ 24) {n : Nat} (hn : n ≤ 100) : zpL (spansTo F n) ≤ 2500 := by
 have h1 := spansTo_len F n
 have h2 := sum_le_of (spansTo F n) (spansTo_sets hF n)
 unfold zpL zpTo
 rw [List.take_length]
 have : (spansTo F n).length * 24 ≤ 100 * 24 := Nat.mul_le_mul_right _ (by omega)
 omega
theorem spansL_size (a : List QD) (f : Int) : zpL (spansL a f) ≤ 2500 := by
 unfold spansL
 split
 ·
  exact spansTo_size (stabL_len a f) (Nat.le_refl _)
 ·
  simp [zpL, zpTo]
/-- The first condition on the field, else all values. -/
def rangeC (cs : List CondD) (f : Int) : Int × Int :=
 match cs.find? (fun c => decide (c.1 = f)) with
 | some c => (c.2.1, c.2.2)
 | none => (0, 99)
theorem condsB_at {cs : List CondD} (h : condsB cs = true) {i : Nat} (hi : i < cs.length) : condB (cs.getD i c0D) = true ∧ (0 < i → (cs.getD (i - 1) c0D).1 < (cs.getD i c0D).1) := by
 unfold condsB at h
 rw [List.all_eq_true] at h
 have := h i (List.mem_range.2 hi)
 rw [Bool.and_eq_true, Bool.or_eq_true, decide_eq_true_eq, decide_eq_true_eq] at this
 refine ⟨this.1, fun h0 => ?_⟩
 rcases this.2 with e | e
 ·
  omega
 ·
  exact e
theorem conds_asc {cs : List CondD} (h : condsB cs = true) : ∀ j, j < cs.length → ∀ i, i < j → (cs.getD i c0D).1 < (cs.getD j c0D).1
 | 0, _, i, hi => by omega
 | j + 1, hj, i, hi => by
  have h1 := (condsB_at h hj).2 (by omega)
  rw [Nat.add_sub_cancel] at h1
  by_cases e : i = j
  ·
   subst e; exact h1
  ·
   have := conds_asc h j (by omega) i (by omega); omega
theorem conds_same {cs : List CondD} (h : condsB cs = true) {c d : CondD} (hc : c ∈ cs) (hd : d ∈ cs) (e : c.1 = d.1) : c = d := by
 obtain ⟨i, hi, rfl⟩ := List.getElem_of_mem hc
 obtain ⟨j, hj, rfl⟩ := List.getElem_of_mem hd
 have ei : cs.getD i c0D = cs[i] := by simp [List.getD, hi]
 have ej : cs.getD j c0D = cs[j] := by simp [List.getD, hj]
 have e1 := conds_asc h j hj i
 have e2 := conds_asc h i hi j
 rw [ei, ej] at e1 e2
 have : i = j := by
  rcases Nat.lt_trichotomy i j with l | l | l
  ·
   have := e1 l; omega
  ·
   exact l
  ·
   have := e2 l; omega
 subst this; rfl
theorem adm_range {cs : List CondD} (h : condsB cs = true) (f : Int) {v : Int} (hv : 0 ≤ v ∧ v ≤ 99) : admB cs f v = decide ((rangeC cs f).1 ≤ v ∧ v ≤ (rangeC cs f).2) := by
 unfold rangeC
 cases hf : cs.find? (fun c => decide (c.1 = f)) with
 | none =>
  rw [List.find?_eq_none] at hf
  simp only [decide_eq_true_eq] at hf
  rw [decide_eq_true hv]
  unfold admB
  rw [List.all_eq_true]
  intro c hc
  simp [admC, hf c hc]
 | some c =>
  have hc := List.mem_of_find?_eq_some hf
  have he := List.find?_some hf
  rw [decide_eq_true_eq] at he
  simp only
  have hcv : admC f v c = decide (c.2.1 ≤ v ∧ v ≤ c.2.2) := by simp [admC, he]
  rw [← hcv]
  unfold admB
  cases hx : admC f v c with
  | false =>
   rw [Bool.eq_false_iff]
   intro g
   rw [List.all_eq_true] at g
   rw [g c hc] at hx
   exact Bool.noConfusion hx
  | true =>
   rw [List.all_eq_true]
   intro d hd
   by_cases e : d.1 = f
   ·
    rw [conds_same h hd hc (e.trans he.symm)]; exact hx
   ·
    simp [admC, e]
theorem qB_conds {q : QD} (h : qB q = true) : condsB q.2.2.1 = true := by
 unfold qB queryB at h
 simp only [Bool.and_eq_true] at h
 exact h.1
def inC (f v : Int) (q : QD) : Bool := decide ((rangeC q.2.2.1 f).1 ≤ v ∧ v ≤ (rangeC q.2.2.1 f).2)
/-- The program's side: the numbers of the queries whose range contains the value. -/
def valsL (a : List QD) (f v : Int) : List Int := (a.filter (inC f v)).map (·.1)
theorem valsL_eq {a : List QD} (h : areQB a = true) {f v : Int} (hf : 0 ≤ f ∧ f ≤ 2) (hv : 0 ≤ v ∧ v ≤ 99) : valsL a f v = stabL a f v := by
 unfold valsL stabL okF okV
 rw [h, decide_eq_true hf, decide_eq_true hv]
 simp only [Bool.and_self, if_true]
 congr 1
 refine List.filter_congr (fun q hq => ?_)
 exact (adm_range (qB_conds (areQ_at h hq)) f hv).symm
/-- The spans of the first k fields. -/
def fldTo (qs : List QD) (k : Nat) : List (List SpanD) := (List.range k).map fun f : Nat => spansL qs (f : Int)
theorem fldTo_len (qs : List QD) (k : Nat) : (fldTo qs k).length = k := by simp [fldTo]
theorem fldTo_step (qs : List QD) (k : Nat) : fldTo qs k ++ [spansL qs (k : Int)] = fldTo qs (k + 1) := by simp [fldTo, List.range_succ]
theorem fldTo_at (qs : List QD) {k j : Nat} (h : j < k) : (fldTo qs k).getD j [] = spansL qs (j : Int) := by simp [fldTo, List.getD, h]
def buildB (qs : List QD) : List QD × List (List SpanD) := if areQB qs = true then (qs, fldTo qs 3) else ([], [])
def isIndexB (qs : List QD) (fs : List (List SpanD)) : Bool := areQB qs && decide (fs = fldTo qs 3)
theorem idx_iff {qs : List QD} {fs : List (List SpanD)} (h : isIndexB qs fs = true) : areQB qs = true ∧ fs = fldTo qs 3 := by
 unfold isIndexB at h
 simpa using h
/-- The numbers of all queries. -/
def allL (qs : List QD) : List Int := qs.map (·.1)
/-- Does the order hold each field once? -/
def orderB (os : List Int) : Bool := decide (os.length = 3) && (List.range os.length).all fun i => decide (0 ≤ os.getD i 0 ∧ os.getD i 0 ≤ 2) && !decide (os.getD i 0 ∈ os.take i)
/-- The sets of the fields met in an order, as long as something is left: the set and the work. -/
def probeL (fs : List (List SpanD)) (vs : List Int) : List Int → List Int → Int → List Int × Int
 | [], set, work => (set, work)
 | f :: os, set, work => if set.length = 0 then (set, work) else
   let s := findL (fs.getD f.toNat []) (vs.getD f.toNat 0)
   probeL fs vs os (meetL set s) (work + 1 + ((min set.length s.length : Nat) : Int))
def probeB (qs : List QD) (fs : List (List SpanD)) (r : RowD) (os : List Int) : List Int × Int :=
 if (isIndexB qs fs && (rowB r && orderB os)) = true then probeL fs r.2 os (allL qs) 0 else ([], 0)
def workB (qs : List QD) (fs : List (List SpanD)) (os : List Int) (r : RowD) : Int := if rowB r = true then (probeL fs r.2 os (allL qs) 0).2 else 0
def workL (qs : List QD) (fs : List (List SpanD)) (rs : List RowD) (os : List Int) : Int := if (isIndexB qs fs && orderB os) = true then (rs.map (workB qs fs os)).sum else 0
def ordersL : List (List Int) := [[0, 1, 2], [0, 2, 1], [1, 0, 2], [1, 2, 0], [2, 0, 1], [2, 1, 0]]
/-- The first order with the least work. -/
def bestTo (f : List Int → Int) : List (List Int) → List Int → Int → List Int
 | [], best, _ => best
 | o :: os, best, least => if best.length = 0 ∨ f o < least then bestTo f os o (f o) else bestTo f os best least
def bestL (qs : List QD) (fs : List (List SpanD)) (rs : List RowD) : List Int := if isIndexB qs fs = true then bestTo (workL qs fs rs) ordersL [] 0 else []
end Go.Proofs.YtededfficggkaaaDoor
