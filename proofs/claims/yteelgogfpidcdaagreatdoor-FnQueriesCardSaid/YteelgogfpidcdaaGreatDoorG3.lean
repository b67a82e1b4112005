/-
  Texts of the proof, merged: QuerySpec, MatchSpec, AnswerSpec, Strs, FmtMath, FmtWalks, RunMath, FmtSet, Cut.
-/
import Derived.Test.YteelgogfpidcdaaGreatDoorG2
import Derived.Test.YteelgogfpidcdaaGreatDoorShelf
import Derived.WalkKit
import Derived.Below
import Derived.Lib.Hide
import Derived.OwnWalk
import Derived.Laws.BytesArg
import Derived.Lib.ItoaMem
import Derived.Lib.ItoaLen
import Derived.WalkSpells
import Derived.Lib.AppendIntMem
import Derived.Laws.Concat
import Derived.IntWalk
namespace Go.Proofs.YteelgogfpidcdaaGreatDoor
open Go.RowKit
set_option linter.unusedVariables false
set_option linter.unusedSimpArgs false
abbrev c0D : CondD := (0, 0, 0)
/-- As far as k the conditions are conditions, in ascending order of their fields. -/
def CondsTo (cs : List CondD) (k : Nat) : Prop := ∀ i, i < k → condB (cs.getD i c0D) = true ∧ (0 < i → (cs.getD (i - 1) c0D).1 < (cs.getD i c0D).1)
def condsB (cs : List CondD) : Bool := (List.range cs.length).all (fun i => condB (cs.getD i c0D) && (decide (i = 0) || decide ((cs.getD (i - 1) c0D).1 < (cs.getD i c0D).1)))
def fieldsB (os : List Int) : Bool := os.all (fun x => decide (0 ≤ x ∧ x ≤ 2)) && decide (1 ≤ os.length ∧ os.length ≤ 3)
def queryB (id tn : Int) (cs : List CondD) (os : List Int) : Bool := condsB cs && (decide (0 ≤ id ∧ id ≤ 23) && (decide (0 ≤ tn ∧ tn ≤ 3) && (decide (cs.length ≤ 3) && fieldsB os)))
theorem condsB_all {cs : List CondD} (h : CondsTo cs cs.length) : condsB cs = true := by
  unfold condsB
  rw [List.all_eq_true]
  intro i hi
  rw [List.mem_range] at hi
  obtain ⟨h1, h2⟩ := h i hi
  rw [h1]
  by_cases e : i = 0
  · simp [e]
  · rw [decide_eq_true (h2 (by omega))]; simp
theorem condsB_bad {cs : List CondD} {k : Nat} (hk : k < cs.length) (h : condB (cs.getD k c0D) = false ∨ (0 < k ∧ ¬ (cs.getD (k - 1) c0D).1 < (cs.getD k c0D).1)) : condsB cs = false := by
  unfold condsB
  rw [Bool.eq_false_iff]
  intro g
  rw [List.all_eq_true] at g
  have := g k (List.mem_range.2 hk)
  rw [Bool.and_eq_true, Bool.or_eq_true, decide_eq_true_eq, decide_eq_true_eq] at this
  rcases h with h | ⟨h1, h2⟩
  · rw [h] at this; exact Bool.noConfusion this.1
  · rcases this.2 with e | e
    · omega
    · exact h2 e
theorem condsTo_step {cs : List CondD} {k : Nat} (h : CondsTo cs k) (h1 : condB (cs.getD k c0D) = true) (h2 : 0 < k → (cs.getD (k - 1) c0D).1 < (cs.getD k c0D).1) : CondsTo cs (k + 1) := fun i hi => by
  by_cases e : i = k
  · subst e; exact ⟨h1, h2⟩
  · exact h i (by omega)
theorem fieldsB_bad {os : List Int} {k : Nat} (hk : k < os.length) (h : ¬ (0 ≤ os.getD k 0 ∧ os.getD k 0 ≤ 2)) : fieldsB os = false := by
  have e : os.getD k 0 = os[k] := by simp [List.getD, hk]
  rw [e] at h
  have : (os.all fun x => decide (0 ≤ x ∧ x ≤ 2)) = false := by
    rw [Bool.eq_false_iff]
    intro g
    rw [List.all_eq_true] at g
    exact h (of_decide_eq_true (g _ (List.getElem_mem hk)))
  unfold fieldsB
  rw [this]; rfl
theorem fieldsB_all {os : List Int} (h : ∀ k, k < os.length → 0 ≤ os.getD k 0 ∧ os.getD k 0 ≤ 2) : fieldsB os = decide (1 ≤ os.length ∧ os.length ≤ 3) := by
  have : (os.all fun x => decide (0 ≤ x ∧ x ≤ 2)) = true := by
    rw [List.all_eq_true]
    intro x hx
    obtain ⟨k, hk, rfl⟩ := List.getElem_of_mem hx
    have := h k hk
    have e : os.getD k 0 = os[k] := by simp [List.getD, hk]
    rw [e] at this
    exact decide_eq_true this
  unfold fieldsB
  rw [this]; rfl
set_option maxHeartbeats 4000000 in
set_option maxRecDepth 100000 in
theorem specFields (v : Value) (os : List Int) (w : World) (h : Ints w v os) (hn : os.length ≤ 1048576) :
    Calls Tryz.prog 42 #[v] w fun e w' => e = .returned (.bool (fieldsB os)) ∧ w' = w := by
  have H := Lib.hid h
  obtain ⟨a, cap, rfl⟩ := ints_len h
  clear h
  go_enter Tryz.func42, Tryz.ntmps42
  go_wp2
  go_loopw [3] (fun i wr => ∃ k : Nat, k ≤ os.length ∧ i = .int .i64 k ∧ Hid (∀ j, j < k → 0 ≤ os.getD j 0 ∧ os.getD j 0 ≤ 2) ∧ wr = w) (fun i _ => os.length - (intOf i).toNat)
  case atStart => exact ⟨0, Nat.zero_le _, rfl, Lib.hid (fun j hj => by omega), rfl⟩
  case round =>
    obtain ⟨k, hk, rfl, hall, rfl⟩ := hrel
    by_cases hlt : k < os.length
    · obtain ⟨b, off, cap', hv, hbl, hc⟩ := ints_cell H.out (by omega)
      simp only [Value.slice.injEq] at hv
      obtain ⟨rfl, _, rfl⟩ := hv
      have hcell := hc k hlt
      have i1 : (0 : Int) ≤ (k : Int) := by omega
      have i2 : (k : Int) < (os.length : Int) := by omega
      clear hc
      by_cases hi : 0 ≤ os.getD k 0 ∧ os.getD k 0 ≤ 2
      · have HA : Hid (∀ j, j < k + 1 → 0 ≤ os.getD j 0 ∧ os.getD j 0 ≤ 2) := Lib.hid (fun j hj => by
          by_cases e : j = k
          · subst e; exact hi
          · exact hall.out j (by omega))
        have HI := Lib.hid (fun w => in_yes (os.getD k 0) 0 2 w hi.1 hi.2)
        clear hi hall
        generalize os.getD k 0 = x at *
        go_wp2_with fail
        refine (HI.out _).mono ?_
        rintro e w1 ⟨rfl, rfl⟩
        go_wp2
        go_roundw
        case rel => exact ⟨k + 1, by omega, by go_num, HA, by simp⟩
        case measure => simp [intOf]; omega
      · have HF := Lib.hid (fieldsB_bad hlt hi)
        have HI := Lib.hid (fun w => in_no (os.getD k 0) 0 2 w hi)
        clear hi hall
        generalize os.getD k 0 = x at *
        go_wp2_with fail
        refine (HI.out _).mono ?_
        rintro e w1 ⟨rfl, rfl⟩
        go_wp2
        go_ret
        exact ⟨ret_b HF.out.symm, rfl⟩
    · obtain rfl : k = os.length := by omega
      have HE := Lib.hid (fieldsB_all hall.out)
      clear hall
      by_cases hl : 1 ≤ os.length ∧ os.length ≤ 3
      · have HT : Hid (fieldsB os = true) := Lib.hid (by rw [HE.out]; exact decide_eq_true hl)
        have HI := Lib.hid (fun w => in_yes (os.length : Int) 1 3 w (by omega) (by omega))
        clear hl HE
        go_wp2_with fail
        refine (HI.out _).mono ?_
        rintro e w1 ⟨rfl, rfl⟩
        go_wp2
        go_ret
        exact ⟨ret_b HT.out.symm, rfl⟩
      · have HT : Hid (fieldsB os = false) := Lib.hid (by rw [HE.out]; exact decide_eq_false hl)
        have HI := Lib.hid (fun w => in_no (os.length : Int) 1 3 w (by omega))
        clear hl HE
        go_wp2_with fail
        refine (HI.out _).mono ?_
        rintro e w1 ⟨rfl, rfl⟩
        go_wp2
        go_ret
        exact ⟨ret_b HT.out.symm, rfl⟩
set_option maxHeartbeats 16000000 in
set_option maxRecDepth 100000 in
theorem specIsQuery (id tn : Int) (cv ov : Value) (cs : List CondD) (os : List Int) (w : World) (h : CondsR w cv cs) (hn : cs.length ≤ 1048576) (g : Ints w ov os) (hm : os.length ≤ 1048576) :
    Calls Tryz.prog 15 #[qV id tn cv ov] w fun e w' => e = .returned (.bool (queryB id tn cs os)) ∧ Below w.heap.size w w' := by
  obtain ⟨va, vcap, rfl⟩ := condsR_len h
  obtain ⟨oa, ocap, rfl⟩ := ints_len g
  have hb0 : Below w.heap.size w (w.alloc (.cells #[.int .i64 id, .int .i64 tn, .slice va cs.length vcap, .slice oa os.length ocap] 27)) := (Below.refl _ w).alloc (Nat.le_refl _) _
  have HB0 := Lib.hid hb0
  have HG0 := Lib.hid (heap_alloc_new w (.cells #[.int .i64 id, .int .i64 tn, .slice va cs.length vcap, .slice oa os.length ocap] 27))
  have HH := Lib.hid (condsR_below h hb0)
  have HO := Lib.hid (ints_below g hb0)
  have HFD := Lib.hid (fun w h => specFields (.slice oa os.length ocap) os w h hm)
  have HZ : Hid (w.heap.size < (w.alloc (.cells #[.int .i64 id, .int .i64 tn, .slice va cs.length vcap, .slice oa os.length ocap] 27)).heap.size) := Lib.hid (by simp)
  clear h g hm hb0
  go_enter Tryz.func15, Tryz.ntmps15
  go_wp2
  generalize w.alloc (.cells #[.int .i64 id, .int .i64 tn, .slice va cs.length vcap, .slice oa os.length ocap] 27) = W at *
  go_loopw [3] (fun i wr => ∃ k : Nat, k ≤ cs.length ∧ i = .int .i64 k ∧ Hid (CondsTo cs k) ∧ Below W.heap.size W wr) (fun i _ => cs.length - (intOf i).toNat)
  case atStart => exact ⟨0, Nat.zero_le _, rfl, Lib.hid (fun i hi => by omega), Below.refl _ _⟩
  case round =>
    obtain ⟨k, hk, rfl, hall, hbel⟩ := hrel
    have kb := (hbel.block w.heap.size HZ.out).trans HG0.out
    have hwl := (Array.getElem?_eq_some_iff.1 kb).1
    have p2 := (cell_of_row wr _ 2 _ _ _ kb).trans (show _ = some (Value.slice va cs.length vcap) from rfl)
    by_cases hlt : k < cs.length
    · have H1 := Lib.hid (condsR_below HH.out hbel)
      obtain ⟨b, off, cap', hv, hbl, hc1, hc2, hc3⟩ := condsR_at H1.out hlt
      simp only [Value.slice.injEq] at hv
      obtain ⟨rfl, _, rfl⟩ := hv
      have HBAD := Lib.hid (condsB_bad (cs := cs) (k := k) hlt)
      have HSTEP := Lib.hid (condsTo_step hall.out)
      have HR := Lib.hid (fun w => specIsCond (cs.getD k c0D).1 (cs.getD k c0D).2.1 (cs.getD k c0D).2.2 w)
      have i1 : (0 : Int) ≤ (k : Int) := by omega
      have i2 : (k : Int) < (cs.length : Int) := by omega
      clear hall kb
      have er : (((cs.getD k c0D).1, (cs.getD k c0D).2.1, (cs.getD k c0D).2.2) : CondD) = cs.getD k c0D := rfl
      rw [er] at HR
      clear er
      cases hrb : condB (cs.getD k c0D) with
      | false =>
        have HF : Hid (queryB id tn cs os = false) := Lib.hid (by unfold queryB; rw [HBAD.out (Or.inl hrb)]; rfl)
        rw [hrb] at HR
        clear hrb HBAD HSTEP H1
        generalize cs.getD k c0D = c at *
        obtain ⟨f, l, hh⟩ := c
        simp only at hc1 hc2 hc3 HR
        go_wp2
        refine wp_region_held_drew (S := fun w' => w'.cell? ⟨w.heap.size, 2, none⟩ = some (.slice (some ⟨b, off, none⟩) cs.length vcap) ∧ w'.cell? ⟨b, off + k * 3, none⟩ = some (.int .i64 f) ∧ w'.cell? ⟨b, off + k * 3 + 1, none⟩ = some (.int .i64 l) ∧ w'.cell? ⟨b, off + k * 3 + 2, none⟩ = some (.int .i64 hh)) (by kernel_rfl) ⟨p2, hc1, hc2, hc3⟩ (fun hHeld => ?_)
        refine take_runs (i := 0) (v := ?_) (by simp only [List.getElem?_toArray, List.getElem?_cons_succ, List.getElem?_cons_zero]; rfl) (by kernel_rfl) (by kernel_rfl) (by kernel_rfl) rfl (by exact fun _ _ _ h => h) (by rfl) ?_ (by assumption) ?_
        rotate_left
        · intro w hSw; (try dsimp only at hSw); go_simp; try (with_reducible rfl)
        try simp only [Act.put, List.setIfInBounds_toArray, List.set_cons_zero, List.set_cons_succ]
        refine take_runs (i := 1) (v := ?_) (by simp only [List.getElem?_toArray, List.getElem?_cons_succ, List.getElem?_cons_zero]; rfl) (by kernel_rfl) (by kernel_rfl) (by kernel_rfl) rfl (by exact fun _ _ _ h => h) (by rfl) ?_ (by assumption) ?_
        rotate_left
        · intro w hSw; (try dsimp only at hSw); go_simp; try (with_reducible rfl)
        try simp only [Act.put, List.setIfInBounds_toArray, List.set_cons_zero, List.set_cons_succ]
        refine take_runs (i := 2) (v := ?_) (by simp only [List.getElem?_toArray, List.getElem?_cons_succ, List.getElem?_cons_zero]; rfl) (by kernel_rfl) (by kernel_rfl) (by kernel_rfl) rfl (by exact fun _ _ _ h => h) (by rfl) ?_ (by assumption) ?_
        rotate_left
        · intro w hSw; (try dsimp only at hSw); go_simp; try (with_reducible rfl)
        try simp only [Act.put, List.setIfInBounds_toArray, List.set_cons_zero, List.set_cons_succ]
        refine take_runs (i := 3) (v := ?_) (by simp only [List.getElem?_toArray, List.getElem?_cons_succ, List.getElem?_cons_zero]; rfl) (by kernel_rfl) (by kernel_rfl) (by kernel_rfl) rfl (by exact fun _ _ _ h => h) (by rfl) ?_ (by assumption) ?_
        rotate_left
        · intro w hSw; (try dsimp only at hSw); go_simp; try (with_reducible rfl)
        try simp only [Act.put, List.setIfInBounds_toArray, List.set_cons_zero, List.set_cons_succ]
        refine take_runs (i := 4) (v := ?_) (by simp only [List.getElem?_toArray, List.getElem?_cons_succ, List.getElem?_cons_zero]; rfl) (by kernel_rfl) (by kernel_rfl) (by kernel_rfl) rfl (by exact fun _ _ _ h => h) (by rfl) ?_ (by assumption) ?_
        rotate_left
        · intro w hSw; (try dsimp only at hSw); go_simp; try (with_reducible rfl)
        try simp only [Act.put, List.setIfInBounds_toArray, List.set_cons_zero, List.set_cons_succ]
        refine wpAnyH_ready (rs := [5]) (by kernel_rfl) (by simp) ?_
        refine AllReadyH.cons (o := _) (by simp only [List.getElem?_toArray, List.getElem?_cons_succ, List.getElem?_cons_zero]; rfl) (fun K hK => ?_) AllReadyH.nil
        go_simp
        refine (HR.out _).mono ?_
        rintro e w8 ⟨rfl, b9⟩
        have b10 : Below wr.heap.size wr w8 := ⟨b9.os, b9.tape, b9.output, b9.size, b9.block⟩
        have s0 := (b10.cell (p := ⟨w.heap.size, 2, none⟩) hwl).trans p2
        have s1 := (b10.cell (p := ⟨b, off + k * 3, none⟩) hbl).trans hc1
        have s2 := (b10.cell (p := ⟨b, off + k * 3 + 1, none⟩) hbl).trans hc2
        have s3 := (b10.cell (p := ⟨b, off + k * 3 + 2, none⟩) hbl).trans hc3
        refine hK.out _ _ ⟨s0, s1, s2, s3⟩ (fun hHeld => ?_)
        clear hK K
        try simp only [Act.put, List.setIfInBounds_toArray, List.set_cons_zero, List.set_cons_succ]
        refine take_runs (i := 6) (v := ?_) (by simp only [List.getElem?_toArray, List.getElem?_cons_succ, List.getElem?_cons_zero]; rfl) (by kernel_rfl) (by kernel_rfl) (by kernel_rfl) rfl (by exact fun _ _ _ h => h) (by rfl) ?_ (by assumption) ?_
        rotate_left
        · intro w hSw; (try dsimp only at hSw); go_simp; try (with_reducible rfl)
        try simp only [Act.put, List.setIfInBounds_toArray, List.set_cons_zero, List.set_cons_succ]
        refine take_runs (i := 7) (v := ?_) (by simp only [List.getElem?_toArray, List.getElem?_cons_succ, List.getElem?_cons_zero]; rfl) (by kernel_rfl) (by kernel_rfl) (by kernel_rfl) rfl (by exact fun _ _ _ h => h) (by rfl) ?_ (by assumption) ?_
        rotate_left
        · intro w hSw; (try dsimp only at hSw); go_simp; try (with_reducible rfl)
        try simp only [Act.put, List.setIfInBounds_toArray, List.set_cons_zero, List.set_cons_succ]
        refine take_over (i := 8) (by simp only [List.getElem?_toArray, List.getElem?_cons_succ, List.getElem?_cons_zero]; rfl) (by kernel_rfl) (by kernel_rfl) (by kernel_rfl) rfl (by exact fun _ _ _ h => h) (by rfl) (by assumption) ?_
        try simp only [Act.put, List.setIfInBounds_toArray, List.set_cons_zero, List.set_cons_succ]
        refine take_over (i := 9) (by simp only [List.getElem?_toArray, List.getElem?_cons_succ, List.getElem?_cons_zero]; rfl) (by kernel_rfl) (by kernel_rfl) (by kernel_rfl) rfl (by exact fun _ _ _ h => h) (by rfl) (by assumption) ?_
        try simp only [Act.put, List.setIfInBounds_toArray, List.set_cons_zero, List.set_cons_succ]
        refine take_over (i := 10) (by simp only [List.getElem?_toArray, List.getElem?_cons_succ, List.getElem?_cons_zero]; rfl) (by kernel_rfl) (by kernel_rfl) (by kernel_rfl) rfl (by exact fun _ _ _ h => h) (by rfl) (by assumption) ?_
        try simp only [Act.put, List.setIfInBounds_toArray, List.set_cons_zero, List.set_cons_succ]
        refine take_over (i := 11) (by simp only [List.getElem?_toArray, List.getElem?_cons_succ, List.getElem?_cons_zero]; rfl) (by kernel_rfl) (by kernel_rfl) (by kernel_rfl) rfl (by exact fun _ _ _ h => h) (by rfl) (by assumption) ?_
        try simp only [Act.put, List.setIfInBounds_toArray, List.set_cons_zero, List.set_cons_succ]
        refine take_over (i := 12) (by simp only [List.getElem?_toArray, List.getElem?_cons_succ, List.getElem?_cons_zero]; rfl) (by kernel_rfl) (by kernel_rfl) (by kernel_rfl) rfl (by exact fun _ _ _ h => h) (by rfl) (by assumption) ?_
        try simp only [Act.put, List.setIfInBounds_toArray, List.set_cons_zero, List.set_cons_succ]
        refine take_over (i := 13) (by simp only [List.getElem?_toArray, List.getElem?_cons_succ, List.getElem?_cons_zero]; rfl) (by kernel_rfl) (by kernel_rfl) (by kernel_rfl) rfl (by exact fun _ _ _ h => h) (by rfl) (by assumption) ?_
        try simp only [Act.put, List.setIfInBounds_toArray, List.set_cons_zero, List.set_cons_succ]
        refine take_over (i := 14) (by simp only [List.getElem?_toArray, List.getElem?_cons_succ, List.getElem?_cons_zero]; rfl) (by kernel_rfl) (by kernel_rfl) (by kernel_rfl) rfl (by exact fun _ _ _ h => h) (by rfl) (by assumption) ?_
        try simp only [Act.put, List.setIfInBounds_toArray, List.set_cons_zero, List.set_cons_succ]
        refine take_over (i := 15) (by simp only [List.getElem?_toArray, List.getElem?_cons_succ, List.getElem?_cons_zero]; rfl) (by kernel_rfl) (by kernel_rfl) (by kernel_rfl) rfl (by exact fun _ _ _ h => h) (by rfl) (by assumption) ?_
        try simp only [Act.put, List.setIfInBounds_toArray, List.set_cons_zero, List.set_cons_succ]
        refine take_over (i := 16) (by simp only [List.getElem?_toArray, List.getElem?_cons_succ, List.getElem?_cons_zero]; rfl) (by kernel_rfl) (by kernel_rfl) (by kernel_rfl) rfl (by exact fun _ _ _ h => h) (by rfl) (by assumption) ?_
        try simp only [Act.put, List.setIfInBounds_toArray, List.set_cons_zero, List.set_cons_succ]
        refine take_over (i := 17) (by simp only [List.getElem?_toArray, List.getElem?_cons_succ, List.getElem?_cons_zero]; rfl) (by kernel_rfl) (by kernel_rfl) (by kernel_rfl) rfl (by exact fun _ _ _ h => h) (by rfl) (by assumption) ?_
        try simp only [Act.put, List.setIfInBounds_toArray, List.set_cons_zero, List.set_cons_succ]
        refine take_over (i := 18) (by simp only [List.getElem?_toArray, List.getElem?_cons_succ, List.getElem?_cons_zero]; rfl) (by kernel_rfl) (by kernel_rfl) (by kernel_rfl) rfl (by exact fun _ _ _ h => h) (by rfl) (by assumption) ?_
        try simp only [Act.put, List.setIfInBounds_toArray, List.set_cons_zero, List.set_cons_succ]
        refine take_over (i := 19) (by simp only [List.getElem?_toArray, List.getElem?_cons_succ, List.getElem?_cons_zero]; rfl) (by kernel_rfl) (by kernel_rfl) (by kernel_rfl) rfl (by exact fun _ _ _ h => h) (by rfl) (by assumption) ?_
        try simp only [Act.put, List.setIfInBounds_toArray, List.set_cons_zero, List.set_cons_succ]
        refine take_over (i := 20) (by simp only [List.getElem?_toArray, List.getElem?_cons_succ, List.getElem?_cons_zero]; rfl) (by kernel_rfl) (by kernel_rfl) (by kernel_rfl) rfl (by exact fun _ _ _ h => h) (by rfl) (by assumption) ?_
        try simp only [Act.put, List.setIfInBounds_toArray, List.set_cons_zero, List.set_cons_succ]
        refine take_over (i := 21) (by simp only [List.getElem?_toArray, List.getElem?_cons_succ, List.getElem?_cons_zero]; rfl) (by kernel_rfl) (by kernel_rfl) (by kernel_rfl) rfl (by exact fun _ _ _ h => h) (by rfl) (by assumption) ?_
        try simp only [Act.put, List.setIfInBounds_toArray, List.set_cons_zero, List.set_cons_succ]
        refine take_over (i := 22) (by simp only [List.getElem?_toArray, List.getElem?_cons_succ, List.getElem?_cons_zero]; rfl) (by kernel_rfl) (by kernel_rfl) (by kernel_rfl) rfl (by exact fun _ _ _ h => h) (by rfl) (by assumption) ?_
        try simp only [Act.put, List.setIfInBounds_toArray, List.set_cons_zero, List.set_cons_succ]
        refine take_over (i := 23) (by simp only [List.getElem?_toArray, List.getElem?_cons_succ, List.getElem?_cons_zero]; rfl) (by kernel_rfl) (by kernel_rfl) (by kernel_rfl) rfl (by exact fun _ _ _ h => h) (by rfl) (by assumption) ?_
        try simp only [Act.put, List.setIfInBounds_toArray, List.set_cons_zero, List.set_cons_succ]
        refine take_over (i := 24) (by simp only [List.getElem?_toArray, List.getElem?_cons_succ, List.getElem?_cons_zero]; rfl) (by kernel_rfl) (by kernel_rfl) (by kernel_rfl) rfl (by exact fun _ _ _ h => h) (by rfl) (by assumption) ?_
        try simp only [Act.put, List.setIfInBounds_toArray, List.set_cons_zero, List.set_cons_succ]
        refine take_over (i := 25) (by simp only [List.getElem?_toArray, List.getElem?_cons_succ, List.getElem?_cons_zero]; rfl) (by kernel_rfl) (by kernel_rfl) (by kernel_rfl) rfl (by exact fun _ _ _ h => h) (by rfl) (by assumption) ?_
        try simp only [Act.put, List.setIfInBounds_toArray, List.set_cons_zero, List.set_cons_succ]
        refine take_runs (i := 26) (v := ?_) (by simp only [List.getElem?_toArray, List.getElem?_cons_succ, List.getElem?_cons_zero]; rfl) (by kernel_rfl) (by kernel_rfl) (by kernel_rfl) rfl (by exact fun _ _ _ h => h) (by rfl) ?_ (by assumption) ?_
        rotate_left
        · intro w hSw; (try dsimp only at hSw); go_simp; try (with_reducible rfl)
        try simp only [Act.put, List.setIfInBounds_toArray, List.set_cons_zero, List.set_cons_succ]
        refine wpAnyH_done (by kernel_rfl) ?_ _
        have b11 := hbel.trans (b10.mono hbel.size)
        clear s0 s1 s2 s3 hHeld b9 b10
        try clear s4
        go_wp2
        go_ret
        exact ⟨ret_b HF.out.symm, HB0.out.trans (b11.mono HB0.out.size)⟩
      | true =>
        rw [hrb] at HR
        by_cases hz : k = 0
        · have HA := Lib.hid (HSTEP.out hrb (fun g => absurd g (by omega)))
          have hg : decide ((0 : Int) < (k : Int)) = false := decide_eq_false (by omega)
          have hgn : decide (0 < k) = false := decide_eq_false (by omega)
          clear hrb HBAD HSTEP H1 hz
          generalize cs.getD k c0D = c at *
          obtain ⟨f, l, hh⟩ := c
          simp only at hc1 hc2 hc3 HR
          go_wp2
          refine wp_region_held_drew (S := fun w' => w'.cell? ⟨w.heap.size, 2, none⟩ = some (.slice (some ⟨b, off, none⟩) cs.length vcap) ∧ w'.cell? ⟨b, off + k * 3, none⟩ = some (.int .i64 f) ∧ w'.cell? ⟨b, off + k * 3 + 1, none⟩ = some (.int .i64 l) ∧ w'.cell? ⟨b, off + k * 3 + 2, none⟩ = some (.int .i64 hh)) (by kernel_rfl) ⟨p2, hc1, hc2, hc3⟩ (fun hHeld => ?_)
          refine take_runs (i := 0) (v := ?_) (by simp only [List.getElem?_toArray, List.getElem?_cons_succ, List.getElem?_cons_zero]; rfl) (by kernel_rfl) (by kernel_rfl) (by kernel_rfl) rfl (by exact fun _ _ _ h => h) (by rfl) ?_ (by assumption) ?_
          rotate_left
          · intro w hSw; (try dsimp only at hSw); go_simp; try (with_reducible rfl)
          try simp only [Act.put, List.setIfInBounds_toArray, List.set_cons_zero, List.set_cons_succ]
          refine take_runs (i := 1) (v := ?_) (by simp only [List.getElem?_toArray, List.getElem?_cons_succ, List.getElem?_cons_zero]; rfl) (by kernel_rfl) (by kernel_rfl) (by kernel_rfl) rfl (by exact fun _ _ _ h => h) (by rfl) ?_ (by assumption) ?_
          rotate_left
          · intro w hSw; (try dsimp only at hSw); go_simp; try (with_reducible rfl)
          try simp only [Act.put, List.setIfInBounds_toArray, List.set_cons_zero, List.set_cons_succ]
          refine take_runs (i := 2) (v := ?_) (by simp only [List.getElem?_toArray, List.getElem?_cons_succ, List.getElem?_cons_zero]; rfl) (by kernel_rfl) (by kernel_rfl) (by kernel_rfl) rfl (by exact fun _ _ _ h => h) (by rfl) ?_ (by assumption) ?_
          rotate_left
          · intro w hSw; (try dsimp only at hSw); go_simp; try (with_reducible rfl)
          try simp only [Act.put, List.setIfInBounds_toArray, List.set_cons_zero, List.set_cons_succ]
          refine take_runs (i := 3) (v := ?_) (by simp only [List.getElem?_toArray, List.getElem?_cons_succ, List.getElem?_cons_zero]; rfl) (by kernel_rfl) (by kernel_rfl) (by kernel_rfl) rfl (by exact fun _ _ _ h => h) (by rfl) ?_ (by assumption) ?_
          rotate_left
          · intro w hSw; (try dsimp only at hSw); go_simp; try (with_reducible rfl)
          try simp only [Act.put, List.setIfInBounds_toArray, List.set_cons_zero, List.set_cons_succ]
          refine take_runs (i := 4) (v := ?_) (by simp only [List.getElem?_toArray, List.getElem?_cons_succ, List.getElem?_cons_zero]; rfl) (by kernel_rfl) (by kernel_rfl) (by kernel_rfl) rfl (by exact fun _ _ _ h => h) (by rfl) ?_ (by assumption) ?_
          rotate_left
          · intro w hSw; (try dsimp only at hSw); go_simp; try (with_reducible rfl)
          try simp only [Act.put, List.setIfInBounds_toArray, List.set_cons_zero, List.set_cons_succ]
          refine wpAnyH_ready (rs := [5]) (by kernel_rfl) (by simp) ?_
          refine AllReadyH.cons (o := _) (by simp only [List.getElem?_toArray, List.getElem?_cons_succ, List.getElem?_cons_zero]; rfl) (fun K hK => ?_) AllReadyH.nil
          go_simp
          refine (HR.out _).mono ?_
          rintro e w8 ⟨rfl, b9⟩
          have b10 : Below wr.heap.size wr w8 := ⟨b9.os, b9.tape, b9.output, b9.size, b9.block⟩
          have s0 := (b10.cell (p := ⟨w.heap.size, 2, none⟩) hwl).trans p2
          have s1 := (b10.cell (p := ⟨b, off + k * 3, none⟩) hbl).trans hc1
          have s2 := (b10.cell (p := ⟨b, off + k * 3 + 1, none⟩) hbl).trans hc2
          have s3 := (b10.cell (p := ⟨b, off + k * 3 + 2, none⟩) hbl).trans hc3
          refine hK.out _ _ ⟨s0, s1, s2, s3⟩ (fun hHeld => ?_)
          clear hK K
          try simp only [Act.put, List.setIfInBounds_toArray, List.set_cons_zero, List.set_cons_succ]
          refine take_runs (i := 6) (v := ?_) (by simp only [List.getElem?_toArray, List.getElem?_cons_succ, List.getElem?_cons_zero]; rfl) (by kernel_rfl) (by kernel_rfl) (by kernel_rfl) rfl (by exact fun _ _ _ h => h) (by rfl) ?_ (by assumption) ?_
          rotate_left
          · intro w hSw; (try dsimp only at hSw); go_simp; try (with_reducible rfl)
          try simp only [Act.put, List.setIfInBounds_toArray, List.set_cons_zero, List.set_cons_succ]
          refine take_runs (i := 7) (v := ?_) (by simp only [List.getElem?_toArray, List.getElem?_cons_succ, List.getElem?_cons_zero]; rfl) (by kernel_rfl) (by kernel_rfl) (by kernel_rfl) rfl (by exact fun _ _ _ h => h) (by rfl) ?_ (by assumption) ?_
          rotate_left
          · intro w hSw; (try dsimp only at hSw); go_simp; try (with_reducible rfl)
          try simp only [Act.put, List.setIfInBounds_toArray, List.set_cons_zero, List.set_cons_succ]
          refine take_runs (i := 8) (v := ?_) (by simp only [List.getElem?_toArray, List.getElem?_cons_succ, List.getElem?_cons_zero]; rfl) (by kernel_rfl) (by kernel_rfl) (by kernel_rfl) rfl (by exact fun _ _ _ h => h) (by rfl) ?_ (by assumption) ?_
          rotate_left
          · intro w hSw; (try dsimp only at hSw); go_simp; try (with_reducible rfl)
          try simp only [Act.put, List.setIfInBounds_toArray, List.set_cons_zero, List.set_cons_succ]
          refine take_runs (i := 9) (v := ?_) (by simp only [List.getElem?_toArray, List.getElem?_cons_succ, List.getElem?_cons_zero]; rfl) (by kernel_rfl) (by kernel_rfl) (by kernel_rfl) rfl (by exact fun _ _ _ h => h) (by rfl) ?_ (by assumption) ?_
          rotate_left
          · intro w hSw; (try dsimp only at hSw); go_simp; try (with_reducible rfl)
          try simp only [Act.put, List.setIfInBounds_toArray, List.set_cons_zero, List.set_cons_succ]
          refine take_runs (i := 10) (v := ?_) (by simp only [List.getElem?_toArray, List.getElem?_cons_succ, List.getElem?_cons_zero]; rfl) (by kernel_rfl) (by kernel_rfl) (by kernel_rfl) rfl (by exact fun _ _ _ h => h) (by rfl) ?_ (by assumption) ?_
          rotate_left
          · intro w hSw; (try dsimp only at hSw); go_simp; try (with_reducible rfl)
          try simp only [Act.put, List.setIfInBounds_toArray, List.set_cons_zero, List.set_cons_succ]
          refine take_over (i := 11) (by simp only [List.getElem?_toArray, List.getElem?_cons_succ, List.getElem?_cons_zero]; rfl) (by kernel_rfl) (by kernel_rfl) (by kernel_rfl) rfl (by exact fun _ _ _ h => h) (by rfl) (by assumption) ?_
          try simp only [Act.put, List.setIfInBounds_toArray, List.set_cons_zero, List.set_cons_succ]
          refine take_over (i := 12) (by simp only [List.getElem?_toArray, List.getElem?_cons_succ, List.getElem?_cons_zero]; rfl) (by kernel_rfl) (by kernel_rfl) (by kernel_rfl) rfl (by exact fun _ _ _ h => h) (by rfl) (by assumption) ?_
          try simp only [Act.put, List.setIfInBounds_toArray, List.set_cons_zero, List.set_cons_succ]
          refine take_over (i := 13) (by simp only [List.getElem?_toArray, List.getElem?_cons_succ, List.getElem?_cons_zero]; rfl) (by kernel_rfl) (by kernel_rfl) (by kernel_rfl) rfl (by exact fun _ _ _ h => h) (by rfl) (by assumption) ?_
          try simp only [Act.put, List.setIfInBounds_toArray, List.set_cons_zero, List.set_cons_succ]
          refine take_over (i := 14) (by simp only [List.getElem?_toArray, List.getElem?_cons_succ, List.getElem?_cons_zero]; rfl) (by kernel_rfl) (by kernel_rfl) (by kernel_rfl) rfl (by exact fun _ _ _ h => h) (by rfl) (by assumption) ?_
          try simp only [Act.put, List.setIfInBounds_toArray, List.set_cons_zero, List.set_cons_succ]
          refine take_over (i := 15) (by simp only [List.getElem?_toArray, List.getElem?_cons_succ, List.getElem?_cons_zero]; rfl) (by kernel_rfl) (by kernel_rfl) (by kernel_rfl) rfl (by exact fun _ _ _ h => h) (by rfl) (by assumption) ?_
          try simp only [Act.put, List.setIfInBounds_toArray, List.set_cons_zero, List.set_cons_succ]
          refine take_over (i := 16) (by simp only [List.getElem?_toArray, List.getElem?_cons_succ, List.getElem?_cons_zero]; rfl) (by kernel_rfl) (by kernel_rfl) (by kernel_rfl) rfl (by exact fun _ _ _ h => h) (by rfl) (by assumption) ?_
          try simp only [Act.put, List.setIfInBounds_toArray, List.set_cons_zero, List.set_cons_succ]
          refine take_over (i := 17) (by simp only [List.getElem?_toArray, List.getElem?_cons_succ, List.getElem?_cons_zero]; rfl) (by kernel_rfl) (by kernel_rfl) (by kernel_rfl) rfl (by exact fun _ _ _ h => h) (by rfl) (by assumption) ?_
          try simp only [Act.put, List.setIfInBounds_toArray, List.set_cons_zero, List.set_cons_succ]
          refine take_over (i := 18) (by simp only [List.getElem?_toArray, List.getElem?_cons_succ, List.getElem?_cons_zero]; rfl) (by kernel_rfl) (by kernel_rfl) (by kernel_rfl) rfl (by exact fun _ _ _ h => h) (by rfl) (by assumption) ?_
          try simp only [Act.put, List.setIfInBounds_toArray, List.set_cons_zero, List.set_cons_succ]
          refine take_over (i := 19) (by simp only [List.getElem?_toArray, List.getElem?_cons_succ, List.getElem?_cons_zero]; rfl) (by kernel_rfl) (by kernel_rfl) (by kernel_rfl) rfl (by exact fun _ _ _ h => h) (by rfl) (by assumption) ?_
          try simp only [Act.put, List.setIfInBounds_toArray, List.set_cons_zero, List.set_cons_succ]
          refine take_over (i := 20) (by simp only [List.getElem?_toArray, List.getElem?_cons_succ, List.getElem?_cons_zero]; rfl) (by kernel_rfl) (by kernel_rfl) (by kernel_rfl) rfl (by exact fun _ _ _ h => h) (by rfl) (by assumption) ?_
          try simp only [Act.put, List.setIfInBounds_toArray, List.set_cons_zero, List.set_cons_succ]
          refine take_over (i := 21) (by simp only [List.getElem?_toArray, List.getElem?_cons_succ, List.getElem?_cons_zero]; rfl) (by kernel_rfl) (by kernel_rfl) (by kernel_rfl) rfl (by exact fun _ _ _ h => h) (by rfl) (by assumption) ?_
          try simp only [Act.put, List.setIfInBounds_toArray, List.set_cons_zero, List.set_cons_succ]
          refine take_over (i := 22) (by simp only [List.getElem?_toArray, List.getElem?_cons_succ, List.getElem?_cons_zero]; rfl) (by kernel_rfl) (by kernel_rfl) (by kernel_rfl) rfl (by exact fun _ _ _ h => h) (by rfl) (by assumption) ?_
          try simp only [Act.put, List.setIfInBounds_toArray, List.set_cons_zero, List.set_cons_succ]
          refine take_over (i := 23) (by simp only [List.getElem?_toArray, List.getElem?_cons_succ, List.getElem?_cons_zero]; rfl) (by kernel_rfl) (by kernel_rfl) (by kernel_rfl) rfl (by exact fun _ _ _ h => h) (by rfl) (by assumption) ?_
          try simp only [Act.put, List.setIfInBounds_toArray, List.set_cons_zero, List.set_cons_succ]
          refine take_over (i := 24) (by simp only [List.getElem?_toArray, List.getElem?_cons_succ, List.getElem?_cons_zero]; rfl) (by kernel_rfl) (by kernel_rfl) (by kernel_rfl) rfl (by exact fun _ _ _ h => h) (by rfl) (by assumption) ?_
          try simp only [Act.put, List.setIfInBounds_toArray, List.set_cons_zero, List.set_cons_succ]
          refine take_runs (i := 25) (v := ?_) (by simp only [List.getElem?_toArray, List.getElem?_cons_succ, List.getElem?_cons_zero]; rfl) (by kernel_rfl) (by kernel_rfl) (by kernel_rfl) rfl (by exact fun _ _ _ h => h) (by rfl) ?_ (by assumption) ?_
          rotate_left
          · intro w hSw; (try dsimp only at hSw); go_simp; try (with_reducible rfl)
          try simp only [Act.put, List.setIfInBounds_toArray, List.set_cons_zero, List.set_cons_succ]
          refine take_runs (i := 26) (v := ?_) (by simp only [List.getElem?_toArray, List.getElem?_cons_succ, List.getElem?_cons_zero]; rfl) (by kernel_rfl) (by kernel_rfl) (by kernel_rfl) rfl (by exact fun _ _ _ h => h) (by rfl) ?_ (by assumption) ?_
          rotate_left
          · intro w hSw; (try dsimp only at hSw); go_simp; try (with_reducible rfl)
          try simp only [Act.put, List.setIfInBounds_toArray, List.set_cons_zero, List.set_cons_succ]
          refine wpAnyH_done (by kernel_rfl) ?_ _
          have b11 := hbel.trans (b10.mono hbel.size)
          clear s0 s1 s2 s3 hHeld b9 b10
          try clear s4
          go_wp2
          go_roundw
          case rel => exact ⟨k + 1, by omega, by go_num, HA, b11⟩
          case measure => simp [intOf]; omega
        · obtain ⟨m, hkm⟩ : ∃ m, k = m + 1 := ⟨k - 1, by omega⟩
          have hml : m < cs.length := by omega
          obtain ⟨b', off', cap'', hv', _, hc0, _, _⟩ := condsR_at H1.out hml
          simp only [Value.slice.injEq, Option.some.injEq, Addr.mk.injEq] at hv'
          obtain ⟨⟨rfl, rfl, _⟩, _, rfl⟩ := hv'
          have hg : decide ((0 : Int) < (k : Int)) = true := decide_eq_true (by omega)
          have hgn : decide (0 < k) = true := decide_eq_true (by omega)
          have j1 : (0 : Int) ≤ (m : Int) := by omega
          have j2 : (m : Int) < (cs.length : Int) := by omega
          have hsub : IntKind.i64.wrap ((k : Int) - 1) = (m : Int) := by rw [IntWalk.i64_in _ (by omega)]; omega
          rw [show k - 1 = m by omega] at HBAD HSTEP
          by_cases hle : (cs.getD k c0D).1 ≤ (cs.getD m c0D).1
          · have HF : Hid (queryB id tn cs os = false) := Lib.hid (by unfold queryB; rw [HBAD.out (Or.inr ⟨by omega, by omega⟩)]; rfl)
            have hd := decide_eq_true hle
            clear hrb HBAD HSTEP H1 hz hle hkm
            generalize (cs.getD m c0D).1 = fp at *
            generalize cs.getD k c0D = c at *
            obtain ⟨f, l, hh⟩ := c
            simp only at hc1 hc2 hc3 HR hd
            go_wp2
            refine wp_region_held_drew (S := fun w' => w'.cell? ⟨w.heap.size, 2, none⟩ = some (.slice (some ⟨b, off, none⟩) cs.length vcap) ∧ w'.cell? ⟨b, off + k * 3, none⟩ = some (.int .i64 f) ∧ w'.cell? ⟨b, off + k * 3 + 1, none⟩ = some (.int .i64 l) ∧ w'.cell? ⟨b, off + k * 3 + 2, none⟩ = some (.int .i64 hh) ∧ w'.cell? ⟨b, off + m * 3, none⟩ = some (.int .i64 fp)) (by kernel_rfl) ⟨p2, hc1, hc2, hc3, hc0⟩ (fun hHeld => ?_)
            refine take_runs (i := 0) (v := ?_) (by simp only [List.getElem?_toArray, List.getElem?_cons_succ, List.getElem?_cons_zero]; rfl) (by kernel_rfl) (by kernel_rfl) (by kernel_rfl) rfl (by exact fun _ _ _ h => h) (by rfl) ?_ (by assumption) ?_
            rotate_left
            · intro w hSw; (try dsimp only at hSw); go_simp; try (with_reducible rfl)
            try simp only [Act.put, List.setIfInBounds_toArray, List.set_cons_zero, List.set_cons_succ]
            refine take_runs (i := 1) (v := ?_) (by simp only [List.getElem?_toArray, List.getElem?_cons_succ, List.getElem?_cons_zero]; rfl) (by kernel_rfl) (by kernel_rfl) (by kernel_rfl) rfl (by exact fun _ _ _ h => h) (by rfl) ?_ (by assumption) ?_
            rotate_left
            · intro w hSw; (try dsimp only at hSw); go_simp; try (with_reducible rfl)
            try simp only [Act.put, List.setIfInBounds_toArray, List.set_cons_zero, List.set_cons_succ]
            refine take_runs (i := 2) (v := ?_) (by simp only [List.getElem?_toArray, List.getElem?_cons_succ, List.getElem?_cons_zero]; rfl) (by kernel_rfl) (by kernel_rfl) (by kernel_rfl) rfl (by exact fun _ _ _ h => h) (by rfl) ?_ (by assumption) ?_
            rotate_left
            · intro w hSw; (try dsimp only at hSw); go_simp; try (with_reducible rfl)
            try simp only [Act.put, List.setIfInBounds_toArray, List.set_cons_zero, List.set_cons_succ]
            refine take_runs (i := 3) (v := ?_) (by simp only [List.getElem?_toArray, List.getElem?_cons_succ, List.getElem?_cons_zero]; rfl) (by kernel_rfl) (by kernel_rfl) (by kernel_rfl) rfl (by exact fun _ _ _ h => h) (by rfl) ?_ (by assumption) ?_
            rotate_left
            · intro w hSw; (try dsimp only at hSw); go_simp; try (with_reducible rfl)
            try simp only [Act.put, List.setIfInBounds_toArray, List.set_cons_zero, List.set_cons_succ]
            refine take_runs (i := 4) (v := ?_) (by simp only [List.getElem?_toArray, List.getElem?_cons_succ, List.getElem?_cons_zero]; rfl) (by kernel_rfl) (by kernel_rfl) (by kernel_rfl) rfl (by exact fun _ _ _ h => h) (by rfl) ?_ (by assumption) ?_
            rotate_left
            · intro w hSw; (try dsimp only at hSw); go_simp; try (with_reducible rfl)
            try simp only [Act.put, List.setIfInBounds_toArray, List.set_cons_zero, List.set_cons_succ]
            refine wpAnyH_ready (rs := [5]) (by kernel_rfl) (by simp) ?_
            refine AllReadyH.cons (o := _) (by simp only [List.getElem?_toArray, List.getElem?_cons_succ, List.getElem?_cons_zero]; rfl) (fun K hK => ?_) AllReadyH.nil
            go_simp
            refine (HR.out _).mono ?_
            rintro e w8 ⟨rfl, b9⟩
            have b10 : Below wr.heap.size wr w8 := ⟨b9.os, b9.tape, b9.output, b9.size, b9.block⟩
            have s0 := (b10.cell (p := ⟨w.heap.size, 2, none⟩) hwl).trans p2
            have s1 := (b10.cell (p := ⟨b, off + k * 3, none⟩) hbl).trans hc1
            have s2 := (b10.cell (p := ⟨b, off + k * 3 + 1, none⟩) hbl).trans hc2
            have s3 := (b10.cell (p := ⟨b, off + k * 3 + 2, none⟩) hbl).trans hc3
            have s4 := (b10.cell (p := ⟨b, off + m * 3, none⟩) hbl).trans hc0
            refine hK.out _ _ ⟨s0, s1, s2, s3, s4⟩ (fun hHeld => ?_)
            clear hK K
            try simp only [Act.put, List.setIfInBounds_toArray, List.set_cons_zero, List.set_cons_succ]
            refine take_runs (i := 6) (v := ?_) (by simp only [List.getElem?_toArray, List.getElem?_cons_succ, List.getElem?_cons_zero]; rfl) (by kernel_rfl) (by kernel_rfl) (by kernel_rfl) rfl (by exact fun _ _ _ h => h) (by rfl) ?_ (by assumption) ?_
            rotate_left
            · intro w hSw; (try dsimp only at hSw); go_simp; try (with_reducible rfl)
            try simp only [Act.put, List.setIfInBounds_toArray, List.set_cons_zero, List.set_cons_succ]
            refine take_runs (i := 7) (v := ?_) (by simp only [List.getElem?_toArray, List.getElem?_cons_succ, List.getElem?_cons_zero]; rfl) (by kernel_rfl) (by kernel_rfl) (by kernel_rfl) rfl (by exact fun _ _ _ h => h) (by rfl) ?_ (by assumption) ?_
            rotate_left
            · intro w hSw; (try dsimp only at hSw); go_simp; try (with_reducible rfl)
            try simp only [Act.put, List.setIfInBounds_toArray, List.set_cons_zero, List.set_cons_succ]
            refine take_runs (i := 8) (v := ?_) (by simp only [List.getElem?_toArray, List.getElem?_cons_succ, List.getElem?_cons_zero]; rfl) (by kernel_rfl) (by kernel_rfl) (by kernel_rfl) rfl (by exact fun _ _ _ h => h) (by rfl) ?_ (by assumption) ?_
            rotate_left
            · intro w hSw; (try dsimp only at hSw); go_simp; try (with_reducible rfl)
            try simp only [Act.put, List.setIfInBounds_toArray, List.set_cons_zero, List.set_cons_succ]
            refine take_runs (i := 9) (v := ?_) (by simp only [List.getElem?_toArray, List.getElem?_cons_succ, List.getElem?_cons_zero]; rfl) (by kernel_rfl) (by kernel_rfl) (by kernel_rfl) rfl (by exact fun _ _ _ h => h) (by rfl) ?_ (by assumption) ?_
            rotate_left
            · intro w hSw; (try dsimp only at hSw); go_simp; try (with_reducible rfl)
            try simp only [Act.put, List.setIfInBounds_toArray, List.set_cons_zero, List.set_cons_succ]
            refine take_runs (i := 10) (v := ?_) (by simp only [List.getElem?_toArray, List.getElem?_cons_succ, List.getElem?_cons_zero]; rfl) (by kernel_rfl) (by kernel_rfl) (by kernel_rfl) rfl (by exact fun _ _ _ h => h) (by rfl) ?_ (by assumption) ?_
            rotate_left
            · intro w hSw; (try dsimp only at hSw); go_simp; try (with_reducible rfl)
            try simp only [Act.put, List.setIfInBounds_toArray, List.set_cons_zero, List.set_cons_succ]
            refine take_runs (i := 11) (v := ?_) (by simp only [List.getElem?_toArray, List.getElem?_cons_succ, List.getElem?_cons_zero]; rfl) (by kernel_rfl) (by kernel_rfl) (by kernel_rfl) rfl (by exact fun _ _ _ h => h) (by rfl) ?_ (by assumption) ?_
            rotate_left
            · intro w hSw; (try dsimp only at hSw); go_simp; try (with_reducible rfl)
            try simp only [Act.put, List.setIfInBounds_toArray, List.set_cons_zero, List.set_cons_succ]
            refine take_runs (i := 12) (v := ?_) (by simp only [List.getElem?_toArray, List.getElem?_cons_succ, List.getElem?_cons_zero]; rfl) (by kernel_rfl) (by kernel_rfl) (by kernel_rfl) rfl (by exact fun _ _ _ h => h) (by rfl) ?_ (by assumption) ?_
            rotate_left
            · intro w hSw; (try dsimp only at hSw); go_simp; try (with_reducible rfl)
            try simp only [Act.put, List.setIfInBounds_toArray, List.set_cons_zero, List.set_cons_succ]
            refine take_runs (i := 13) (v := ?_) (by simp only [List.getElem?_toArray, List.getElem?_cons_succ, List.getElem?_cons_zero]; rfl) (by kernel_rfl) (by kernel_rfl) (by kernel_rfl) rfl (by exact fun _ _ _ h => h) (by rfl) ?_ (by assumption) ?_
            rotate_left
            · intro w hSw; (try dsimp only at hSw); go_simp; try (with_reducible rfl)
            try simp only [Act.put, List.setIfInBounds_toArray, List.set_cons_zero, List.set_cons_succ]
            refine take_runs (i := 14) (v := ?_) (by simp only [List.getElem?_toArray, List.getElem?_cons_succ, List.getElem?_cons_zero]; rfl) (by kernel_rfl) (by kernel_rfl) (by kernel_rfl) rfl (by exact fun _ _ _ h => h) (by rfl) ?_ (by assumption) ?_
            rotate_left
            · intro w hSw; (try dsimp only at hSw); go_simp; try (with_reducible rfl)
            try simp only [Act.put, List.setIfInBounds_toArray, List.set_cons_zero, List.set_cons_succ]
            refine take_runs (i := 15) (v := ?_) (by simp only [List.getElem?_toArray, List.getElem?_cons_succ, List.getElem?_cons_zero]; rfl) (by kernel_rfl) (by kernel_rfl) (by kernel_rfl) rfl (by exact fun _ _ _ h => h) (by rfl) ?_ (by assumption) ?_
            rotate_left
            · intro w hSw; (try dsimp only at hSw); go_simp; try (with_reducible rfl)
            try simp only [Act.put, List.setIfInBounds_toArray, List.set_cons_zero, List.set_cons_succ]
            refine take_runs (i := 16) (v := ?_) (by simp only [List.getElem?_toArray, List.getElem?_cons_succ, List.getElem?_cons_zero]; rfl) (by kernel_rfl) (by kernel_rfl) (by kernel_rfl) rfl (by exact fun _ _ _ h => h) (by rfl) ?_ (by assumption) ?_
            rotate_left
            · intro w hSw; (try dsimp only at hSw); go_simp; try (with_reducible rfl)
            try simp only [Act.put, List.setIfInBounds_toArray, List.set_cons_zero, List.set_cons_succ]
            refine take_runs (i := 17) (v := ?_) (by simp only [List.getElem?_toArray, List.getElem?_cons_succ, List.getElem?_cons_zero]; rfl) (by kernel_rfl) (by kernel_rfl) (by kernel_rfl) rfl (by exact fun _ _ _ h => h) (by rfl) ?_ (by assumption) ?_
            rotate_left
            · intro w hSw; (try dsimp only at hSw); go_simp; try (with_reducible rfl)
            try simp only [Act.put, List.setIfInBounds_toArray, List.set_cons_zero, List.set_cons_succ]
            refine take_runs (i := 18) (v := ?_) (by simp only [List.getElem?_toArray, List.getElem?_cons_succ, List.getElem?_cons_zero]; rfl) (by kernel_rfl) (by kernel_rfl) (by kernel_rfl) rfl (by exact fun _ _ _ h => h) (by rfl) ?_ (by assumption) ?_
            rotate_left
            · intro w hSw; (try dsimp only at hSw); go_simp; try (with_reducible rfl)
            try simp only [Act.put, List.setIfInBounds_toArray, List.set_cons_zero, List.set_cons_succ]
            refine take_runs (i := 19) (v := ?_) (by simp only [List.getElem?_toArray, List.getElem?_cons_succ, List.getElem?_cons_zero]; rfl) (by kernel_rfl) (by kernel_rfl) (by kernel_rfl) rfl (by exact fun _ _ _ h => h) (by rfl) ?_ (by assumption) ?_
            rotate_left
            · intro w hSw; (try dsimp only at hSw); go_simp; try (with_reducible rfl)
            try simp only [Act.put, List.setIfInBounds_toArray, List.set_cons_zero, List.set_cons_succ]
            refine take_runs (i := 20) (v := ?_) (by simp only [List.getElem?_toArray, List.getElem?_cons_succ, List.getElem?_cons_zero]; rfl) (by kernel_rfl) (by kernel_rfl) (by kernel_rfl) rfl (by exact fun _ _ _ h => h) (by rfl) ?_ (by assumption) ?_
            rotate_left
            · intro w hSw; (try dsimp only at hSw); go_simp; try (with_reducible rfl)
            try simp only [Act.put, List.setIfInBounds_toArray, List.set_cons_zero, List.set_cons_succ]
            refine take_runs (i := 21) (v := ?_) (by simp only [List.getElem?_toArray, List.getElem?_cons_succ, List.getElem?_cons_zero]; rfl) (by kernel_rfl) (by kernel_rfl) (by kernel_rfl) rfl (by exact fun _ _ _ h => h) (by rfl) ?_ (by assumption) ?_
            rotate_left
            · intro w hSw; (try dsimp only at hSw); go_simp; try (with_reducible rfl)
            try simp only [Act.put, List.setIfInBounds_toArray, List.set_cons_zero, List.set_cons_succ]
            refine take_runs (i := 22) (v := ?_) (by simp only [List.getElem?_toArray, List.getElem?_cons_succ, List.getElem?_cons_zero]; rfl) (by kernel_rfl) (by kernel_rfl) (by kernel_rfl) rfl (by exact fun _ _ _ h => h) (by rfl) ?_ (by assumption) ?_
            rotate_left
            · intro w hSw; (try dsimp only at hSw); go_simp; try (with_reducible rfl)
            try simp only [Act.put, List.setIfInBounds_toArray, List.set_cons_zero, List.set_cons_succ]
            refine take_runs (i := 23) (v := ?_) (by simp only [List.getElem?_toArray, List.getElem?_cons_succ, List.getElem?_cons_zero]; rfl) (by kernel_rfl) (by kernel_rfl) (by kernel_rfl) rfl (by exact fun _ _ _ h => h) (by rfl) ?_ (by assumption) ?_
            rotate_left
            · intro w hSw; (try dsimp only at hSw); go_simp; try (with_reducible rfl)
            try simp only [Act.put, List.setIfInBounds_toArray, List.set_cons_zero, List.set_cons_succ]
            refine take_runs (i := 24) (v := ?_) (by simp only [List.getElem?_toArray, List.getElem?_cons_succ, List.getElem?_cons_zero]; rfl) (by kernel_rfl) (by kernel_rfl) (by kernel_rfl) rfl (by exact fun _ _ _ h => h) (by rfl) ?_ (by assumption) ?_
            rotate_left
            · intro w hSw; (try dsimp only at hSw); go_simp; try (with_reducible rfl)
            try simp only [Act.put, List.setIfInBounds_toArray, List.set_cons_zero, List.set_cons_succ]
            refine take_runs (i := 25) (v := ?_) (by simp only [List.getElem?_toArray, List.getElem?_cons_succ, List.getElem?_cons_zero]; rfl) (by kernel_rfl) (by kernel_rfl) (by kernel_rfl) rfl (by exact fun _ _ _ h => h) (by rfl) ?_ (by assumption) ?_
            rotate_left
            · intro w hSw; (try dsimp only at hSw); go_simp; try (with_reducible rfl)
            try simp only [Act.put, List.setIfInBounds_toArray, List.set_cons_zero, List.set_cons_succ]
            refine take_runs (i := 26) (v := ?_) (by simp only [List.getElem?_toArray, List.getElem?_cons_succ, List.getElem?_cons_zero]; rfl) (by kernel_rfl) (by kernel_rfl) (by kernel_rfl) rfl (by exact fun _ _ _ h => h) (by rfl) ?_ (by assumption) ?_
            rotate_left
            · intro w hSw; (try dsimp only at hSw); go_simp; try (with_reducible rfl)
            try simp only [Act.put, List.setIfInBounds_toArray, List.set_cons_zero, List.set_cons_succ]
            refine wpAnyH_done (by kernel_rfl) ?_ _
            have b11 := hbel.trans (b10.mono hbel.size)
            clear s0 s1 s2 s3 hHeld b9 b10
            try clear s4
            go_wp2
            go_ret
            exact ⟨ret_b HF.out.symm, HB0.out.trans (b11.mono HB0.out.size)⟩
          · have HA := Lib.hid (HSTEP.out hrb (fun _ => by omega))
            have hd := decide_eq_false hle
            clear hrb HBAD HSTEP H1 hz hle hkm
            generalize (cs.getD m c0D).1 = fp at *
            generalize cs.getD k c0D = c at *
            obtain ⟨f, l, hh⟩ := c
            simp only at hc1 hc2 hc3 HR hd
            go_wp2
            refine wp_region_held_drew (S := fun w' => w'.cell? ⟨w.heap.size, 2, none⟩ = some (.slice (some ⟨b, off, none⟩) cs.length vcap) ∧ w'.cell? ⟨b, off + k * 3, none⟩ = some (.int .i64 f) ∧ w'.cell? ⟨b, off + k * 3 + 1, none⟩ = some (.int .i64 l) ∧ w'.cell? ⟨b, off + k * 3 + 2, none⟩ = some (.int .i64 hh) ∧ w'.cell? ⟨b, off + m * 3, none⟩ = some (.int .i64 fp)) (by kernel_rfl) ⟨p2, hc1, hc2, hc3, hc0⟩ (fun hHeld => ?_)
            refine take_runs (i := 0) (v := ?_) (by simp only [List.getElem?_toArray, List.getElem?_cons_succ, List.getElem?_cons_zero]; rfl) (by kernel_rfl) (by kernel_rfl) (by kernel_rfl) rfl (by exact fun _ _ _ h => h) (by rfl) ?_ (by assumption) ?_
            rotate_left
            · intro w hSw; (try dsimp only at hSw); go_simp; try (with_reducible rfl)
            try simp only [Act.put, List.setIfInBounds_toArray, List.set_cons_zero, List.set_cons_succ]
            refine take_runs (i := 1) (v := ?_) (by simp only [List.getElem?_toArray, List.getElem?_cons_succ, List.getElem?_cons_zero]; rfl) (by kernel_rfl) (by kernel_rfl) (by kernel_rfl) rfl (by exact fun _ _ _ h => h) (by rfl) ?_ (by assumption) ?_
            rotate_left
            · intro w hSw; (try dsimp only at hSw); go_simp; try (with_reducible rfl)
            try simp only [Act.put, List.setIfInBounds_toArray, List.set_cons_zero, List.set_cons_succ]
            refine take_runs (i := 2) (v := ?_) (by simp only [List.getElem?_toArray, List.getElem?_cons_succ, List.getElem?_cons_zero]; rfl) (by kernel_rfl) (by kernel_rfl) (by kernel_rfl) rfl (by exact fun _ _ _ h => h) (by rfl) ?_ (by assumption) ?_
            rotate_left
            · intro w hSw; (try dsimp only at hSw); go_simp; try (with_reducible rfl)
            try simp only [Act.put, List.setIfInBounds_toArray, List.set_cons_zero, List.set_cons_succ]
            refine take_runs (i := 3) (v := ?_) (by simp only [List.getElem?_toArray, List.getElem?_cons_succ, List.getElem?_cons_zero]; rfl) (by kernel_rfl) (by kernel_rfl) (by kernel_rfl) rfl (by exact fun _ _ _ h => h) (by rfl) ?_ (by assumption) ?_
            rotate_left
            · intro w hSw; (try dsimp only at hSw); go_simp; try (with_reducible rfl)
            try simp only [Act.put, List.setIfInBounds_toArray, List.set_cons_zero, List.set_cons_succ]
            refine take_runs (i := 4) (v := ?_) (by simp only [List.getElem?_toArray, List.getElem?_cons_succ, List.getElem?_cons_zero]; rfl) (by kernel_rfl) (by kernel_rfl) (by kernel_rfl) rfl (by exact fun _ _ _ h => h) (by rfl) ?_ (by assumption) ?_
            rotate_left
            · intro w hSw; (try dsimp only at hSw); go_simp; try (with_reducible rfl)
            try simp only [Act.put, List.setIfInBounds_toArray, List.set_cons_zero, List.set_cons_succ]
            refine wpAnyH_ready (rs := [5]) (by kernel_rfl) (by simp) ?_
            refine AllReadyH.cons (o := _) (by simp only [List.getElem?_toArray, List.getElem?_cons_succ, List.getElem?_cons_zero]; rfl) (fun K hK => ?_) AllReadyH.nil
            go_simp
            refine (HR.out _).mono ?_
            rintro e w8 ⟨rfl, b9⟩
            have b10 : Below wr.heap.size wr w8 := ⟨b9.os, b9.tape, b9.output, b9.size, b9.block⟩
            have s0 := (b10.cell (p := ⟨w.heap.size, 2, none⟩) hwl).trans p2
            have s1 := (b10.cell (p := ⟨b, off + k * 3, none⟩) hbl).trans hc1
            have s2 := (b10.cell (p := ⟨b, off + k * 3 + 1, none⟩) hbl).trans hc2
            have s3 := (b10.cell (p := ⟨b, off + k * 3 + 2, none⟩) hbl).trans hc3
            have s4 := (b10.cell (p := ⟨b, off + m * 3, none⟩) hbl).trans hc0
            refine hK.out _ _ ⟨s0, s1, s2, s3, s4⟩ (fun hHeld => ?_)
            clear hK K
            try simp only [Act.put, List.setIfInBounds_toArray, List.set_cons_zero, List.set_cons_succ]
            refine take_runs (i := 6) (v := ?_) (by simp only [List.getElem?_toArray, List.getElem?_cons_succ, List.getElem?_cons_zero]; rfl) (by kernel_rfl) (by kernel_rfl) (by kernel_rfl) rfl (by exact fun _ _ _ h => h) (by rfl) ?_ (by assumption) ?_
            rotate_left
            · intro w hSw; (try dsimp only at hSw); go_simp; try (with_reducible rfl)
            try simp only [Act.put, List.setIfInBounds_toArray, List.set_cons_zero, List.set_cons_succ]
            refine take_runs (i := 7) (v := ?_) (by simp only [List.getElem?_toArray, List.getElem?_cons_succ, List.getElem?_cons_zero]; rfl) (by kernel_rfl) (by kernel_rfl) (by kernel_rfl) rfl (by exact fun _ _ _ h => h) (by rfl) ?_ (by assumption) ?_
            rotate_left
            · intro w hSw; (try dsimp only at hSw); go_simp; try (with_reducible rfl)
            try simp only [Act.put, List.setIfInBounds_toArray, List.set_cons_zero, List.set_cons_succ]
            refine take_runs (i := 8) (v := ?_) (by simp only [List.getElem?_toArray, List.getElem?_cons_succ, List.getElem?_cons_zero]; rfl) (by kernel_rfl) (by kernel_rfl) (by kernel_rfl) rfl (by exact fun _ _ _ h => h) (by rfl) ?_ (by assumption) ?_
            rotate_left
            · intro w hSw; (try dsimp only at hSw); go_simp; try (with_reducible rfl)
            try simp only [Act.put, List.setIfInBounds_toArray, List.set_cons_zero, List.set_cons_succ]
            refine take_runs (i := 9) (v := ?_) (by simp only [List.getElem?_toArray, List.getElem?_cons_succ, List.getElem?_cons_zero]; rfl) (by kernel_rfl) (by kernel_rfl) (by kernel_rfl) rfl (by exact fun _ _ _ h => h) (by rfl) ?_ (by assumption) ?_
            rotate_left
            · intro w hSw; (try dsimp only at hSw); go_simp; try (with_reducible rfl)
            try simp only [Act.put, List.setIfInBounds_toArray, List.set_cons_zero, List.set_cons_succ]
            refine take_runs (i := 10) (v := ?_) (by simp only [List.getElem?_toArray, List.getElem?_cons_succ, List.getElem?_cons_zero]; rfl) (by kernel_rfl) (by kernel_rfl) (by kernel_rfl) rfl (by exact fun _ _ _ h => h) (by rfl) ?_ (by assumption) ?_
            rotate_left
            · intro w hSw; (try dsimp only at hSw); go_simp; try (with_reducible rfl)
            try simp only [Act.put, List.setIfInBounds_toArray, List.set_cons_zero, List.set_cons_succ]
            refine take_runs (i := 11) (v := ?_) (by simp only [List.getElem?_toArray, List.getElem?_cons_succ, List.getElem?_cons_zero]; rfl) (by kernel_rfl) (by kernel_rfl) (by kernel_rfl) rfl (by exact fun _ _ _ h => h) (by rfl) ?_ (by assumption) ?_
            rotate_left
            · intro w hSw; (try dsimp only at hSw); go_simp; try (with_reducible rfl)
            try simp only [Act.put, List.setIfInBounds_toArray, List.set_cons_zero, List.set_cons_succ]
            refine take_runs (i := 12) (v := ?_) (by simp only [List.getElem?_toArray, List.getElem?_cons_succ, List.getElem?_cons_zero]; rfl) (by kernel_rfl) (by kernel_rfl) (by kernel_rfl) rfl (by exact fun _ _ _ h => h) (by rfl) ?_ (by assumption) ?_
            rotate_left
            · intro w hSw; (try dsimp only at hSw); go_simp; try (with_reducible rfl)
            try simp only [Act.put, List.setIfInBounds_toArray, List.set_cons_zero, List.set_cons_succ]
            refine take_runs (i := 13) (v := ?_) (by simp only [List.getElem?_toArray, List.getElem?_cons_succ, List.getElem?_cons_zero]; rfl) (by kernel_rfl) (by kernel_rfl) (by kernel_rfl) rfl (by exact fun _ _ _ h => h) (by rfl) ?_ (by assumption) ?_
            rotate_left
            · intro w hSw; (try dsimp only at hSw); go_simp; try (with_reducible rfl)
            try simp only [Act.put, List.setIfInBounds_toArray, List.set_cons_zero, List.set_cons_succ]
            refine take_runs (i := 14) (v := ?_) (by simp only [List.getElem?_toArray, List.getElem?_cons_succ, List.getElem?_cons_zero]; rfl) (by kernel_rfl) (by kernel_rfl) (by kernel_rfl) rfl (by exact fun _ _ _ h => h) (by rfl) ?_ (by assumption) ?_
            rotate_left
            · intro w hSw; (try dsimp only at hSw); go_simp; try (with_reducible rfl)
            try simp only [Act.put, List.setIfInBounds_toArray, List.set_cons_zero, List.set_cons_succ]
            refine take_runs (i := 15) (v := ?_) (by simp only [List.getElem?_toArray, List.getElem?_cons_succ, List.getElem?_cons_zero]; rfl) (by kernel_rfl) (by kernel_rfl) (by kernel_rfl) rfl (by exact fun _ _ _ h => h) (by rfl) ?_ (by assumption) ?_
            rotate_left
            · intro w hSw; (try dsimp only at hSw); go_simp; try (with_reducible rfl)
            try simp only [Act.put, List.setIfInBounds_toArray, List.set_cons_zero, List.set_cons_succ]
            refine take_runs (i := 16) (v := ?_) (by simp only [List.getElem?_toArray, List.getElem?_cons_succ, List.getElem?_cons_zero]; rfl) (by kernel_rfl) (by kernel_rfl) (by kernel_rfl) rfl (by exact fun _ _ _ h => h) (by rfl) ?_ (by assumption) ?_
            rotate_left
            · intro w hSw; (try dsimp only at hSw); go_simp; try (with_reducible rfl)
            try simp only [Act.put, List.setIfInBounds_toArray, List.set_cons_zero, List.set_cons_succ]
            refine take_runs (i := 17) (v := ?_) (by simp only [List.getElem?_toArray, List.getElem?_cons_succ, List.getElem?_cons_zero]; rfl) (by kernel_rfl) (by kernel_rfl) (by kernel_rfl) rfl (by exact fun _ _ _ h => h) (by rfl) ?_ (by assumption) ?_
            rotate_left
            · intro w hSw; (try dsimp only at hSw); go_simp; try (with_reducible rfl)
            try simp only [Act.put, List.setIfInBounds_toArray, List.set_cons_zero, List.set_cons_succ]
            refine take_runs (i := 18) (v := ?_) (by simp only [List.getElem?_toArray, List.getElem?_cons_succ, List.getElem?_cons_zero]; rfl) (by kernel_rfl) (by kernel_rfl) (by kernel_rfl) rfl (by exact fun _ _ _ h => h) (by rfl) ?_ (by assumption) ?_
            rotate_left
            · intro w hSw; (try dsimp only at hSw); go_simp; try (with_reducible rfl)
            try simp only [Act.put, List.setIfInBounds_toArray, List.set_cons_zero, List.set_cons_succ]
            refine take_runs (i := 19) (v := ?_) (by simp only [List.getElem?_toArray, List.getElem?_cons_succ, List.getElem?_cons_zero]; rfl) (by kernel_rfl) (by kernel_rfl) (by kernel_rfl) rfl (by exact fun _ _ _ h => h) (by rfl) ?_ (by assumption) ?_
            rotate_left
            · intro w hSw; (try dsimp only at hSw); go_simp; try (with_reducible rfl)
            try simp only [Act.put, List.setIfInBounds_toArray, List.set_cons_zero, List.set_cons_succ]
            refine take_runs (i := 20) (v := ?_) (by simp only [List.getElem?_toArray, List.getElem?_cons_succ, List.getElem?_cons_zero]; rfl) (by kernel_rfl) (by kernel_rfl) (by kernel_rfl) rfl (by exact fun _ _ _ h => h) (by rfl) ?_ (by assumption) ?_
            rotate_left
            · intro w hSw; (try dsimp only at hSw); go_simp; try (with_reducible rfl)
            try simp only [Act.put, List.setIfInBounds_toArray, List.set_cons_zero, List.set_cons_succ]
            refine take_runs (i := 21) (v := ?_) (by simp only [List.getElem?_toArray, List.getElem?_cons_succ, List.getElem?_cons_zero]; rfl) (by kernel_rfl) (by kernel_rfl) (by kernel_rfl) rfl (by exact fun _ _ _ h => h) (by rfl) ?_ (by assumption) ?_
            rotate_left
            · intro w hSw; (try dsimp only at hSw); go_simp; try (with_reducible rfl)
            try simp only [Act.put, List.setIfInBounds_toArray, List.set_cons_zero, List.set_cons_succ]
            refine take_runs (i := 22) (v := ?_) (by simp only [List.getElem?_toArray, List.getElem?_cons_succ, List.getElem?_cons_zero]; rfl) (by kernel_rfl) (by kernel_rfl) (by kernel_rfl) rfl (by exact fun _ _ _ h => h) (by rfl) ?_ (by assumption) ?_
            rotate_left
            · intro w hSw; (try dsimp only at hSw); go_simp; try (with_reducible rfl)
            try simp only [Act.put, List.setIfInBounds_toArray, List.set_cons_zero, List.set_cons_succ]
            refine take_runs (i := 23) (v := ?_) (by simp only [List.getElem?_toArray, List.getElem?_cons_succ, List.getElem?_cons_zero]; rfl) (by kernel_rfl) (by kernel_rfl) (by kernel_rfl) rfl (by exact fun _ _ _ h => h) (by rfl) ?_ (by assumption) ?_
            rotate_left
            · intro w hSw; (try dsimp only at hSw); go_simp; try (with_reducible rfl)
            try simp only [Act.put, List.setIfInBounds_toArray, List.set_cons_zero, List.set_cons_succ]
            refine take_runs (i := 24) (v := ?_) (by simp only [List.getElem?_toArray, List.getElem?_cons_succ, List.getElem?_cons_zero]; rfl) (by kernel_rfl) (by kernel_rfl) (by kernel_rfl) rfl (by exact fun _ _ _ h => h) (by rfl) ?_ (by assumption) ?_
            rotate_left
            · intro w hSw; (try dsimp only at hSw); go_simp; try (with_reducible rfl)
            try simp only [Act.put, List.setIfInBounds_toArray, List.set_cons_zero, List.set_cons_succ]
            refine take_runs (i := 25) (v := ?_) (by simp only [List.getElem?_toArray, List.getElem?_cons_succ, List.getElem?_cons_zero]; rfl) (by kernel_rfl) (by kernel_rfl) (by kernel_rfl) rfl (by exact fun _ _ _ h => h) (by rfl) ?_ (by assumption) ?_
            rotate_left
            · intro w hSw; (try dsimp only at hSw); go_simp; try (with_reducible rfl)
            try simp only [Act.put, List.setIfInBounds_toArray, List.set_cons_zero, List.set_cons_succ]
            refine take_runs (i := 26) (v := ?_) (by simp only [List.getElem?_toArray, List.getElem?_cons_succ, List.getElem?_cons_zero]; rfl) (by kernel_rfl) (by kernel_rfl) (by kernel_rfl) rfl (by exact fun _ _ _ h => h) (by rfl) ?_ (by assumption) ?_
            rotate_left
            · intro w hSw; (try dsimp only at hSw); go_simp; try (with_reducible rfl)
            try simp only [Act.put, List.setIfInBounds_toArray, List.set_cons_zero, List.set_cons_succ]
            refine wpAnyH_done (by kernel_rfl) ?_ _
            have b11 := hbel.trans (b10.mono hbel.size)
            clear s0 s1 s2 s3 hHeld b9 b10
            try clear s4
            go_wp2
            go_roundw
            case rel => exact ⟨k + 1, by omega, by go_num, HA, b11⟩
            case measure => simp [intOf]; omega
    · obtain rfl : k = cs.length := by omega
      have HCB := Lib.hid (condsB_all hall.out)
      have p0 := (cell_of_row wr _ 0 _ _ _ kb).trans (show _ = some (Value.int .i64 id) from rfl)
      have p1 := (cell_of_row wr _ 1 _ _ _ kb).trans (show _ = some (Value.int .i64 tn) from rfl)
      have p3 := (cell_of_row wr _ 3 _ _ _ kb).trans (show _ = some (Value.slice oa os.length ocap) from rfl)
      have b11 := HB0.out.trans (hbel.mono HB0.out.size)
      have IO := Lib.hid (ints_below HO.out hbel)
      clear hall kb hbel
      by_cases h1 : 0 ≤ id ∧ id ≤ 23
      · have H1 := Lib.hid (fun w => in_yes id 0 23 w h1.1 h1.2)
        by_cases h2 : 0 ≤ tn ∧ tn ≤ 3
        · have H2 := Lib.hid (fun w => in_yes tn 0 3 w h2.1 h2.2)
          by_cases h3 : cs.length ≤ 3
          · have HQ : Hid (queryB id tn cs os = fieldsB os) := Lib.hid (by unfold queryB; rw [HCB.out, decide_eq_true h1, decide_eq_true h2, decide_eq_true h3]; simp)
            have h3i : (cs.length : Int) ≤ 3 := by omega
            clear h1 h2 h3
            generalize fieldsB os = r at *
            go_wp2_with fail
            refine (H1.out _).mono ?_
            rintro e w1 ⟨rfl, rfl⟩
            go_wp2_with fail
            refine (H2.out _).mono ?_
            rintro e w1 ⟨rfl, rfl⟩
            go_wp2_with fail
            refine (HFD.out _ IO.out).mono ?_
            rintro e w1 ⟨rfl, rfl⟩
            go_wp2
            go_ret
            exact ⟨ret_b HQ.out.symm, b11⟩
          · have HQ : Hid (queryB id tn cs os = false) := Lib.hid (by unfold queryB; rw [decide_eq_false h3]; simp)
            have h3i : ¬ (cs.length : Int) ≤ 3 := by omega
            clear h1 h2 h3
            go_wp2_with fail
            refine (H1.out _).mono ?_
            rintro e w1 ⟨rfl, rfl⟩
            go_wp2_with fail
            refine (H2.out _).mono ?_
            rintro e w1 ⟨rfl, rfl⟩
            go_wp2
            go_ret
            exact ⟨ret_b HQ.out.symm, b11⟩
        · have H2 := Lib.hid (fun w => in_no tn 0 3 w h2)
          have HQ : Hid (queryB id tn cs os = false) := Lib.hid (by unfold queryB; rw [decide_eq_false h2]; simp)
          clear h1 h2
          go_wp2_with fail
          refine (H1.out _).mono ?_
          rintro e w1 ⟨rfl, rfl⟩
          go_wp2_with fail
          refine (H2.out _).mono ?_
          rintro e w1 ⟨rfl, rfl⟩
          go_wp2
          go_ret
          exact ⟨ret_b HQ.out.symm, b11⟩
      · have H1 := Lib.hid (fun w => in_no id 0 23 w h1)
        have HQ : Hid (queryB id tn cs os = false) := Lib.hid (by unfold queryB; rw [decide_eq_false h1]; simp)
        clear h1
        go_wp2_with fail
        refine (H1.out _).mono ?_
        rintro e w1 ⟨rfl, rfl⟩
        go_wp2
        go_ret
        exact ⟨ret_b HQ.out.symm, b11⟩
end Go.Proofs.YteelgogfpidcdaaGreatDoor
namespace Go.Proofs.YteelgogfpidcdaaGreatDoor
open Go.RowKit
set_option linter.unusedVariables false
set_option linter.unusedSimpArgs false
/-- The value of the condition's field lies between its bounds. -/
def okC (xs : List Int) (c : CondD) : Bool := decide (c.2.1 ≤ xs.getD c.1.toNat 0 ∧ xs.getD c.1.toNat 0 ≤ c.2.2)
def matchB (id tn : Int) (cs : List CondD) (os : List Int) (r : RowD) : Bool := rowB r && (queryB id tn cs os && cs.all (okC r.2))
theorem query_conds {id tn : Int} {cs : List CondD} {os : List Int} (h : queryB id tn cs os = true) {k : Nat} (hk : k < cs.length) : 0 ≤ (cs.getD k c0D).1 ∧ (cs.getD k c0D).1 ≤ 2 := by
  unfold queryB at h
  simp only [Bool.and_eq_true] at h
  have h1 := h.1
  unfold condsB at h1
  rw [List.all_eq_true] at h1
  have := h1 k (List.mem_range.2 hk)
  rw [Bool.and_eq_true] at this
  have h2 := this.1
  unfold condB at h2
  simp only [Bool.and_eq_true, decide_eq_true_eq] at h2
  exact h2.1
theorem row_len {r : RowD} (h : rowB r = true) : r.2.length = 3 := by
  unfold rowB at h
  simp only [Bool.and_eq_true, decide_eq_true_eq] at h
  exact h.2.2
theorem all_bad {xs : List Int} {cs : List CondD} {k : Nat} (hk : k < cs.length) (h : okC xs (cs.getD k c0D) = false) : cs.all (okC xs) = false := by
  rw [Bool.eq_false_iff]
  intro g
  rw [List.all_eq_true] at g
  have e : cs.getD k c0D = cs[k] := by simp [List.getD, hk]
  rw [e, g _ (List.getElem_mem hk)] at h
  exact Bool.noConfusion h
theorem all_ok {xs : List Int} {cs : List CondD} (h : ∀ k, k < cs.length → okC xs (cs.getD k c0D) = true) : cs.all (okC xs) = true := by
  rw [List.all_eq_true]
  intro c hc
  obtain ⟨k, hk, rfl⟩ := List.getElem_of_mem hc
  have := h k hk
  have e : cs.getD k c0D = cs[k] := by simp [List.getD, hk]
  rwa [e] at this
theorem qr_boxes {W w : World} {g : Nat} {a b c d x y : Value} (g0 : W.heap[g]? = some (.cells #[a, b, c, d] 27 (0, 0))) (g1 : W.heap[g + 1]? = some (.cells #[x, y] 36 (0, 0))) (hz : g + 1 < W.heap.size) (hb : Below W.heap.size W w) :
    w.cell? ⟨g, 0, none⟩ = some a ∧ w.cell? ⟨g, 1, none⟩ = some b ∧ w.cell? ⟨g, 2, none⟩ = some c ∧ w.cell? ⟨g, 3, none⟩ = some d ∧ w.cell? ⟨g + 1, 0, none⟩ = some x ∧ w.cell? ⟨g + 1, 1, none⟩ = some y := by
  have h0 := (hb.block g (by omega)).trans g0
  have h1 := (hb.block (g + 1) hz).trans g1
  exact ⟨(cell_of_row w _ 0 _ _ _ h0).trans rfl, (cell_of_row w _ 1 _ _ _ h0).trans rfl, (cell_of_row w _ 2 _ _ _ h0).trans rfl, (cell_of_row w _ 3 _ _ _ h0).trans rfl, (cell_of_row w _ 0 _ _ _ h1).trans rfl, (cell_of_row w _ 1 _ _ _ h1).trans rfl⟩
set_option maxHeartbeats 16000000 in
set_option maxRecDepth 100000 in
theorem specMatch_noRow (id tn rid : Int) (cv ov vv : Value) (cs : List CondD) (os xs : List Int) (w : World) (h : CondsR w cv cs) (hn : cs.length ≤ 1048576) (g : Ints w ov os) (hm : os.length ≤ 1048576) (gr : Ints w vv xs) (hx : xs.length ≤ 1048576) (hr : rowB (rid, xs) = false) :
    Calls Tryz.prog 19 #[qV id tn cv ov, .agg #[.int .i64 rid, vv]] w fun e w' => e = .returned (.bool (matchB id tn cs os (rid, xs))) ∧ Below w.heap.size w w' := by
  obtain ⟨ca, ccap, rfl⟩ := condsR_len h
  obtain ⟨oa, ocap, rfl⟩ := ints_len g
  obtain ⟨va, vcap, rfl⟩ := ints_len gr
  have hb0 : Below w.heap.size w ((w.alloc (.cells #[.int .i64 id, .int .i64 tn, .slice ca cs.length ccap, .slice oa os.length ocap] 27)).alloc (.cells #[.int .i64 rid, .slice va xs.length vcap] 36)) := ((Below.refl _ w).alloc (Nat.le_refl _) _).alloc (by simp) _
  have HG1 : Hid (((w.alloc (.cells #[.int .i64 id, .int .i64 tn, .slice ca cs.length ccap, .slice oa os.length ocap] 27)).alloc (.cells #[.int .i64 rid, .slice va xs.length vcap] 36)).heap[w.heap.size + 1]? = some (.cells #[.int .i64 rid, .slice va xs.length vcap] 36 (0, 0))) := Lib.hid (by
    have := heap_alloc_new (w.alloc (.cells #[.int .i64 id, .int .i64 tn, .slice ca cs.length ccap, .slice oa os.length ocap] 27)) (.cells #[.int .i64 rid, .slice va xs.length vcap] 36)
    simpa only [World.size_alloc] using this)
  have HG0 : Hid (((w.alloc (.cells #[.int .i64 id, .int .i64 tn, .slice ca cs.length ccap, .slice oa os.length ocap] 27)).alloc (.cells #[.int .i64 rid, .slice va xs.length vcap] 36)).heap[w.heap.size]? = some (.cells #[.int .i64 id, .int .i64 tn, .slice ca cs.length ccap, .slice oa os.length ocap] 27 (0, 0))) := Lib.hid (by
    rw [Below.heap_alloc _ _ _ (by simp)]
    exact heap_alloc_new w _)
  have HZ : Hid (w.heap.size + 1 < ((w.alloc (.cells #[.int .i64 id, .int .i64 tn, .slice ca cs.length ccap, .slice oa os.length ocap] 27)).alloc (.cells #[.int .i64 rid, .slice va xs.length vcap] 36)).heap.size) := Lib.hid (by simp)
  have HB0 := Lib.hid hb0
  have HC := Lib.hid (condsR_below h hb0)
  have HO := Lib.hid (ints_below g hb0)
  have HX := Lib.hid (ints_below gr hb0)
  have HR := Lib.hid (fun w h => specIsRow rid (.slice va xs.length vcap) xs w h hx)
  have HQ := Lib.hid (fun w h g => specIsQuery id tn (.slice ca cs.length ccap) (.slice oa os.length ocap) cs os w h hn g hm)
  have HF : Hid (matchB id tn cs os (rid, xs) = false) := Lib.hid (by unfold matchB; rw [hr]; simp)
  rw [hr] at HR
  clear hr
  clear h g hm gr hx hb0
  go_enter Tryz.func19, Tryz.ntmps19
  go_wp2
  generalize ((w.alloc (.cells #[.int .i64 id, .int .i64 tn, .slice ca cs.length ccap, .slice oa os.length ocap] 27)).alloc (.cells #[.int .i64 rid, .slice va xs.length vcap] 36)) = W at *
  go_loopw [5] (fun i wr => ∃ k : Nat, k ≤ cs.length ∧ i = .int .i64 k ∧ k = 0 ∧ Below W.heap.size W wr) (fun i _ => cs.length - (intOf i).toNat)
  case atStart => exact ⟨0, Nat.zero_le _, rfl, rfl, Below.refl _ _⟩
  case round =>
    obtain ⟨k, hk, rfl, hk0, hbel⟩ := hrel
    subst hk0
    obtain ⟨p0, p1, p2, p3, r0, r1⟩ := qr_boxes HG0.out HG1.out HZ.out hbel
    by_cases hlt : 0 < cs.length
    · have i2 : (0 : Int) < (cs.length : Int) := by omega
      go_wp2_with fail
      refine (HR.out _ (ints_below HX.out hbel)).mono ?_
      rintro e u1 ⟨rfl, bu1⟩
      have cu1 := hbel.trans (bu1.mono hbel.size)
      clear p0 p1 p2 p3 r0 r1 bu1
      obtain ⟨p0, p1, p2, p3, r0, r1⟩ := qr_boxes HG0.out HG1.out HZ.out cu1
      go_wp2_with fail
      refine (HR.out _ (ints_below HX.out cu1)).mono ?_
      rintro e u3 ⟨rfl, bu3⟩
      have cu3 := cu1.trans (bu3.mono cu1.size)
      clear p0 p1 p2 p3 r0 r1 bu3
      obtain ⟨p0, p1, p2, p3, r0, r1⟩ := qr_boxes HG0.out HG1.out HZ.out cu3
      go_wp2
      go_ret
      exact ⟨ret_b HF.out.symm, HB0.out.trans (cu3.mono HB0.out.size)⟩
    · have i2 : ¬ (0 : Int) < (cs.length : Int) := by omega
      go_wp2_with fail
      refine (HR.out _ (ints_below HX.out hbel)).mono ?_
      rintro e u3 ⟨rfl, bu3⟩
      have cu3 := hbel.trans (bu3.mono hbel.size)
      clear p0 p1 p2 p3 r0 r1 bu3
      obtain ⟨p0, p1, p2, p3, r0, r1⟩ := qr_boxes HG0.out HG1.out HZ.out cu3
      go_wp2
      go_ret
      exact ⟨ret_b HF.out.symm, HB0.out.trans (cu3.mono HB0.out.size)⟩
set_option maxHeartbeats 16000000 in
set_option maxRecDepth 100000 in
theorem specMatch_noQuery (id tn rid : Int) (cv ov vv : Value) (cs : List CondD) (os xs : List Int) (w : World) (h : CondsR w cv cs) (hn : cs.length ≤ 1048576) (g : Ints w ov os) (hm : os.length ≤ 1048576) (gr : Ints w vv xs) (hx : xs.length ≤ 1048576) (hr : rowB (rid, xs) = true) (hq : queryB id tn cs os = false) :
    Calls Tryz.prog 19 #[qV id tn cv ov, .agg #[.int .i64 rid, vv]] w fun e w' => e = .returned (.bool (matchB id tn cs os (rid, xs))) ∧ Below w.heap.size w w' := by
  obtain ⟨ca, ccap, rfl⟩ := condsR_len h
  obtain ⟨oa, ocap, rfl⟩ := ints_len g
  obtain ⟨va, vcap, rfl⟩ := ints_len gr
  have hb0 : Below w.heap.size w ((w.alloc (.cells #[.int .i64 id, .int .i64 tn, .slice ca cs.length ccap, .slice oa os.length ocap] 27)).alloc (.cells #[.int .i64 rid, .slice va xs.length vcap] 36)) := ((Below.refl _ w).alloc (Nat.le_refl _) _).alloc (by simp) _
  have HG1 : Hid (((w.alloc (.cells #[.int .i64 id, .int .i64 tn, .slice ca cs.length ccap, .slice oa os.length ocap] 27)).alloc (.cells #[.int .i64 rid, .slice va xs.length vcap] 36)).heap[w.heap.size + 1]? = some (.cells #[.int .i64 rid, .slice va xs.length vcap] 36 (0, 0))) := Lib.hid (by
    have := heap_alloc_new (w.alloc (.cells #[.int .i64 id, .int .i64 tn, .slice ca cs.length ccap, .slice oa os.length ocap] 27)) (.cells #[.int .i64 rid, .slice va xs.length vcap] 36)
    simpa only [World.size_alloc] using this)
  have HG0 : Hid (((w.alloc (.cells #[.int .i64 id, .int .i64 tn, .slice ca cs.length ccap, .slice oa os.length ocap] 27)).alloc (.cells #[.int .i64 rid, .slice va xs.length vcap] 36)).heap[w.heap.size]? = some (.cells #[.int .i64 id, .int .i64 tn, .slice ca cs.length ccap, .slice oa os.length ocap] 27 (0, 0))) := Lib.hid (by
    rw [Below.heap_alloc _ _ _ (by simp)]
    exact heap_alloc_new w _)
  have HZ : Hid (w.heap.size + 1 < ((w.alloc (.cells #[.int .i64 id, .int .i64 tn, .slice ca cs.length ccap, .slice oa os.length ocap] 27)).alloc (.cells #[.int .i64 rid, .slice va xs.length vcap] 36)).heap.size) := Lib.hid (by simp)
  have HB0 := Lib.hid hb0
  have HC := Lib.hid (condsR_below h hb0)
  have HO := Lib.hid (ints_below g hb0)
  have HX := Lib.hid (ints_below gr hb0)
  have HR := Lib.hid (fun w h => specIsRow rid (.slice va xs.length vcap) xs w h hx)
  have HQ := Lib.hid (fun w h g => specIsQuery id tn (.slice ca cs.length ccap) (.slice oa os.length ocap) cs os w h hn g hm)
  have HF : Hid (matchB id tn cs os (rid, xs) = false) := Lib.hid (by unfold matchB; rw [hq]; simp)
  rw [hr] at HR
  rw [hq] at HQ
  clear hr hq
  clear h g hm gr hx hb0
  go_enter Tryz.func19, Tryz.ntmps19
  go_wp2
  generalize ((w.alloc (.cells #[.int .i64 id, .int .i64 tn, .slice ca cs.length ccap, .slice oa os.length ocap] 27)).alloc (.cells #[.int .i64 rid, .slice va xs.length vcap] 36)) = W at *
  go_loopw [5] (fun i wr => ∃ k : Nat, k ≤ cs.length ∧ i = .int .i64 k ∧ k = 0 ∧ Below W.heap.size W wr) (fun i _ => cs.length - (intOf i).toNat)
  case atStart => exact ⟨0, Nat.zero_le _, rfl, rfl, Below.refl _ _⟩
  case round =>
    obtain ⟨k, hk, rfl, hk0, hbel⟩ := hrel
    subst hk0
    obtain ⟨p0, p1, p2, p3, r0, r1⟩ := qr_boxes HG0.out HG1.out HZ.out hbel
    by_cases hlt : 0 < cs.length
    · have i2 : (0 : Int) < (cs.length : Int) := by omega
      go_wp2_with fail
      refine (HR.out _ (ints_below HX.out hbel)).mono ?_
      rintro e u1 ⟨rfl, bu1⟩
      have cu1 := hbel.trans (bu1.mono hbel.size)
      clear p0 p1 p2 p3 r0 r1 bu1
      obtain ⟨p0, p1, p2, p3, r0, r1⟩ := qr_boxes HG0.out HG1.out HZ.out cu1
      go_wp2_with fail
      refine (HQ.out _ (condsR_below HC.out cu1) (ints_below HO.out cu1)).mono ?_
      rintro e u2 ⟨rfl, bu2⟩
      have cu2 := cu1.trans (bu2.mono cu1.size)
      clear p0 p1 p2 p3 r0 r1 bu2
      obtain ⟨p0, p1, p2, p3, r0, r1⟩ := qr_boxes HG0.out HG1.out HZ.out cu2
      go_wp2_with fail
      refine (HR.out _ (ints_below HX.out cu2)).mono ?_
      rintro e u3 ⟨rfl, bu3⟩
      have cu3 := cu2.trans (bu3.mono cu2.size)
      clear p0 p1 p2 p3 r0 r1 bu3
      obtain ⟨p0, p1, p2, p3, r0, r1⟩ := qr_boxes HG0.out HG1.out HZ.out cu3
      go_wp2_with fail
      refine (HQ.out _ (condsR_below HC.out cu3) (ints_below HO.out cu3)).mono ?_
      rintro e u4 ⟨rfl, bu4⟩
      have cu4 := cu3.trans (bu4.mono cu3.size)
      clear p0 p1 p2 p3 r0 r1 bu4
      obtain ⟨p0, p1, p2, p3, r0, r1⟩ := qr_boxes HG0.out HG1.out HZ.out cu4
      go_wp2
      go_ret
      exact ⟨ret_b HF.out.symm, HB0.out.trans (cu4.mono HB0.out.size)⟩
    · have i2 : ¬ (0 : Int) < (cs.length : Int) := by omega
      go_wp2_with fail
      refine (HR.out _ (ints_below HX.out hbel)).mono ?_
      rintro e u3 ⟨rfl, bu3⟩
      have cu3 := hbel.trans (bu3.mono hbel.size)
      clear p0 p1 p2 p3 r0 r1 bu3
      obtain ⟨p0, p1, p2, p3, r0, r1⟩ := qr_boxes HG0.out HG1.out HZ.out cu3
      go_wp2_with fail
      refine (HQ.out _ (condsR_below HC.out cu3) (ints_below HO.out cu3)).mono ?_
      rintro e u4 ⟨rfl, bu4⟩
      have cu4 := cu3.trans (bu4.mono cu3.size)
      clear p0 p1 p2 p3 r0 r1 bu4
      obtain ⟨p0, p1, p2, p3, r0, r1⟩ := qr_boxes HG0.out HG1.out HZ.out cu4
      go_wp2
      go_ret
      exact ⟨ret_b HF.out.symm, HB0.out.trans (cu4.mono HB0.out.size)⟩
set_option maxHeartbeats 16000000 in
set_option maxRecDepth 100000 in
theorem specMatch_both (id tn rid : Int) (cv ov vv : Value) (cs : List CondD) (os xs : List Int) (w : World) (h : CondsR w cv cs) (hn : cs.length ≤ 1048576) (g : Ints w ov os) (hm : os.length ≤ 1048576) (gr : Ints w vv xs) (hx : xs.length ≤ 1048576) (hr : rowB (rid, xs) = true) (hq : queryB id tn cs os = true) :
    Calls Tryz.prog 19 #[qV id tn cv ov, .agg #[.int .i64 rid, vv]] w fun e w' => e = .returned (.bool (matchB id tn cs os (rid, xs))) ∧ Below w.heap.size w w' := by
  obtain ⟨ca, ccap, rfl⟩ := condsR_len h
  obtain ⟨oa, ocap, rfl⟩ := ints_len g
  obtain ⟨va, vcap, rfl⟩ := ints_len gr
  have hb0 : Below w.heap.size w ((w.alloc (.cells #[.int .i64 id, .int .i64 tn, .slice ca cs.length ccap, .slice oa os.length ocap] 27)).alloc (.cells #[.int .i64 rid, .slice va xs.length vcap] 36)) := ((Below.refl _ w).alloc (Nat.le_refl _) _).alloc (by simp) _
  have HG1 : Hid (((w.alloc (.cells #[.int .i64 id, .int .i64 tn, .slice ca cs.length ccap, .slice oa os.length ocap] 27)).alloc (.cells #[.int .i64 rid, .slice va xs.length vcap] 36)).heap[w.heap.size + 1]? = some (.cells #[.int .i64 rid, .slice va xs.length vcap] 36 (0, 0))) := Lib.hid (by
    have := heap_alloc_new (w.alloc (.cells #[.int .i64 id, .int .i64 tn, .slice ca cs.length ccap, .slice oa os.length ocap] 27)) (.cells #[.int .i64 rid, .slice va xs.length vcap] 36)
    simpa only [World.size_alloc] using this)
  have HG0 : Hid (((w.alloc (.cells #[.int .i64 id, .int .i64 tn, .slice ca cs.length ccap, .slice oa os.length ocap] 27)).alloc (.cells #[.int .i64 rid, .slice va xs.length vcap] 36)).heap[w.heap.size]? = some (.cells #[.int .i64 id, .int .i64 tn, .slice ca cs.length ccap, .slice oa os.length ocap] 27 (0, 0))) := Lib.hid (by
    rw [Below.heap_alloc _ _ _ (by simp)]
    exact heap_alloc_new w _)
  have HZ : Hid (w.heap.size + 1 < ((w.alloc (.cells #[.int .i64 id, .int .i64 tn, .slice ca cs.length ccap, .slice oa os.length ocap] 27)).alloc (.cells #[.int .i64 rid, .slice va xs.length vcap] 36)).heap.size) := Lib.hid (by simp)
  have HB0 := Lib.hid hb0
  have HC := Lib.hid (condsR_below h hb0)
  have HO := Lib.hid (ints_below g hb0)
  have HX := Lib.hid (ints_below gr hb0)
  have HR := Lib.hid (fun w h => specIsRow rid (.slice va xs.length vcap) xs w h hx)
  have HQ := Lib.hid (fun w h g => specIsQuery id tn (.slice ca cs.length ccap) (.slice oa os.length ocap) cs os w h hn g hm)
  have HCD := Lib.hid (fun (k : Nat) (hk : k < cs.length) => query_conds hq hk)
  have HLN := Lib.hid (row_len hr)
  simp only at HLN
  have HFB : Hid (∀ b, cs.all (okC xs) = b → matchB id tn cs os (rid, xs) = b) := Lib.hid (fun b h => by unfold matchB; rw [hr, hq, h]; simp)
  rw [hr] at HR
  rw [hq] at HQ
  clear hr hq
  clear h g hm gr hx hb0
  go_enter Tryz.func19, Tryz.ntmps19
  go_wp2
  generalize ((w.alloc (.cells #[.int .i64 id, .int .i64 tn, .slice ca cs.length ccap, .slice oa os.length ocap] 27)).alloc (.cells #[.int .i64 rid, .slice va xs.length vcap] 36)) = W at *
  go_loopw [5] (fun i wr => ∃ k : Nat, k ≤ cs.length ∧ i = .int .i64 k ∧ Hid (∀ j, j < k → okC xs (cs.getD j c0D) = true) ∧ Below W.heap.size W wr) (fun i _ => cs.length - (intOf i).toNat)
  case atStart => exact ⟨0, Nat.zero_le _, rfl, Lib.hid (fun j hj => by omega), Below.refl _ _⟩
  case round =>
    obtain ⟨k, hk, rfl, hall, hbel⟩ := hrel
    obtain ⟨p0, p1, p2, p3, r0, r1⟩ := qr_boxes HG0.out HG1.out HZ.out hbel
    by_cases hlt : k < cs.length
    · have i1 : (0 : Int) ≤ (k : Int) := by omega
      have i2 : (k : Int) < (cs.length : Int) := by omega
      go_wp2_with fail
      refine (HR.out _ (ints_below HX.out hbel)).mono ?_
      rintro e u1 ⟨rfl, bu1⟩
      have cu1 := hbel.trans (bu1.mono hbel.size)
      clear p0 p1 p2 p3 r0 r1 bu1
      obtain ⟨p0, p1, p2, p3, r0, r1⟩ := qr_boxes HG0.out HG1.out HZ.out cu1
      go_wp2_with fail
      refine (HQ.out _ (condsR_below HC.out cu1) (ints_below HO.out cu1)).mono ?_
      rintro e u2 ⟨rfl, bu2⟩
      have cu2 := cu1.trans (bu2.mono cu1.size)
      clear p0 p1 p2 p3 r0 r1 bu2
      obtain ⟨p0, p1, p2, p3, r0, r1⟩ := qr_boxes HG0.out HG1.out HZ.out cu2
      obtain ⟨bc, offc, capc, hvc, hblc, d1, d2, d3⟩ := condsR_at (condsR_below HC.out cu2) hlt
      simp only [Value.slice.injEq] at hvc
      obtain ⟨rfl, _, rfl⟩ := hvc
      have hcd := HCD.out k hlt
      have hok : okC xs (cs.getD k c0D) = true → Hid (∀ j, j < k + 1 → okC xs (cs.getD j c0D) = true) := fun h => Lib.hid (fun j hj => by
        by_cases e : j = k
        · subst e; exact h
        · exact hall.out j (by omega))
      have hno : okC xs (cs.getD k c0D) = false → Hid (matchB id tn cs os (rid, xs) = false) := fun h => Lib.hid (HFB.out _ (all_bad hlt h))
      have HOK := Lib.hid hok
      have HNO := Lib.hid hno
      clear hok hno hall cu1 hbel
      generalize cs.getD k c0D = c at *
      obtain ⟨f, lo, hi⟩ := c
      simp only at d1 d2 d3 hcd
      obtain ⟨fn, rfl⟩ := Int.eq_ofNat_of_zero_le hcd.1
      have hfn : fn < xs.length := by have := HLN.out; omega
      obtain ⟨bx, offx, capx, hvx, hblx, hcx⟩ := ints_cell (ints_below HX.out cu2) (by omega)
      simp only [Value.slice.injEq] at hvx
      obtain ⟨rfl, _, rfl⟩ := hvx
      have x0 := hcx fn hfn
      have j1 : (0 : Int) ≤ (fn : Int) := by omega
      have j2 : (fn : Int) < (xs.length : Int) := by omega
      have ho : okC xs ((fn : Int), lo, hi) = decide (lo ≤ xs.getD fn 0 ∧ xs.getD fn 0 ≤ hi) := by unfold okC; simp
      rw [ho] at HOK HNO
      clear hcx ho hcd
      generalize xs.getD fn 0 = x at *
      have hal : Below u2.heap.size u2 (u2.alloc (.cells #[.int .i64 (fn : Int), .int .i64 lo, .int .i64 hi] 67)) := (Below.refl _ _).alloc (Nat.le_refl _) _
      have g3 := heap_alloc_new u2 (.cells #[.int .i64 (fn : Int), .int .i64 lo, .int .i64 hi] 67)
      go_wp2
      generalize u2.alloc (.cells #[.int .i64 (fn : Int), .int .i64 lo, .int .i64 hi] 67) = W3 at *
      have c3 := cu2.trans (hal.mono cu2.size)
      have x3 := (hal.cell (p := ⟨bx, offx + fn, none⟩) hblx).trans x0
      have e0 := (cell_of_row W3 _ 0 _ _ _ g3).trans (show _ = some (Value.int .i64 (fn : Int)) from rfl)
      have e1 := (cell_of_row W3 _ 1 _ _ _ g3).trans (show _ = some (Value.int .i64 lo) from rfl)
      have e2 := (cell_of_row W3 _ 2 _ _ _ g3).trans (show _ = some (Value.int .i64 hi) from rfl)
      clear p0 p1 p2 p3 r0 r1 x0 d1 d2 d3 hal cu2 g3
      obtain ⟨p0, p1, p2, p3, r0, r1⟩ := qr_boxes HG0.out HG1.out HZ.out c3
      by_cases hin : lo ≤ x ∧ x ≤ hi
      · have HA := HOK.out (decide_eq_true hin)
        have HIN := Lib.hid (fun w => in_yes x lo hi w hin.1 hin.2)
        clear HOK HNO hin
        refine wp_region_held_drew (S := fun w' => w'.cell? ⟨w.heap.size + 1, 1, none⟩ = some (.slice (some ⟨bx, offx, none⟩) xs.length vcap) ∧ w'.cell? ⟨u2.heap.size, 0, none⟩ = some (.int .i64 (fn : Int)) ∧ w'.cell? ⟨u2.heap.size, 1, none⟩ = some (.int .i64 lo) ∧ w'.cell? ⟨u2.heap.size, 2, none⟩ = some (.int .i64 hi) ∧ w'.cell? ⟨bx, offx + fn, none⟩ = some (.int .i64 x)) (by kernel_rfl) ⟨r1, e0, e1, e2, x3⟩ (fun hHeld => ?_)
        refine take_runs (i := 0) (v := ?_) (by simp only [List.getElem?_toArray, List.getElem?_cons_succ, List.getElem?_cons_zero]; rfl) (by kernel_rfl) (by kernel_rfl) (by kernel_rfl) rfl (by exact fun _ _ _ h => h) (by rfl) ?_ (by assumption) ?_
        rotate_left
        · intro w hSw; (try dsimp only at hSw); go_simp; try (with_reducible rfl)
        try simp only [Act.put, List.setIfInBounds_toArray, List.set_cons_zero, List.set_cons_succ]
        refine take_runs (i := 1) (v := ?_) (by simp only [List.getElem?_toArray, List.getElem?_cons_succ, List.getElem?_cons_zero]; rfl) (by kernel_rfl) (by kernel_rfl) (by kernel_rfl) rfl (by exact fun _ _ _ h => h) (by rfl) ?_ (by assumption) ?_
        rotate_left
        · intro w hSw; (try dsimp only at hSw); go_simp; try (with_reducible rfl)
        try simp only [Act.put, List.setIfInBounds_toArray, List.set_cons_zero, List.set_cons_succ]
        refine take_runs (i := 2) (v := ?_) (by simp only [List.getElem?_toArray, List.getElem?_cons_succ, List.getElem?_cons_zero]; rfl) (by kernel_rfl) (by kernel_rfl) (by kernel_rfl) rfl (by exact fun _ _ _ h => h) (by rfl) ?_ (by assumption) ?_
        rotate_left
        · intro w hSw; (try dsimp only at hSw); go_simp; try (with_reducible rfl)
        try simp only [Act.put, List.setIfInBounds_toArray, List.set_cons_zero, List.set_cons_succ]
        refine take_runs (i := 3) (v := ?_) (by simp only [List.getElem?_toArray, List.getElem?_cons_succ, List.getElem?_cons_zero]; rfl) (by kernel_rfl) (by kernel_rfl) (by kernel_rfl) rfl (by exact fun _ _ _ h => h) (by rfl) ?_ (by assumption) ?_
        rotate_left
        · intro w hSw; (try dsimp only at hSw); go_simp; try (with_reducible rfl)
        try simp only [Act.put, List.setIfInBounds_toArray, List.set_cons_zero, List.set_cons_succ]
        refine take_runs (i := 4) (v := ?_) (by simp only [List.getElem?_toArray, List.getElem?_cons_succ, List.getElem?_cons_zero]; rfl) (by kernel_rfl) (by kernel_rfl) (by kernel_rfl) rfl (by exact fun _ _ _ h => h) (by rfl) ?_ (by assumption) ?_
        rotate_left
        · intro w hSw; (try dsimp only at hSw); go_simp; try (with_reducible rfl)
        try simp only [Act.put, List.setIfInBounds_toArray, List.set_cons_zero, List.set_cons_succ]
        refine take_runs (i := 5) (v := ?_) (by simp only [List.getElem?_toArray, List.getElem?_cons_succ, List.getElem?_cons_zero]; rfl) (by kernel_rfl) (by kernel_rfl) (by kernel_rfl) rfl (by exact fun _ _ _ h => h) (by rfl) ?_ (by assumption) ?_
        rotate_left
        · intro w hSw; (try dsimp only at hSw); go_simp; try (with_reducible rfl)
        try simp only [Act.put, List.setIfInBounds_toArray, List.set_cons_zero, List.set_cons_succ]
        refine take_runs (i := 6) (v := ?_) (by simp only [List.getElem?_toArray, List.getElem?_cons_succ, List.getElem?_cons_zero]; rfl) (by kernel_rfl) (by kernel_rfl) (by kernel_rfl) rfl (by exact fun _ _ _ h => h) (by rfl) ?_ (by assumption) ?_
        rotate_left
        · intro w hSw; (try dsimp only at hSw); go_simp; try (with_reducible rfl)
        try simp only [Act.put, List.setIfInBounds_toArray, List.set_cons_zero, List.set_cons_succ]
        refine take_runs (i := 7) (v := ?_) (by simp only [List.getElem?_toArray, List.getElem?_cons_succ, List.getElem?_cons_zero]; rfl) (by kernel_rfl) (by kernel_rfl) (by kernel_rfl) rfl (by exact fun _ _ _ h => h) (by rfl) ?_ (by assumption) ?_
        rotate_left
        · intro w hSw; (try dsimp only at hSw); go_simp; try (with_reducible rfl)
        try simp only [Act.put, List.setIfInBounds_toArray, List.set_cons_zero, List.set_cons_succ]
        refine take_runs (i := 8) (v := ?_) (by simp only [List.getElem?_toArray, List.getElem?_cons_succ, List.getElem?_cons_zero]; rfl) (by kernel_rfl) (by kernel_rfl) (by kernel_rfl) rfl (by exact fun _ _ _ h => h) (by rfl) ?_ (by assumption) ?_
        rotate_left
        · intro w hSw; (try dsimp only at hSw); go_simp; try (with_reducible rfl)
        try simp only [Act.put, List.setIfInBounds_toArray, List.set_cons_zero, List.set_cons_succ]
        refine take_runs (i := 9) (v := ?_) (by simp only [List.getElem?_toArray, List.getElem?_cons_succ, List.getElem?_cons_zero]; rfl) (by kernel_rfl) (by kernel_rfl) (by kernel_rfl) rfl (by exact fun _ _ _ h => h) (by rfl) ?_ (by assumption) ?_
        rotate_left
        · intro w hSw; (try dsimp only at hSw); go_simp; try (with_reducible rfl)
        try simp only [Act.put, List.setIfInBounds_toArray, List.set_cons_zero, List.set_cons_succ]
        refine wpAnyH_ready (rs := [10]) (by kernel_rfl) (by simp) ?_
        refine AllReadyH.cons (o := _) (by simp only [List.getElem?_toArray, List.getElem?_cons_succ, List.getElem?_cons_zero]; rfl) (fun K hK => ?_) AllReadyH.nil
        go_simp
        refine (HIN.out _).mono ?_
        rintro e w8 ⟨rfl, rfl⟩
        refine hK.out _ _ ⟨r1, e0, e1, e2, x3⟩ (fun hHeld => ?_)
        clear hK K
        try simp only [Act.put, List.setIfInBounds_toArray, List.set_cons_zero, List.set_cons_succ]
        refine take_runs (i := 11) (v := ?_) (by simp only [List.getElem?_toArray, List.getElem?_cons_succ, List.getElem?_cons_zero]; rfl) (by kernel_rfl) (by kernel_rfl) (by kernel_rfl) rfl (by exact fun _ _ _ h => h) (by rfl) ?_ (by assumption) ?_
        rotate_left
        · intro w hSw; (try dsimp only at hSw); go_simp; try (with_reducible rfl)
        try simp only [Act.put, List.setIfInBounds_toArray, List.set_cons_zero, List.set_cons_succ]
        refine wpAnyH_done (by kernel_rfl) ?_ _
        have c4 : Below W.heap.size W W3.drew := below_drew c3
        clear hHeld
        go_wp2
        go_roundw
        case rel => exact ⟨k + 1, by omega, by go_num, HA, c4⟩
        case measure => simp [intOf]; omega
      · have HF := HNO.out (decide_eq_false hin)
        have HIN := Lib.hid (fun w => in_no x lo hi w hin)
        clear HOK HNO hin
        refine wp_region_held_drew (S := fun w' => w'.cell? ⟨w.heap.size + 1, 1, none⟩ = some (.slice (some ⟨bx, offx, none⟩) xs.length vcap) ∧ w'.cell? ⟨u2.heap.size, 0, none⟩ = some (.int .i64 (fn : Int)) ∧ w'.cell? ⟨u2.heap.size, 1, none⟩ = some (.int .i64 lo) ∧ w'.cell? ⟨u2.heap.size, 2, none⟩ = some (.int .i64 hi) ∧ w'.cell? ⟨bx, offx + fn, none⟩ = some (.int .i64 x)) (by kernel_rfl) ⟨r1, e0, e1, e2, x3⟩ (fun hHeld => ?_)
        refine take_runs (i := 0) (v := ?_) (by simp only [List.getElem?_toArray, List.getElem?_cons_succ, List.getElem?_cons_zero]; rfl) (by kernel_rfl) (by kernel_rfl) (by kernel_rfl) rfl (by exact fun _ _ _ h => h) (by rfl) ?_ (by assumption) ?_
        rotate_left
        · intro w hSw; (try dsimp only at hSw); go_simp; try (with_reducible rfl)
        try simp only [Act.put, List.setIfInBounds_toArray, List.set_cons_zero, List.set_cons_succ]
        refine take_runs (i := 1) (v := ?_) (by simp only [List.getElem?_toArray, List.getElem?_cons_succ, List.getElem?_cons_zero]; rfl) (by kernel_rfl) (by kernel_rfl) (by kernel_rfl) rfl (by exact fun _ _ _ h => h) (by rfl) ?_ (by assumption) ?_
        rotate_left
        · intro w hSw; (try dsimp only at hSw); go_simp; try (with_reducible rfl)
        try simp only [Act.put, List.setIfInBounds_toArray, List.set_cons_zero, List.set_cons_succ]
        refine take_runs (i := 2) (v := ?_) (by simp only [List.getElem?_toArray, List.getElem?_cons_succ, List.getElem?_cons_zero]; rfl) (by kernel_rfl) (by kernel_rfl) (by kernel_rfl) rfl (by exact fun _ _ _ h => h) (by rfl) ?_ (by assumption) ?_
        rotate_left
        · intro w hSw; (try dsimp only at hSw); go_simp; try (with_reducible rfl)
        try simp only [Act.put, List.setIfInBounds_toArray, List.set_cons_zero, List.set_cons_succ]
        refine take_runs (i := 3) (v := ?_) (by simp only [List.getElem?_toArray, List.getElem?_cons_succ, List.getElem?_cons_zero]; rfl) (by kernel_rfl) (by kernel_rfl) (by kernel_rfl) rfl (by exact fun _ _ _ h => h) (by rfl) ?_ (by assumption) ?_
        rotate_left
        · intro w hSw; (try dsimp only at hSw); go_simp; try (with_reducible rfl)
        try simp only [Act.put, List.setIfInBounds_toArray, List.set_cons_zero, List.set_cons_succ]
        refine take_runs (i := 4) (v := ?_) (by simp only [List.getElem?_toArray, List.getElem?_cons_succ, List.getElem?_cons_zero]; rfl) (by kernel_rfl) (by kernel_rfl) (by kernel_rfl) rfl (by exact fun _ _ _ h => h) (by rfl) ?_ (by assumption) ?_
        rotate_left
        · intro w hSw; (try dsimp only at hSw); go_simp; try (with_reducible rfl)
        try simp only [Act.put, List.setIfInBounds_toArray, List.set_cons_zero, List.set_cons_succ]
        refine take_runs (i := 5) (v := ?_) (by simp only [List.getElem?_toArray, List.getElem?_cons_succ, List.getElem?_cons_zero]; rfl) (by kernel_rfl) (by kernel_rfl) (by kernel_rfl) rfl (by exact fun _ _ _ h => h) (by rfl) ?_ (by assumption) ?_
        rotate_left
        · intro w hSw; (try dsimp only at hSw); go_simp; try (with_reducible rfl)
        try simp only [Act.put, List.setIfInBounds_toArray, List.set_cons_zero, List.set_cons_succ]
        refine take_runs (i := 6) (v := ?_) (by simp only [List.getElem?_toArray, List.getElem?_cons_succ, List.getElem?_cons_zero]; rfl) (by kernel_rfl) (by kernel_rfl) (by kernel_rfl) rfl (by exact fun _ _ _ h => h) (by rfl) ?_ (by assumption) ?_
        rotate_left
        · intro w hSw; (try dsimp only at hSw); go_simp; try (with_reducible rfl)
        try simp only [Act.put, List.setIfInBounds_toArray, List.set_cons_zero, List.set_cons_succ]
        refine take_runs (i := 7) (v := ?_) (by simp only [List.getElem?_toArray, List.getElem?_cons_succ, List.getElem?_cons_zero]; rfl) (by kernel_rfl) (by kernel_rfl) (by kernel_rfl) rfl (by exact fun _ _ _ h => h) (by rfl) ?_ (by assumption) ?_
        rotate_left
        · intro w hSw; (try dsimp only at hSw); go_simp; try (with_reducible rfl)
        try simp only [Act.put, List.setIfInBounds_toArray, List.set_cons_zero, List.set_cons_succ]
        refine take_runs (i := 8) (v := ?_) (by simp only [List.getElem?_toArray, List.getElem?_cons_succ, List.getElem?_cons_zero]; rfl) (by kernel_rfl) (by kernel_rfl) (by kernel_rfl) rfl (by exact fun _ _ _ h => h) (by rfl) ?_ (by assumption) ?_
        rotate_left
        · intro w hSw; (try dsimp only at hSw); go_simp; try (with_reducible rfl)
        try simp only [Act.put, List.setIfInBounds_toArray, List.set_cons_zero, List.set_cons_succ]
        refine take_runs (i := 9) (v := ?_) (by simp only [List.getElem?_toArray, List.getElem?_cons_succ, List.getElem?_cons_zero]; rfl) (by kernel_rfl) (by kernel_rfl) (by kernel_rfl) rfl (by exact fun _ _ _ h => h) (by rfl) ?_ (by assumption) ?_
        rotate_left
        · intro w hSw; (try dsimp only at hSw); go_simp; try (with_reducible rfl)
        try simp only [Act.put, List.setIfInBounds_toArray, List.set_cons_zero, List.set_cons_succ]
        refine wpAnyH_ready (rs := [10]) (by kernel_rfl) (by simp) ?_
        refine AllReadyH.cons (o := _) (by simp only [List.getElem?_toArray, List.getElem?_cons_succ, List.getElem?_cons_zero]; rfl) (fun K hK => ?_) AllReadyH.nil
        go_simp
        refine (HIN.out _).mono ?_
        rintro e w8 ⟨rfl, rfl⟩
        refine hK.out _ _ ⟨r1, e0, e1, e2, x3⟩ (fun hHeld => ?_)
        clear hK K
        try simp only [Act.put, List.setIfInBounds_toArray, List.set_cons_zero, List.set_cons_succ]
        refine take_runs (i := 11) (v := ?_) (by simp only [List.getElem?_toArray, List.getElem?_cons_succ, List.getElem?_cons_zero]; rfl) (by kernel_rfl) (by kernel_rfl) (by kernel_rfl) rfl (by exact fun _ _ _ h => h) (by rfl) ?_ (by assumption) ?_
        rotate_left
        · intro w hSw; (try dsimp only at hSw); go_simp; try (with_reducible rfl)
        try simp only [Act.put, List.setIfInBounds_toArray, List.set_cons_zero, List.set_cons_succ]
        refine wpAnyH_done (by kernel_rfl) ?_ _
        have c4 : Below W.heap.size W W3.drew := below_drew c3
        clear hHeld
        go_wp2
        go_ret
        exact ⟨ret_b HF.out.symm, HB0.out.trans (c4.mono HB0.out.size)⟩
    · obtain rfl : k = cs.length := by omega
      have HF := Lib.hid (HFB.out _ (all_ok hall.out))
      clear hall
      have i2 : ¬ (cs.length : Int) < (cs.length : Int) := by omega
      go_wp2_with fail
      refine (HR.out _ (ints_below HX.out hbel)).mono ?_
      rintro e u3 ⟨rfl, bu3⟩
      have cu3 := hbel.trans (bu3.mono hbel.size)
      clear p0 p1 p2 p3 r0 r1 bu3
      obtain ⟨p0, p1, p2, p3, r0, r1⟩ := qr_boxes HG0.out HG1.out HZ.out cu3
      go_wp2_with fail
      refine (HQ.out _ (condsR_below HC.out cu3) (ints_below HO.out cu3)).mono ?_
      rintro e u4 ⟨rfl, bu4⟩
      have cu4 := cu3.trans (bu4.mono cu3.size)
      clear p0 p1 p2 p3 r0 r1 bu4
      obtain ⟨p0, p1, p2, p3, r0, r1⟩ := qr_boxes HG0.out HG1.out HZ.out cu4
      go_wp2
      go_ret
      exact ⟨ret_b HF.out.symm, HB0.out.trans (cu4.mono HB0.out.size)⟩
theorem specMatchesRow (id tn rid : Int) (cv ov vv : Value) (cs : List CondD) (os xs : List Int) (w : World) (h : CondsR w cv cs) (hn : cs.length ≤ 1048576) (g : Ints w ov os) (hm : os.length ≤ 1048576) (gr : Ints w vv xs) (hx : xs.length ≤ 1048576) :
    Calls Tryz.prog 19 #[qV id tn cv ov, .agg #[.int .i64 rid, vv]] w fun e w' => e = .returned (.bool (matchB id tn cs os (rid, xs))) ∧ Below w.heap.size w w' := by
  cases hr : rowB (rid, xs) with
  | false => exact specMatch_noRow id tn rid cv ov vv cs os xs w h hn g hm gr hx hr
  | true =>
    cases hq : queryB id tn cs os with
    | false => exact specMatch_noQuery id tn rid cv ov vv cs os xs w h hn g hm gr hx hr hq
    | true => exact specMatch_both id tn rid cv ov vv cs os xs w h hn g hm gr hx hr hq
end Go.Proofs.YteelgogfpidcdaaGreatDoor
namespace Go.Proofs.YteelgogfpidcdaaGreatDoor
open Go.RowKit
set_option linter.unusedVariables false
set_option linter.unusedSimpArgs false
def answerL (m : RowD → Bool) (rs : List RowD) : List RowD := sortL (rs.filter m)
/-- A row in new memory is appended to a slice of rows that the call made. -/
theorem append_owns {w1 w2 w3 : World} {B D : Nat} {v v' vv : Value} {rs : List RowD} {vs : Nat → Value} {cs : List Value} {r : RowD}
    (h1 : w1.ownsRow B 36 2 v rs.length cs)
    (h2 : ∀ j, j < rs.length → cs[j * 2]? = some (.int .i64 (rs.getD j (0, [])).1) ∧ cs[j * 2 + 1]? = some (vs j) ∧ OwnsN w1 B (vs j) (rs.getD j (0, [])).2 ∧ ∀ b, (vs j).ownBlock = some b → v.ownBlock ≠ some b)
    (h3 : ∀ i j, i < rs.length → j < rs.length → i ≠ j → ∀ b, (vs i).ownBlock = some b → (vs j).ownBlock ≠ some b)
    (hlow : ∀ j, j < rs.length → ∀ b, (vs j).ownBlock = some b → b < D) (hvlow : ∀ b, v.ownBlock = some b → b < D) (hBD : B ≤ D) (hv : OwnsN w1 D vv r.2)
    (h12 : Below w1.heap.size w1 w2) (hg : w2.grownBy w3 v.ownBlock) (hx : RowsC w3 B v' (rs.length + 1) (cs ++ [.int .i64 r.1, vv])) (hat : v'.ownBlock = v.ownBlock ∨ v'.ownBlock = some w2.heap.size) : OwnsR w3 B v' (rs ++ [r]) := by
  have hcl : cs.length = rs.length * 2 := h1.1
  have hlen : (rs ++ [r]).length = rs.length + 1 := by simp
  have old : ∀ j, j < rs.length → OwnsN w3 B (vs j) (rs.getD j (0, [])).2 := fun j hj => by
    refine World.ownsRow.kept (ownsN_below (h2 j hj).2.2.1 h12) hg ?_
    cases e : (vs j).ownBlock with
    | none => exact Or.inl rfl
    | some b => exact Or.inr (fun q => (h2 j hj).2.2.2 b e q.symm)
  have new : OwnsN w3 D vv r.2 := by
    refine World.ownsRow.kept (ownsN_below hv h12) hg ?_
    cases e : vv.ownBlock with
    | none => exact Or.inl rfl
    | some b => exact Or.inr (fun q => by have := hvlow b q.symm; have := (hv.lt b e).1; omega)
  have lt1 : ∀ j, j < rs.length → ∀ b, (vs j).ownBlock = some b → b < w2.heap.size := fun j hj b e => Nat.lt_of_lt_of_le ((h2 j hj).2.2.1.lt b e).2 h12.size
  have lt2 : ∀ b, vv.ownBlock = some b → b < w2.heap.size := fun b e => Nat.lt_of_lt_of_le (hv.lt b e).2 h12.size
  have get_old : ∀ j, j < rs.length → (rs ++ [r]).getD j (0, []) = rs.getD j (0, []) := fun j hj => by simp [List.getD, List.getElem?_append_left hj]
  have get_new : (rs ++ [r]).getD rs.length (0, []) = r := by simp [List.getD]
  refine ⟨cs ++ [.int .i64 r.1, vv], fun j => if j < rs.length then vs j else vv, by rw [hlen]; exact hx, fun j hj => ?_, fun i j hi hj hij b hb => ?_⟩
  · rw [hlen] at hj
    by_cases c : j < rs.length
    · simp only [if_pos c]
      obtain ⟨g1, g2, _, g4⟩ := h2 j c
      rw [get_old j c, List.getElem?_append_left (by omega), List.getElem?_append_left (by omega)]
      refine ⟨g1, g2, old j c, fun b e q => ?_⟩
      rcases hat with h | h
      · rw [h] at q; exact g4 b e q
      · rw [h] at q; have := lt1 j c b e; have := Option.some.inj q; omega
    · obtain rfl : j = rs.length := by omega
      simp only [if_neg c]
      rw [get_new, List.getElem?_append_right (by omega), List.getElem?_append_right (by omega), show rs.length * 2 - cs.length = 0 by omega, show rs.length * 2 + 1 - cs.length = 1 by omega]
      refine ⟨rfl, rfl, ownsN_up new hBD, fun b e q => ?_⟩
      rcases hat with h | h
      · rw [h] at q; have := hvlow b q; have := (hv.lt b e).1; omega
      · rw [h] at q; have := lt2 b e; have := Option.some.inj q; omega
  · rw [hlen] at hi hj
    by_cases ci : i < rs.length
    · by_cases cj : j < rs.length
      · simp only [if_pos ci, if_pos cj] at hb ⊢
        exact h3 i j ci cj hij b hb
      · simp only [if_pos ci, if_neg cj] at hb ⊢
        intro q
        have := hlow i ci b hb
        have := (hv.lt b q).1
        omega
    · have cj : j < rs.length := by omega
      simp only [if_neg ci, if_pos cj] at hb ⊢
      intro q
      have := hlow j cj b q
      have := (hv.lt b hb).1
      omega
theorem szL_filter (m : RowD → Bool) : ∀ rs : List RowD, szL (rs.filter m) ≤ szL rs
  | [] => Nat.le_refl _
  | r :: rs => by
    have ih := szL_filter m rs
    have e : ∀ (a : RowD) (l : List RowD), szL (a :: l) = szL l + 1 + a.2.length := fun a l => by
      unfold szL szTo
      rw [List.take_length, List.take_length]
      simp only [List.map_cons, List.sum_cons, List.length_cons]
      omega
    rw [List.filter_cons]
    split
    · rw [e, e]; omega
    · rw [e]; omega
theorem filter_yes {m : RowD → Bool} {rs : List RowD} {k : Nat} (hk : k < rs.length) (h : m (rs.getD k (0, [])) = true) : (rs.take k).filter m ++ [rs.getD k (0, [])] = (rs.take (k + 1)).filter m := by
  rw [List.take_succ_eq_append_getElem hk, List.filter_append]
  have e : rs.getD k (0, []) = rs[k] := by simp [List.getD, hk]
  rw [e] at h ⊢
  simp [List.filter_cons, h]
theorem filter_no {m : RowD → Bool} {rs : List RowD} {k : Nat} (hk : k < rs.length) (h : m (rs.getD k (0, [])) = false) : (rs.take k).filter m = (rs.take (k + 1)).filter m := by
  rw [List.take_succ_eq_append_getElem hk, List.filter_append]
  have e : rs.getD k (0, []) = rs[k] := by simp [List.getD, hk]
  rw [e] at h
  simp [List.filter_cons, h]
set_option maxHeartbeats 16000000 in
set_option maxRecDepth 100000 in
theorem specAnswer (id tn : Int) (cv ov v : Value) (cs : List CondD) (os : List Int) (rs : List RowD) (w : World) (h : CondsR w cv cs) (hn : cs.length ≤ 1048576) (g : Ints w ov os) (hm : os.length ≤ 1048576) (gr : RowsR w v rs) (hs : szL rs ≤ 1048576) :
    Calls Tryz.prog 8 #[qV id tn cv ov, v] w (FreshRows w (answerL (matchB id tn cs os) rs)) := by
  obtain ⟨ca, ccap, rfl⟩ := condsR_len h
  obtain ⟨oa, ocap, rfl⟩ := ints_len g
  have HLEN := Lib.hid (szL_len hs)
  obtain ⟨ra, rcap, rfl⟩ := rowsR_len gr
  have hb0 : Below w.heap.size w (w.alloc (.cells #[.int .i64 id, .int .i64 tn, .slice ca cs.length ccap, .slice oa os.length ocap] 27)) := (Below.refl _ w).alloc (Nat.le_refl _) _
  have HG0 := Lib.hid (heap_alloc_new w (.cells #[.int .i64 id, .int .i64 tn, .slice ca cs.length ccap, .slice oa os.length ocap] 27))
  have HZ : Hid (w.heap.size < (w.alloc (.cells #[.int .i64 id, .int .i64 tn, .slice ca cs.length ccap, .slice oa os.length ocap] 27)).heap.size) := Lib.hid (by simp)
  have HS1 : Hid ((w.alloc (.cells #[.int .i64 id, .int .i64 tn, .slice ca cs.length ccap, .slice oa os.length ocap] 27)).heap.size = w.heap.size + 1) := Lib.hid (by simp)
  have HB0 := Lib.hid hb0
  have HC := Lib.hid (condsR_below h hb0)
  have HO := Lib.hid (ints_below g hb0)
  have HRW := Lib.hid (rowsR_below gr hb0)
  have HSZ := Lib.hid hs
  have HMT := Lib.hid (fun rid vv xs w h g gr hx => specMatchesRow id tn rid (.slice ca cs.length ccap) (.slice oa os.length ocap) vv cs os xs w h hn g hm gr hx)
  clear h g hm gr hb0 hs
  obtain ⟨m, hmm⟩ : ∃ m, matchB id tn cs os = m := ⟨_, rfl⟩
  rw [hmm] at HMT ⊢
  clear hmm
  go_enter Tryz.func8, Tryz.ntmps8
  go_wp2
  generalize w.alloc (.cells #[.int .i64 id, .int .i64 tn, .slice ca cs.length ccap, .slice oa os.length ocap] 27) = W at *
  have hl0 : Below W.heap.size W (W.alloc (.cells #[] 36)) := (Below.refl _ _).alloc (Nat.le_refl _) _
  have ol0 : OwnsR (W.alloc (.cells #[] 36)) W.heap.size (.slice (some ⟨w.heap.size + 1, 0, none⟩) 0 0) [] := by
    have e2 : (Value.slice (some ⟨w.heap.size + 1, 0, none⟩) 0 0) = (Value.slice (some ⟨W.heap.size, 0, none⟩) 0 0) := by rw [HS1.out]
    rw [e2]; exact ownsR_empty W
  go_loopw [5, 6] (fun v i wr => ∃ k : Nat, k ≤ rs.length ∧ i = .int .i64 k ∧ OwnsR wr W.heap.size v ((rs.take k).filter m) ∧ Below W.heap.size W wr) (fun _ i _ => rs.length - (intOf i).toNat)
  case atStart => exact ⟨0, Nat.zero_le _, rfl, by rw [List.take_zero]; exact ol0, hl0⟩
  case round =>
    obtain ⟨k, hk, rfl, hown, hbel⟩ := hrel
    clear hl0 ol0
    have kq := (hbel.block w.heap.size HZ.out).trans HG0.out
    by_cases hlt : k < rs.length
    · obtain ⟨b, off, cap2, vv, hv, hbl, hc1, hc2, hI⟩ := rowsR_at (rowsR_below HRW.out hbel) hlt
      simp only [Value.slice.injEq] at hv
      obtain ⟨rfl, _, rfl⟩ := hv
      obtain ⟨va, vcap, rfl⟩ := ints_len hI
      have hxl := szL_row HSZ.out hlt
      have i1 : (0 : Int) ≤ (k : Int) := by omega
      have i2 : (k : Int) < (rs.length : Int) := by omega
      have i5 : k ≤ 1048576 := by have := HLEN.out; omega
      have HY := Lib.hid (filter_yes (m := m) hlt)
      have HN := Lib.hid (filter_no (m := m) hlt)
      have HFL : Hid (((rs.take k).filter m).length ≤ 1048576) := Lib.hid (by have := List.length_filter_le m (rs.take k); rw [List.length_take] at this; have := HLEN.out; omega)
      have HM := Lib.hid (fun w h g gr => HMT.out (rs.getD k (0, [])).1 (.slice va (rs.getD k (0, [])).2.length vcap) (rs.getD k (0, [])).2 w h g gr hxl)
      have er : (((rs.getD k (0, [])).1, (rs.getD k (0, [])).2) : RowD) = rs.getD k (0, []) := rfl
      rw [er] at HM
      clear er
      have HCPY := Lib.hid (fun w h => l3Copy_any (rs.getD k (0, [])).1 (.slice va (rs.getD k (0, [])).2.length vcap) (rs.getD k (0, [])).2 w h hxl)
      have HOW := Lib.hid hown
      have HBL := Lib.hid hbel
      have HII := Lib.hid hI
      clear hown hbel hI hxl
      have p0 := (cell_of_row wr _ 0 _ _ _ kq).trans (show _ = some (Value.int .i64 id) from rfl)
      have p1 := (cell_of_row wr _ 1 _ _ _ kq).trans (show _ = some (Value.int .i64 tn) from rfl)
      have p2 := (cell_of_row wr _ 2 _ _ _ kq).trans (show _ = some (Value.slice ca cs.length ccap) from rfl)
      have p3 := (cell_of_row wr _ 3 _ _ _ kq).trans (show _ = some (Value.slice oa os.length ocap) from rfl)
      have HKQ := Lib.hid kq
      clear kq
      generalize (rs.take k).filter m = ac at *
      generalize rs.getD k (0, []) = r at *
      obtain ⟨rid, xs⟩ := r
      simp only at hc1 hc2 HM HCPY HII
      cases hmr : m (rid, xs) with
      | false =>
        rw [hmr] at HM
        have hfn := HN.out hmr
        clear HY HN
        go_wp2
        refine wp_region_held_drew (S := fun w' => w'.cell? ⟨w.heap.size, 0, none⟩ = some (.int .i64 id) ∧ w'.cell? ⟨w.heap.size, 1, none⟩ = some (.int .i64 tn) ∧ w'.cell? ⟨w.heap.size, 2, none⟩ = some (.slice ca cs.length ccap) ∧ w'.cell? ⟨w.heap.size, 3, none⟩ = some (.slice oa os.length ocap) ∧ w'.cell? ⟨b, off + k * 2, none⟩ = some (.int .i64 rid) ∧ w'.cell? ⟨b, off + k * 2 + 1, none⟩ = some (.slice va xs.length vcap)) (by kernel_rfl) ⟨p0, p1, p2, p3, hc1, hc2⟩ (fun hHeld => ?_)
        refine take_runs (i := 0) (v := ?_) (by simp only [List.getElem?_toArray, List.getElem?_cons_succ, List.getElem?_cons_zero]; rfl) (by kernel_rfl) (by kernel_rfl) (by kernel_rfl) rfl (by exact fun _ _ _ h => h) (by rfl) ?_ (by assumption) ?_
        rotate_left
        · intro w hSw; (try dsimp only at hSw); go_simp; try (with_reducible rfl)
        try simp only [Act.put, List.setIfInBounds_toArray, List.set_cons_zero, List.set_cons_succ]
        refine take_runs (i := 1) (v := ?_) (by simp only [List.getElem?_toArray, List.getElem?_cons_succ, List.getElem?_cons_zero]; rfl) (by kernel_rfl) (by kernel_rfl) (by kernel_rfl) rfl (by exact fun _ _ _ h => h) (by rfl) ?_ (by assumption) ?_
        rotate_left
        · intro w hSw; (try dsimp only at hSw); go_simp; try (with_reducible rfl)
        try simp only [Act.put, List.setIfInBounds_toArray, List.set_cons_zero, List.set_cons_succ]
        refine take_runs (i := 2) (v := ?_) (by simp only [List.getElem?_toArray, List.getElem?_cons_succ, List.getElem?_cons_zero]; rfl) (by kernel_rfl) (by kernel_rfl) (by kernel_rfl) rfl (by exact fun _ _ _ h => h) (by rfl) ?_ (by assumption) ?_
        rotate_left
        · intro w hSw; (try dsimp only at hSw); go_simp; try (with_reducible rfl)
        try simp only [Act.put, List.setIfInBounds_toArray, List.set_cons_zero, List.set_cons_succ]
        refine take_runs (i := 3) (v := ?_) (by simp only [List.getElem?_toArray, List.getElem?_cons_succ, List.getElem?_cons_zero]; rfl) (by kernel_rfl) (by kernel_rfl) (by kernel_rfl) rfl (by exact fun _ _ _ h => h) (by rfl) ?_ (by assumption) ?_
        rotate_left
        · intro w hSw; (try dsimp only at hSw); go_simp; try (with_reducible rfl)
        try simp only [Act.put, List.setIfInBounds_toArray, List.set_cons_zero, List.set_cons_succ]
        refine take_runs (i := 4) (v := ?_) (by simp only [List.getElem?_toArray, List.getElem?_cons_succ, List.getElem?_cons_zero]; rfl) (by kernel_rfl) (by kernel_rfl) (by kernel_rfl) rfl (by exact fun _ _ _ h => h) (by rfl) ?_ (by assumption) ?_
        rotate_left
        · intro w hSw; (try dsimp only at hSw); go_simp; try (with_reducible rfl)
        try simp only [Act.put, List.setIfInBounds_toArray, List.set_cons_zero, List.set_cons_succ]
        refine wpAnyH_ready (rs := [5]) (by kernel_rfl) (by simp) ?_
        refine AllReadyH.cons (o := _) (by simp only [List.getElem?_toArray, List.getElem?_cons_succ, List.getElem?_cons_zero]; rfl) (fun K hK => ?_) AllReadyH.nil
        go_simp
        refine (HM.out _ (condsR_below HC.out (below_drew HBL.out)) (ints_below HO.out (below_drew HBL.out)) (by exact ints_heap HII.out rfl)).mono ?_
        rintro e w8 ⟨rfl, b9⟩
        have b10 : Below wr.heap.size wr w8 := ⟨b9.os, b9.tape, b9.output, b9.size, b9.block⟩
        have kq := (b10.block w.heap.size (Array.getElem?_eq_some_iff.1 HKQ.out).1).trans HKQ.out
        clear p0 p1 p2 p3
        have p0 := (cell_of_row w8 _ 0 _ _ _ kq).trans (show _ = some (Value.int .i64 id) from rfl)
        have p1 := (cell_of_row w8 _ 1 _ _ _ kq).trans (show _ = some (Value.int .i64 tn) from rfl)
        have p2 := (cell_of_row w8 _ 2 _ _ _ kq).trans (show _ = some (Value.slice ca cs.length ccap) from rfl)
        have p3 := (cell_of_row w8 _ 3 _ _ _ kq).trans (show _ = some (Value.slice oa os.length ocap) from rfl)
        have s1 := (b10.cell (p := ⟨b, off + k * 2, none⟩) hbl).trans hc1
        have s2 := (b10.cell (p := ⟨b, off + k * 2 + 1, none⟩) hbl).trans hc2
        refine hK.out _ _ ⟨p0, p1, p2, p3, s1, s2⟩ (fun hHeld => ?_)
        clear hK K
        try simp only [Act.put, List.setIfInBounds_toArray, List.set_cons_zero, List.set_cons_succ]
        refine wpAnyH_done (by kernel_rfl) ?_ _
        have c8 := HBL.out.trans (b10.mono HBL.out.size)
        have o8 := ownsR_below HOW.out b10
        have j8 := ints_below HII.out b10
        clear hHeld p0 p1 p2 p3 b9 kq hc1 hc2
        clear s1 s2
        rw [hfn] at o8
        go_wp2
        go_roundw
        case rel => exact ⟨k + 1, by omega, by go_num, o8, c8⟩
        case measure => simp [intOf]; omega
      | true =>
        rw [hmr] at HM
        have HFY := Lib.hid (HY.out hmr)
        clear HY HN
        go_wp2
        refine wp_region_held_drew (S := fun w' => w'.cell? ⟨w.heap.size, 0, none⟩ = some (.int .i64 id) ∧ w'.cell? ⟨w.heap.size, 1, none⟩ = some (.int .i64 tn) ∧ w'.cell? ⟨w.heap.size, 2, none⟩ = some (.slice ca cs.length ccap) ∧ w'.cell? ⟨w.heap.size, 3, none⟩ = some (.slice oa os.length ocap) ∧ w'.cell? ⟨b, off + k * 2, none⟩ = some (.int .i64 rid) ∧ w'.cell? ⟨b, off + k * 2 + 1, none⟩ = some (.slice va xs.length vcap)) (by kernel_rfl) ⟨p0, p1, p2, p3, hc1, hc2⟩ (fun hHeld => ?_)
        refine take_runs (i := 0) (v := ?_) (by simp only [List.getElem?_toArray, List.getElem?_cons_succ, List.getElem?_cons_zero]; rfl) (by kernel_rfl) (by kernel_rfl) (by kernel_rfl) rfl (by exact fun _ _ _ h => h) (by rfl) ?_ (by assumption) ?_
        rotate_left
        · intro w hSw; (try dsimp only at hSw); go_simp; try (with_reducible rfl)
        try simp only [Act.put, List.setIfInBounds_toArray, List.set_cons_zero, List.set_cons_succ]
        refine take_runs (i := 1) (v := ?_) (by simp only [List.getElem?_toArray, List.getElem?_cons_succ, List.getElem?_cons_zero]; rfl) (by kernel_rfl) (by kernel_rfl) (by kernel_rfl) rfl (by exact fun _ _ _ h => h) (by rfl) ?_ (by assumption) ?_
        rotate_left
        · intro w hSw; (try dsimp only at hSw); go_simp; try (with_reducible rfl)
        try simp only [Act.put, List.setIfInBounds_toArray, List.set_cons_zero, List.set_cons_succ]
        refine take_runs (i := 2) (v := ?_) (by simp only [List.getElem?_toArray, List.getElem?_cons_succ, List.getElem?_cons_zero]; rfl) (by kernel_rfl) (by kernel_rfl) (by kernel_rfl) rfl (by exact fun _ _ _ h => h) (by rfl) ?_ (by assumption) ?_
        rotate_left
        · intro w hSw; (try dsimp only at hSw); go_simp; try (with_reducible rfl)
        try simp only [Act.put, List.setIfInBounds_toArray, List.set_cons_zero, List.set_cons_succ]
        refine take_runs (i := 3) (v := ?_) (by simp only [List.getElem?_toArray, List.getElem?_cons_succ, List.getElem?_cons_zero]; rfl) (by kernel_rfl) (by kernel_rfl) (by kernel_rfl) rfl (by exact fun _ _ _ h => h) (by rfl) ?_ (by assumption) ?_
        rotate_left
        · intro w hSw; (try dsimp only at hSw); go_simp; try (with_reducible rfl)
        try simp only [Act.put, List.setIfInBounds_toArray, List.set_cons_zero, List.set_cons_succ]
        refine take_runs (i := 4) (v := ?_) (by simp only [List.getElem?_toArray, List.getElem?_cons_succ, List.getElem?_cons_zero]; rfl) (by kernel_rfl) (by kernel_rfl) (by kernel_rfl) rfl (by exact fun _ _ _ h => h) (by rfl) ?_ (by assumption) ?_
        rotate_left
        · intro w hSw; (try dsimp only at hSw); go_simp; try (with_reducible rfl)
        try simp only [Act.put, List.setIfInBounds_toArray, List.set_cons_zero, List.set_cons_succ]
        refine wpAnyH_ready (rs := [5]) (by kernel_rfl) (by simp) ?_
        refine AllReadyH.cons (o := _) (by simp only [List.getElem?_toArray, List.getElem?_cons_succ, List.getElem?_cons_zero]; rfl) (fun K hK => ?_) AllReadyH.nil
        go_simp
        refine (HM.out _ (condsR_below HC.out (below_drew HBL.out)) (ints_below HO.out (below_drew HBL.out)) (by exact ints_heap HII.out rfl)).mono ?_
        rintro e w8 ⟨rfl, b9⟩
        have b10 : Below wr.heap.size wr w8 := ⟨b9.os, b9.tape, b9.output, b9.size, b9.block⟩
        have kq := (b10.block w.heap.size (Array.getElem?_eq_some_iff.1 HKQ.out).1).trans HKQ.out
        clear p0 p1 p2 p3
        have p0 := (cell_of_row w8 _ 0 _ _ _ kq).trans (show _ = some (Value.int .i64 id) from rfl)
        have p1 := (cell_of_row w8 _ 1 _ _ _ kq).trans (show _ = some (Value.int .i64 tn) from rfl)
        have p2 := (cell_of_row w8 _ 2 _ _ _ kq).trans (show _ = some (Value.slice ca cs.length ccap) from rfl)
        have p3 := (cell_of_row w8 _ 3 _ _ _ kq).trans (show _ = some (Value.slice oa os.length ocap) from rfl)
        have s1 := (b10.cell (p := ⟨b, off + k * 2, none⟩) hbl).trans hc1
        have s2 := (b10.cell (p := ⟨b, off + k * 2 + 1, none⟩) hbl).trans hc2
        refine hK.out _ _ ⟨p0, p1, p2, p3, s1, s2⟩ (fun hHeld => ?_)
        clear hK K
        try simp only [Act.put, List.setIfInBounds_toArray, List.set_cons_zero, List.set_cons_succ]
        refine wpAnyH_done (by kernel_rfl) ?_ _
        have c8 := HBL.out.trans (b10.mono HBL.out.size)
        have o8 := ownsR_below HOW.out b10
        have j8 := ints_below HII.out b10
        clear hHeld p0 p1 p2 p3 b9 kq hc1 hc2
        have HO8 := Lib.hid o8
        have HC8 := Lib.hid c8
        clear o8 c8 b10
        go_wp2_with fail
        refine (HCPY.out _ j8).mono ?_
        rintro e w9 ⟨uu, rfl, oV, bC⟩
        obtain ⟨ua, uc, rfl⟩ := ints_len (ownsN_ints oV)
        simp only at oV
        obtain ⟨rcs, vs, h1, h2, h3⟩ := HO8.out
        have hl1 : ∀ j, j < ac.length → ∀ q, (vs j).ownBlock = some q → q < w8.heap.size := fun j hj q e => ((h2 j hj).2.2.1.lt q e).2
        have hl2 : ∀ q, _ := fun q e => (h1.lt q e).2
        have H1 := Lib.hid (ownsRow_below h1 bC)
        have H2 := Lib.hid (fun (j : Nat) (hj : j < ac.length) => (⟨(h2 j hj).1, (h2 j hj).2.1, ownsN_below (h2 j hj).2.2.1 bC, (h2 j hj).2.2.2⟩ : _ ∧ _ ∧ _ ∧ _))
        have H3 := Lib.hid h3
        have HL1 := Lib.hid hl1
        have HL2 := Lib.hid hl2
        have HOV := Lib.hid oV
        have HC9 := Lib.hid (HC8.out.trans (bC.mono HC8.out.size))
        clear s1 s2 h1 h2 h3 hl1 hl2 oV bC j8
        have hal : Below w9.heap.size w9 (w9.alloc (.cells #[.int .i64 rid, .slice ua xs.length uc] 36)) := (Below.refl _ _).alloc (Nat.le_refl _) _
        have HAL := Lib.hid hal
        have HCA := Lib.hid (HC9.out.trans (hal.mono HC9.out.size))
        have oX : RowsC (w9.alloc (.cells #[.int .i64 rid, .slice ua xs.length uc] 36)) W.heap.size _ ac.length rcs := rowsC_kept H1.out hal
        clear hal
        go_wp2_with (at_builtin; refine append_rows rfl (.tmp 20) (.tmp 26) rfl W.heap.size _ _ _ rfl oX HCA.out.size ⟨w9.heap.size, 0, none⟩ 1 1 [.int .i64 rid, .slice ua xs.length uc] rfl rfl (fun j u hj => by rw [Go.WideShapes.add_plain, Nat.zero_add, cell_lit]; simpa using hj) (by intro u hu; simp at hu; rcases hu with rfl | rfl <;> rfl) (by have := HFL.out; omega) ?_)
        intro x3 W3 oX3 gX3 _ hat3
        have FO := append_owns (r := (rid, xs)) H1.out H2.out H3.out HL1.out HL2.out HC8.out.size HOV.out HAL.out gX3 oX3 (by simpa [World.size_alloc] using hat3)
        have FB := HCA.out.grown gX3 HCA.out.size (fun q e => (oX.lt q e).1)
        rw [HFY.out] at FO
        clear oX oX3 gX3 hat3
        go_wp2
        go_roundw
        case rel => exact ⟨k + 1, by omega, by go_num, FO, FB⟩
        case measure => simp [intOf]; omega
    · obtain rfl : k = rs.length := by omega
      rw [List.take_length] at hown
      have hsf : szL (rs.filter m) ≤ 1048576 := Nat.le_trans (szL_filter m rs) HSZ.out
      have HSR := Lib.hid (fun v w h => specSortRows v (rs.filter m) w h hsf)
      clear hsf kq
      go_wp2_with fail
      refine (HSR.out _ _ (ownsR_rows hown)).mono ?_
      rintro e w7 ⟨u, rfl, ou, b7⟩
      have b8 := HB0.out.trans ((hbel.trans (b7.mono hbel.size)).mono HB0.out.size)
      have hz := Nat.le_trans HB0.out.size hbel.size
      clear b7
      go_wp2
      go_ret
      exact ⟨_, rfl, ownsR_up ou hz, b8⟩
end Go.Proofs.YteelgogfpidcdaaGreatDoor
namespace Go.Proofs.YteelgogfpidcdaaGreatDoor
open Go.RowKit
set_option linter.unusedVariables false
theorem Tryz.infoStr : (Tryz.prog.info? 9).map (fun i => (i.zero, i.size, i.bytes)) = some (some (.string ⟨#[]⟩), 1, 16) := by kernel_rfl
/-- The slice v reads as the texts xs. -/
def Strs (w : World) (v : Value) (xs : List ByteArray) : Prop :=
  (xs = [] ∧ ∃ a cap, v = .slice a 0 cap) ∨ ∃ b off cap, v = .slice (some ⟨b, off, none⟩) xs.length cap ∧ xs.length ≤ cap ∧ b < w.heap.size ∧ ∀ j, j < xs.length → w.cell? ⟨b, off + j, none⟩ = some (.string (xs.getD j ⟨#[]⟩))
/-- The slice v owns the texts xs, in a block from B on. -/
def OwnsS (w : World) (B : Nat) (v : Value) (xs : List ByteArray) : Prop := w.ownsRow B 9 1 v xs.length (xs.map (Value.string))
theorem strs_len {w : World} {v : Value} {xs : List ByteArray} (h : Strs w v xs) : ∃ a cap, v = .slice a xs.length cap := by
  rcases h with ⟨rfl, a, cap, rfl⟩ | ⟨b, off, cap, rfl, _⟩
  · exact ⟨a, cap, rfl⟩
  · exact ⟨_, cap, rfl⟩
theorem strs_below {W w : World} {v : Value} {xs : List ByteArray} (h : Strs W v xs) (hb : Below W.heap.size W w) : Strs w v xs := by
  rcases h with h | ⟨b, off, cap, h1, h2, h3, h4⟩
  · exact Or.inl h
  · exact Or.inr ⟨b, off, cap, h1, h2, Nat.lt_of_lt_of_le h3 hb.size, fun j hj => (hb.cell (p := ⟨b, off + j, none⟩) h3).trans (h4 j hj)⟩
theorem ownsS_nil (w : World) (B : Nat) : OwnsS w B (.slice none 0 0) [] := World.ownsRow_nil w B _ _
theorem ownsS_lit (w : World) (B : Nat) (hb : B ≤ w.heap.size) (C : Array Value) (n : Nat) (xs : List ByteArray) (hC : C.toList = xs.map (Value.string)) (hn : n = xs.length) (hm : n ≤ maxLen) :
    OwnsS (w.alloc (.cells C 9)) B (.slice (some ⟨w.heap.size, 0, none⟩) n n) xs := by
  subst hn
  have := World.ownsRow_lit (e := 9) (size := 1) w C xs.length hb hm (by have := congrArg List.length hC; simpa using this)
  rw [hC] at this
  exact this
/-- 'append(out, x..)' where the texts lie in a block that was just laid. -/
theorem append_strs {w : World} {ops : Array Oper} {rest : List Oper} {o : Oper} {a : Act} {Q : Exit → Act → World → Prop} (hgd : o.guard = none) (s x : Operand)
    (ho : o.op = .call { callee := .builtin .append, args := #[s, x], argTypes := #[59, 59] })
    (B : Nat) (v : Value) (xs : List ByteArray) (hs : a.eval s = v) (hown : OwnsS w B v xs) (hB : B ≤ w.heap.size)
    (C : Array Value) (ys : List ByteArray) (m c : Nat) (hx : a.eval x = .slice (some ⟨w.heap.size, 0, none⟩) m c) (hC : C.toList = ys.map (Value.string)) (hm : m = ys.length)
    (h63 : xs.length + ys.length ≤ 8796093022208)
    (h : ∀ v' w', OwnsS w' B v' (xs ++ ys) → Below B w w' → wpList Tryz.prog ops Q rest (a.put o.dst v') w') : wpList Tryz.prog ops Q (o :: rest) a (w.alloc (.cells C 9)) := by
  obtain ⟨i0, hi, hz0, hz1, hz2⟩ := info_parts Tryz.infoStr
  subst hm
  refine wpList_append_own _ hgd s x 59 ho B 9 i0 (.string ⟨#[]⟩) 1 16 Tryz.underlying59 hi hz0 hz1 hz2 rfl (by decide) v xs.length _ hs (hown.alloc _) ⟨w.heap.size, 0, none⟩ ys.length c (ys.map (Value.string)) hx (by simp) ?_ (by intro u hu; simp at hu; obtain ⟨y, _, rfl⟩ := hu; rfl) (by unfold maxLen; omega) (by omega) (by simp; omega) ?_
  · intro j u hj
    have e : (⟨w.heap.size, 0, none⟩ : Addr).add j = ⟨w.heap.size, j, none⟩ := by unfold Addr.add; split <;> simp_all
    rw [e, cell_lit]
    rw [← hC] at hj
    simpa using hj
  · intro v' w' h1 h2 _
    refine h v' w' ?_ ?_
    · unfold OwnsS
      simpa using h1
    · exact ((Below.refl B w).alloc hB _).grown h2 (by simp; omega) (fun k hk => (hown.lt k hk).1)
/-- What is owned reads so. -/
theorem ownsS_strs {w : World} {B : Nat} {v : Value} {xs : List ByteArray} (h : OwnsS w B v xs) : Strs w v xs := by
  rcases h.2 with ⟨rfl, h0⟩ | ⟨g, cap, cur, rfl, hb, hg, hn, hm, hcs, htake⟩
  · have : xs = [] := List.eq_nil_of_length_eq_zero h0
    subst this
    exact Or.inl ⟨rfl, none, 0, rfl⟩
  · refine Or.inr ⟨g, 0, cap, rfl, hn, (Array.getElem?_eq_some_iff.1 hg).1, ?_⟩
    intro j hj
    have := World.ownsRow.cells h (g := g) rfl j (.string (xs.getD j ⟨#[]⟩)) (by simp [List.getElem?_eq_getElem hj])
    have e : (⟨g, 0, none⟩ : Addr).add j = ⟨g, 0 + j, none⟩ := by unfold Addr.add; split <;> simp_all
    rwa [e] at this
/-- What 'make([]string, n)' owns. -/
theorem ownsS_made {w : World} {B g n : Nat} (h : w.ownsRow B 9 1 (.slice (some ⟨g, 0, none⟩) n n) n (madeCells #[Value.string ⟨#[]⟩] n).toList) : OwnsS w B (.slice (some ⟨g, 0, none⟩) n n) (List.replicate n ⟨#[]⟩) := by
  have e : (madeCells #[Value.string ⟨#[]⟩] n).toList = List.replicate n (.string ⟨#[]⟩) := toList_madeCells_one (.string ⟨#[]⟩) n
  rw [e] at h
  unfold OwnsS
  simpa using h
theorem ownsS_len {w : World} {B : Nat} {a : Option Addr} {n cap : Nat} {xs : List ByteArray} (h : OwnsS w B (.slice a n cap) xs) : n = xs.length := by
  rcases h.2 with ⟨h', h0⟩ | ⟨_, _, _, h', _⟩
  · simp only [Value.slice.injEq] at h'; omega
  · simp only [Value.slice.injEq] at h'; exact h'.2.1
theorem ownsS_cell {w : World} {B g n cap j : Nat} {xs : List ByteArray} {x : ByteArray} (h : OwnsS w B (.slice (some ⟨g, 0, none⟩) n cap) xs) (hx : xs[j]? = some x) : w.cell? ⟨g, j, none⟩ = some (.string x) := by
  have := World.ownsRow.cells h (g := g) rfl j (.string x) (by simp [hx])
  have e : (⟨g, 0, none⟩ : Addr).add j = ⟨g, j, none⟩ := by unfold Addr.add; split <;> simp_all
  rwa [e] at this
theorem ownsS_frozen {w : World} {B g n cap : Nat} {xs : List ByteArray} (h : OwnsS w B (.slice (some ⟨g, 0, none⟩) n cap) xs) (j : Nat) : w.frozen? ⟨g, j, none⟩ = false := by
  obtain rfl := ownsS_len h
  exact World.ownsRow.frozenAt h j
theorem ownsS_store {w : World} {B g n cap : Nat} {xs : List ByteArray} (h : OwnsS w B (.slice (some ⟨g, 0, none⟩) n cap) xs) (j : Nat) (x : ByteArray) : OwnsS (w.setCell ⟨g, j, none⟩ (.string x)) B (.slice (some ⟨g, 0, none⟩) n cap) (xs.set j x) := by
  obtain rfl := ownsS_len h
  have := (World.ownsRow.stored h j (.string x)).1
  unfold OwnsS
  rw [List.length_set, List.map_set]
  exact this
theorem ownsS_ge {w : World} {B g n cap : Nat} {xs : List ByteArray} (h : OwnsS w B (.slice (some ⟨g, 0, none⟩) n cap) xs) : B ≤ g ∧ g < w.heap.size := h.lt g rfl
/-- What is owned stays owned while only blocks beyond it, or none of its own, are written. -/
theorem ownsS_below {w w' : World} {B : Nat} {v : Value} {xs : List ByteArray} (h : OwnsS w B v xs) (hb : Below w.heap.size w w') : OwnsS w' B v xs := by
  refine ⟨h.1, ?_⟩
  rcases h.2 with hn | ⟨g, cap, cur, rfl, hb', hg, rest⟩
  · exact .inl hn
  · refine .inr ⟨g, cap, cur, rfl, hb', ?_, rest⟩
    rw [hb.block g (Array.getElem?_eq_some_iff.1 hg).1]
    exact hg
/-- The form of what is owned: nil, or the head of a block. -/
theorem ownsS_form {w : World} {B : Nat} {v : Value} {xs : List ByteArray} (h : OwnsS w B v xs) : (v = .slice none 0 0 ∧ xs = []) ∨ ∃ g cap, v = .slice (some ⟨g, 0, none⟩) xs.length cap ∧ B ≤ g ∧ g < w.heap.size := by
  rcases h.2 with ⟨rfl, h0⟩ | ⟨g, cap, cur, rfl, hb, hg, _⟩
  · exact .inl ⟨rfl, List.eq_nil_of_length_eq_zero h0⟩
  · exact .inr ⟨g, cap, rfl, hb, (Array.getElem?_eq_some_iff.1 hg).1⟩
end Go.Proofs.YteelgogfpidcdaaGreatDoor
namespace Go.Proofs.YteelgogfpidcdaaGreatDoor
/-- The decimal digits of u. -/
def decI (u : Nat) : List Int := if u < 10 then [48 + (u : Int)] else decI (u / 10) ++ [48 + ((u % 10 : Nat) : Int)]
  termination_by u
  decreasing_by omega
theorem decI_small (u : Nat) (h : u < 10) : decI u = [48 + (u : Int)] := by rw [decI, if_pos h]
theorem decI_big (u : Nat) (h : 10 ≤ u) : decI u = decI (u / 10) ++ [48 + ((u % 10 : Nat) : Int)] := by rw [decI, if_neg (by omega)]
theorem decI_digits (u : Nat) : (decI u).map (fun n => UInt8.ofNat n.toNat) = Lib.decDigits u := by
  induction u using Nat.strongRecOn with
  | _ u ih =>
    by_cases h : u < 10
    · rw [decI_small u h, Lib.decDigits_one h]
      simp only [List.map_cons, List.map_nil]
      rw [show (48 + (u : Int)).toNat = 48 + u by omega]
    · rw [decI_big u (by omega), Lib.decDigits, dif_neg h, List.map_append, ih _ (by omega)]
      simp only [List.map_cons, List.map_nil]
      rw [show (48 + ((u % 10 : Nat) : Int)).toNat = 48 + u % 10 by omega]
theorem str_decI (u : Nat) : strOfNums (decI u) = ⟨(Lib.itoa (u : Int)).toArray⟩ := by
  unfold strOfNums; rw [decI_digits, Lib.itoa_nonneg]
theorem str_decI_neg (u : Nat) (h : 1 ≤ u) : strOfNums (45 :: decI u) = ⟨(Lib.itoa (-(u : Int))).toArray⟩ := by
  unfold strOfNums; rw [List.map_cons, decI_digits, Lib.itoa_neg u h]; rfl
theorem decI_length (u : Nat) (h : u ≤ 9223372036854775808) (h1 : 1 ≤ u) : (decI u).length ≤ 21 := by
  have h2 := Lib.itoa_length_le (-(u : Int)) (by omega) (by omega)
  rw [Lib.itoa_neg u h1, ← decI_digits] at h2
  simp at h2
  omega
/-- What the loop has made of u: xs, and m is left. -/
def DecInv (u m : Nat) (xs : List Int) : Prop := if m = 0 then xs = decI u else decI m ++ xs = decI u
theorem decInv_start (u : Nat) (h : 1 ≤ u) : DecInv u u [] := by unfold DecInv; rw [if_neg (by omega)]; simp
theorem decInv_step {u m : Nat} {xs : List Int} (h : DecInv u m xs) (hm : 1 ≤ m) : DecInv u (m / 10) ((48 + ((m % 10 : Nat) : Int)) :: xs) := by
  unfold DecInv at *
  rw [if_neg (by omega)] at h
  by_cases h10 : m < 10
  · rw [if_pos (by omega), ← h, decI_small m h10, show m % 10 = m by omega]; rfl
  · rw [if_neg (by omega), ← h, decI_big m (by omega)]; simp
theorem decInv_end {u : Nat} {xs : List Int} (h : DecInv u 0 xs) : xs = decI u := by unfold DecInv at h; rwa [if_pos rfl] at h
theorem decInv_len {u m : Nat} {xs : List Int} (h : DecInv u m xs) (hu : u ≤ 9223372036854775808) (h1 : 1 ≤ u) : xs.length ≤ 21 := by
  have h2 := decI_length u hu h1
  unfold DecInv at h
  split at h
  · rw [h]; exact h2
  · rw [← h] at h2; simp at h2; omega
end Go.Proofs.YteelgogfpidcdaaGreatDoor
namespace Go.Proofs.YteelgogfpidcdaaGreatDoor
open Go.RowKit
set_option linter.unusedVariables false
theorem specFmt_zero (w : World) : Calls Tryz.prog 38 #[.int .i64 0] w fun e w' => e = .returned (.string ⟨#[48]⟩) ∧ Below w.heap.size w w' := by
  go_enter Tryz.func38, Tryz.ntmps38
  go_wp2
  go_ret
  exact ⟨rfl, Below.refl _ _⟩
set_option maxRecDepth 100000 in
theorem specFmt_pos (u : Nat) (w : World) (h1 : 1 ≤ u) (h2 : u ≤ 9223372036854775807) : Calls Tryz.prog 38 #[.int .i64 u] w fun e w' => e = .returned (.string (strOfNums (decI u))) ∧ Below w.heap.size w w' := by
  have hcv := string_lit1
  have hz : ((u : Int) == 0) = false := by rw [beq_eq_false_iff_ne]; omega
  have hneg : decide ((u : Int) < 0) = false := by simp
  go_enter Tryz.func38, Tryz.ntmps38
  go_wp2
  go_loopw [0, 3] (fun n s wr => ∃ (m : Nat) (xs : List Int), m ≤ u ∧ n = .int .i64 m ∧ s = .string (strOfNums xs) ∧ Below w.heap.size w wr ∧ Hid (DecInv u m xs)) (fun n _ _ => (intOf n).toNat)
  case atStart => exact ⟨u, [], Nat.le_refl _, rfl, rfl, Below.refl _ _, Lib.hid (decInv_start u h1)⟩
  case round =>
    obtain ⟨m, xs, hm, rfl, rfl, hbel, hinv⟩ := hrel
    have hB := hbel.size
    by_cases hlt : 1 ≤ m
    · have hz : ((m : Int) != 0) = true := by rw [bne_iff_ne]; omega
      have HS := Lib.hid (decInv_step hinv.out hlt)
      have hl := decInv_len hinv.out (by omega) h1
      have hb2 := hbel.alloc hB (.cells #[.int .u8 (48 + (m : Int) % 10)] 5)
      have hadd := concat_cons (48 + (m : Int) % 10) xs (by omega)
      have hml : m / 10 < m := by omega
      go_wp2
      go_roundw
      case rel => exact ⟨m / 10, _, by omega, by go_num, by rfl, hb2, by have := HS.out; simpa using Lib.hid this⟩
      case measure => simp [intOf]; omega
    · obtain rfl : m = 0 := by omega
      have HE := Lib.hid (decInv_end hinv.out)
      go_wp2
      go_ret
      exact ⟨ret_strI HE.out, hbel⟩
set_option maxRecDepth 100000 in
theorem specFmt_neg (u : Nat) (w : World) (h1 : 1 ≤ u) (h2 : u ≤ 9223372036854775808) : Calls Tryz.prog 38 #[.int .i64 (-(u : Int))] w fun e w' => e = .returned (.string (strOfNums (45 :: decI u))) ∧ Below w.heap.size w w' := by
  have hcv := string_lit1
  have hz : ((-(u : Int)) == 0) = false := by rw [beq_eq_false_iff_ne]; omega
  have hneg : decide (0 < u) = true := by simp; omega
  have H2 := Lib.hid h2; clear h2
  go_enter Tryz.func38, Tryz.ntmps38
  go_wp2
  go_loopw [0, 3] (fun n s wr => ∃ (m : Nat) (xs : List Int), m ≤ u ∧ n = .int .i64 (-(m : Int)) ∧ s = .string (strOfNums xs) ∧ Below w.heap.size w wr ∧ Hid (DecInv u m xs)) (fun n _ _ => (-(intOf n)).toNat)
  case atStart => exact ⟨u, [], Nat.le_refl _, rfl, rfl, Below.refl _ _, Lib.hid (decInv_start u h1)⟩
  case round =>
    obtain ⟨m, xs, hm, rfl, rfl, hbel, hinv⟩ := hrel
    have hB := hbel.size
    by_cases hlt : 1 ≤ m
    · have hz : ((-(m : Int)) != 0) = true := by rw [bne_iff_ne]; omega
      have HS := Lib.hid (decInv_step hinv.out hlt)
      have hl := decInv_len hinv.out H2.out h1
      have hml : m / 10 < m := by omega
      have e1 : (-(m : Int)).tmod 10 = -((m : Int) % 10) := by rw [Int.neg_tmod, Int.tmod_eq_emod_of_nonneg (by omega)]
      have e2 : (-(m : Int)).tdiv 10 = -((m : Int) / 10) := by rw [Int.neg_tdiv, Int.tdiv_eq_ediv_of_nonneg (by omega)]
      have hbd : (m : Int) / 10 ≤ 922337203685477580 := by have := H2.out; omega
      by_cases hr : m % 10 = 0
      · have hr' : (m : Int) % 10 = 0 := by omega
        have HX : Hid (DecInv u (m / 10) (48 :: xs)) := Lib.hid (by have := HS.out; rwa [show ((m % 10 : Nat) : Int) = 0 by omega] at this)
        have hadd := concat_cons 48 xs (by omega)
        have hb2 := hbel.alloc hB (.cells #[.int .u8 48] 5)
        rw [hr'] at e1
        clear hr hr' HS
        go_wp2
        go_roundw
        case rel => exact ⟨m / 10, _, by omega, by go_num, by rfl, hb2, HX⟩
        case measure => simp [intOf]; omega
      · have hr' : 0 < (m : Int) % 10 := by omega
        have hadd := concat_cons (48 + (m : Int) % 10) xs (by omega)
        have hb2 := hbel.alloc hB (.cells #[.int .u8 (48 + (m : Int) % 10)] 5)
        clear hr
        go_wp2
        go_roundw
        case rel => exact ⟨m / 10, _, by omega, by go_num, by rfl, hb2, by have := HS.out; simpa using Lib.hid this⟩
        case measure => simp [intOf]; omega
    · obtain rfl : m = 0 := by omega
      have HE := Lib.hid (decInv_end hinv.out)
      have hl := decInv_len hinv.out H2.out h1
      have hadd := concat_cons 45 xs (by omega)
      have hadd' : ∀ w, (Op.stringOp .add ⟨#[45]⟩ (strOfNums xs)).run Tryz.prog w = .ok (.string (strOfNums (45 :: xs))) w := hadd
      go_wp2
      go_ret
      exact ⟨ret_strI (by rw [HE.out]), hbel⟩
theorem specFmt (n : Int) (w : World) (h0 : -9223372036854775808 ≤ n) (h1 : n ≤ 9223372036854775807) : Calls Tryz.prog 38 #[.int .i64 n] w fun e w' => e = .returned (.string ⟨(Lib.itoa n).toArray⟩) ∧ Below w.heap.size w w' := by
  by_cases hz : n = 0
  · subst hz; rw [show Lib.itoa 0 = [48] by unfold Lib.itoa; rw [if_neg (by decide)]; exact Lib.decDigits_one (by decide)]; exact specFmt_zero w
  · by_cases hp : 0 < n
    · obtain ⟨u, rfl⟩ := Int.eq_ofNat_of_zero_le (show 0 ≤ n by omega)
      rw [← str_decI]; exact specFmt_pos u w (by omega) (by omega)
    · obtain ⟨u, hu⟩ := Int.eq_ofNat_of_zero_le (show 0 ≤ -n by omega)
      obtain rfl : n = -(u : Int) := by omega
      rw [← str_decI_neg u (by omega)]; exact specFmt_neg u w (by omega) (by omega)
/-- The library's table reads as its text lays it. -/
def Tab (w : World) : Prop := Lib.TabIs Tryz.prog w "internal/strconv.uint64pow10" .u64 Lib.pow10Tab
theorem Tab.on {w w' : World} (h : Tab w) (hb : Below w.heap.size w w') : Tab w' := Lib.tabBelow_of_tabIs h w' hb
theorem implFmt (n : Int) (w : World) (h0 : -9223372036854775808 ≤ n) (h1 : n ≤ 9223372036854775807) (htab : Tab w) : Calls Tryz.prog 30 #[.int .i64 n] w fun e w' => e = .returned (.string ⟨(Lib.itoa n).toArray⟩) ∧ Below w.heap.size w w' := by
  have H := Lib.hid htab; clear htab
  go_enter Tryz.func30, Tryz.ntmps30
  go_wp2_with (go_at_call 59; refine (Tryz.strconv_Itoa n h0 h1 _ H.out).mono ?_; rintro e w' ⟨rfl, k, os, rfl⟩)
  go_ret
  exact ⟨rfl, Lib.below_grow _ _ (Nat.le_refl _) k os⟩
end Go.Proofs.YteelgogfpidcdaaGreatDoor
namespace Go.Proofs.YteelgogfpidcdaaGreatDoor
/-- The runs of adjacent numbers. -/
def runs : List Int → List (Int × Int)
  | [] => []
  | x :: r => match runs r with
    | [] => [(x, x)]
    | (a, b) :: t => if a = x + 1 then (x, b) :: t else (x, x) :: (a, b) :: t
theorem runs_cons (x : Int) (r : List Int) : ∃ b t, runs (x :: r) = (x, b) :: t := by
  simp only [runs]
  split
  · exact ⟨x, [], rfl⟩
  · split
    · exact ⟨_, _, rfl⟩
    · exact ⟨_, _, rfl⟩
theorem runs_join {x y : Int} {r : List Int} {b : Int} {t : List (Int × Int)} (h : y = x + 1) (e : runs (y :: r) = (y, b) :: t) : runs (x :: y :: r) = (x, b) :: t := by
  rw [runs, e]; simp only [if_pos h]
theorem runs_part {x y : Int} {r : List Int} (h : y ≠ x + 1) : runs (x :: y :: r) = (x, x) :: runs (y :: r) := by
  obtain ⟨b, t, e⟩ := runs_cons y r
  rw [runs, e]; simp only [if_neg h]
/-- The greatest run that begins at i ends at i + n. -/
theorem run_max (l : List Int) : ∀ (n i : Nat), i + n < l.length → (∀ j, j < n → l.getD (i + j + 1) 0 = l.getD (i + j) 0 + 1) → (i + n + 1 < l.length → l.getD (i + n + 1) 0 ≠ l.getD (i + n) 0 + 1) →
    runs (l.drop i) = (l.getD i 0, l.getD (i + n) 0) :: runs (l.drop (i + n + 1)) := by
  have hd : ∀ i, i < l.length → l.drop i = l.getD i 0 :: l.drop (i + 1) := by
    intro i hi
    rw [List.drop_eq_getElem_cons hi]; simp [List.getD, hi]
  intro n
  induction n with
  | zero =>
    intro i hi _ hm
    rw [hd i (by omega)]
    by_cases h1 : i + 1 < l.length
    · rw [show i + 0 + 1 = i + 1 from rfl, hd (i + 1) h1]
      rw [runs_part (by simpa using hm (by omega))]
      rfl
    · rw [List.drop_eq_nil_of_le (show l.length ≤ i + 1 by omega)]
      rfl
  | succ n ih =>
    intro i hi hc hm
    have h1 := ih (i + 1) (by omega) (fun j hj => by have := hc (j + 1) (by omega); rw [show i + 1 + j + 1 = i + (j + 1) + 1 by omega, show i + 1 + j = i + (j + 1) by omega]; exact this)
      (fun hl => by rw [show i + 1 + n + 1 = i + (n + 1) + 1 by omega, show i + 1 + n = i + (n + 1) by omega]; exact hm (by omega))
    have h0 := hc 0 (by omega)
    rw [hd i (by omega), hd (i + 1) (by omega)]
    rw [hd (i + 1) (by omega)] at h1
    rw [runs_join (by simpa using h0) h1, show i + 1 + n = i + (n + 1) by omega]
/-- The text of a run. -/
def runText (r : Int × Int) : List UInt8 := if r.1 = r.2 then Lib.itoa r.1 else Lib.itoa r.1 ++ 45 :: Lib.itoa r.2
/-- The texts of runs behind the text s. -/
def glue (s : List UInt8) : List (Int × Int) → List UInt8
  | [] => s
  | r :: t => glue ((if s = [] then s else s ++ [32]) ++ runText r) t
/-- FormatSet of a set. -/
def fmtRuns (l : List Int) : List UInt8 := if l = [] then [110, 111, 110, 101] else glue [] (runs l)
theorem itoa_ne (n : Int) : Lib.itoa n ≠ [] := by
  unfold Lib.itoa
  split
  · simp
  · unfold Lib.decDigits; split <;> simp
theorem runText_ne (r : Int × Int) : runText r ≠ [] := by
  unfold runText; split
  · exact itoa_ne _
  · simp
theorem runText_len (r : Int × Int) (h1 : -9223372036854775808 ≤ r.1 ∧ r.1 ≤ 9223372036854775807) (h2 : -9223372036854775808 ≤ r.2 ∧ r.2 ≤ 9223372036854775807) : (runText r).length ≤ 43 := by
  have a := Lib.itoa_length_le r.1 h1.1 h1.2
  have b := Lib.itoa_length_le r.2 h2.1 h2.2
  unfold runText; split
  · omega
  · simp; omega
/-- n numbers from f on. -/
def upN (f : Int) (n : Nat) : List Int := (List.range n).map (fun (i : Nat) => f + (i : Int))
theorem upN_len (f : Int) (n : Nat) : (upN f n).length = n := by simp [upN]
theorem upN_succ (f : Int) (n : Nat) : upN f (n + 1) = upN f n ++ [f + (n : Int)] := by simp [upN, List.range_succ]
end Go.Proofs.YteelgogfpidcdaaGreatDoor
namespace Go.Proofs.YteelgogfpidcdaaGreatDoor
open Go.RowKit
set_option linter.unusedVariables false
/-- A text as a string. -/
def strB (l : List UInt8) : ByteArray := ⟨l.toArray⟩
theorem strB_size (l : List UInt8) : (strB l).size = l.length := by simp [strB, ByteArray.size]
theorem strB_add (a b : List UInt8) (h : a.length + b.length ≤ 1073741824) (w : World) : (Op.stringOp .add (strB a) (strB b)).run Tryz.prog w = .ok (.string (strB (a ++ b))) w := by
  rw [run_string_add_sum w _ _ (by rw [strB_size, strB_size]; omega)]
  congr 2
theorem strB_toList (l : List UInt8) : (strB l).toList = l := by rw [ByteArray.toList_eq]; rfl
theorem strB_none {l : List UInt8} (h : l = []) : (strB l).toList = [] ∧ (strB l).toList.isEmpty = true := by rw [strB_toList, h]; exact ⟨rfl, rfl⟩
theorem strB_some {l : List UInt8} (h : l ≠ []) : ¬ (strB l).toList = [] ∧ (strB l).toList.isEmpty = false := by
  rw [strB_toList]
  cases l with
  | nil => exact absurd rfl h
  | cons a r => exact ⟨by simp, rfl⟩
theorem fmtB (n : Int) (w : World) (h0 : 0 ≤ n) (h1 : n ≤ 23) : Calls Tryz.prog 38 #[.int .i64 n] w fun e w' => e = .returned (.string (strB (Lib.itoa n))) ∧ Below w.heap.size w w' := specFmt n w (by omega) (by omega)
theorem set_ge {l : List Int} (h : SetL l) : ∀ i, i < l.length → (i : Int) ≤ l.getD i 0 := by
  intro i
  induction i with
  | zero => intro hi; have := h.1 0 hi; omega
  | succ i ih => intro hi; have h1 := ih (by omega); have h2 := h.2 i hi; omega
theorem set_len {l : List Int} (h : SetL l) : l.length ≤ 24 := by
  by_cases h0 : l.length = 0
  · omega
  · have h1 := set_ge h (l.length - 1) (by omega)
    have h2 := h.1 (l.length - 1) (by omega)
    omega
/-- FormatSet. -/
def fmtSet (l : List Int) : List UInt8 := if setB l then fmtRuns l else []
theorem fmtSet_no {l : List Int} (h : setB l = false) : fmtSet l = [] := by unfold fmtSet; rw [h]; rfl
theorem fmtSet_nil : fmtSet [] = [110, 111, 110, 101] := rfl
theorem fmtSet_yes {l : List Int} (h : setB l = true) (h0 : l ≠ []) : fmtSet l = glue [] (runs l) := by unfold fmtSet fmtRuns; rw [h, if_neg h0]; rfl
theorem glue_one (s : List UInt8) (r : Int × Int) (t : List (Int × Int)) : glue s (r :: t) = glue ((if s = [] then s else s ++ [32]) ++ runText r) t := rfl
theorem text_one {x y : Int} (h : x = y) : runText (x, y) = Lib.itoa x := by unfold runText; rw [if_pos h]
theorem text_two {x y : Int} (h : x ≠ y) : runText (x, y) = Lib.itoa x ++ 45 :: Lib.itoa y := by unfold runText; rw [if_neg h]
theorem ret_s {a b : List UInt8} (h : a = b) : Ending.returned (.string (strB a)) = .returned (.string (strB b)) := by rw [h]
theorem run_up (l : List Int) (i n : Nat) (h : ∀ j, j < n → l.getD (i + j + 1) 0 = l.getD (i + j) 0 + 1) : l.getD (i + n) 0 = l.getD i 0 + n := by
  induction n with
  | zero => simp
  | succ n ih => have h1 := ih (fun j hj => h j (by omega)); have h2 := h n (by omega); rw [show i + (n + 1) = i + n + 1 by omega, h2, h1]; omega
theorem below_step {q : Nat} {w wr w5 : World} (h : Below w.heap.size w wr) (h5 : Below (wr.drewN q).heap.size (wr.drewN q) w5) : Below w.heap.size w w5 := by
  have h2 : Below w.heap.size w (wr.drewN q) := below_same h rfl rfl rfl rfl
  exact h2.trans (h5.mono h2.size)
end Go.Proofs.YteelgogfpidcdaaGreatDoor
namespace Go.Proofs.YteelgogfpidcdaaGreatDoor
open Go.RowKit
set_option linter.unusedVariables false
/-- The pieces of a text, cut at each b; p is the piece under way. -/
def cutGo (b : UInt8) : List UInt8 → List UInt8 → List (List UInt8)
  | p, [] => [p]
  | p, c :: r => if c = b then p :: cutGo b [] r else cutGo b (p ++ [c]) r
def cutL (b : UInt8) (l : List UInt8) : List (List UInt8) := cutGo b [] l
theorem drop_at (s : ByteArray) (m : Nat) (h : m < s.size) : s.data.toList.drop m = s[m] :: s.data.toList.drop (m + 1) := by
  rw [List.drop_eq_getElem_cons (by simpa using h)]
  rfl
theorem cut_hit {b : UInt8} {p : List UInt8} {s : ByteArray} {m : Nat} (h : m < s.size) (hb : s[m] = b) : cutGo b p (s.data.toList.drop m) = p :: cutGo b [] (s.data.toList.drop (m + 1)) := by
  rw [drop_at s m h]
  show (if s[m] = b then _ else _) = _
  rw [if_pos hb]
theorem cut_miss {b : UInt8} {p : List UInt8} {s : ByteArray} {m : Nat} (h : m < s.size) (hb : ¬ s[m] = b) : cutGo b p (s.data.toList.drop m) = cutGo b (p ++ [s[m]]) (s.data.toList.drop (m + 1)) := by
  rw [drop_at s m h]
  show (if s[m] = b then _ else _) = _
  rw [if_neg hb]
theorem ext_one (s : ByteArray) (m : Nat) (h : m < s.size) : s.extract m (m + 1) = strB [s[m]] := by
  apply ByteArray.ext
  apply Array.ext'
  simp only [ByteArray.data_extract, Array.toList_extract, strB]
  rw [List.extract_eq_take_drop, show m + 1 - m = 1 by omega, drop_at s m h]
  rfl
theorem strB_app (a b : List UInt8) : strB a ++ strB b = strB (a ++ b) := by
  apply ByteArray.ext
  simp [strB, ByteArray.data_append]
theorem cutGo_len (b : UInt8) : ∀ (l p : List UInt8), (cutGo b p l).length ≤ l.length + 1 := by
  intro l
  induction l with
  | nil => intro p; simp [cutGo]
  | cons c r ih =>
    intro p
    unfold cutGo
    split
    · have := ih []; simp; omega
    · have := ih (p ++ [c]); simp; omega
end Go.Proofs.YteelgogfpidcdaaGreatDoor
