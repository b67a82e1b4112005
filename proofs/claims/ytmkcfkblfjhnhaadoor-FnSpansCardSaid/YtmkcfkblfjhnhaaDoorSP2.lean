/-
  Texts of the proof, merged: AdmitSpec, QueryAre, StabMath, SpansMath.
-/
import Derived.Test.YtmkcfkblfjhnhaaDoorSP1
namespace Go.Proofs.YtmkcfkblfjhnhaaDoor
open Go.RowKit
set_option linter.unusedVariables false
set_option linter.unusedSimpArgs false
/-- The condition, if it is on the field, contains the value. -/
def admC (field v : Int) (c : CondD) : Bool := !decide (c.1 = field) || decide (c.2.1 ≤ v ∧ v ≤ c.2.2)
def admB (cs : List CondD) (field v : Int) : Bool := cs.all (admC field v)
theorem adm_bad {cs : List CondD} {field v : Int} {k : Nat} (hk : k < cs.length) (h : admC field v (cs.getD k (0, 0, 0)) = false) : admB cs field v = false := by
  unfold admB
  rw [Bool.eq_false_iff]
  intro g
  rw [List.all_eq_true] at g
  have e : cs.getD k (0, 0, 0) = cs[k] := by simp [List.getD, hk]
  rw [e, g _ (List.getElem_mem hk)] at h
  exact Bool.noConfusion h
theorem adm_ok {cs : List CondD} {field v : Int} (h : ∀ k, k < cs.length → admC field v (cs.getD k (0, 0, 0)) = true) : admB cs field v = true := by
  unfold admB
  rw [List.all_eq_true]
  intro c hc
  obtain ⟨k, hk, rfl⟩ := List.getElem_of_mem hc
  have := h k hk
  have e : cs.getD k (0, 0, 0) = cs[k] := by simp [List.getD, hk]
  rwa [e] at this
theorem adm_other {f lo hi field v : Int} (h : ¬ f = field) : admC field v (f, lo, hi) = true := by simp [admC, h]
theorem adm_in {f lo hi field v : Int} (h : lo ≤ v ∧ v ≤ hi) : admC field v (f, lo, hi) = true := by simp [admC, h]
theorem adm_out {lo hi field v : Int} (h : ¬ (lo ≤ v ∧ v ≤ hi)) : admC field v (field, lo, hi) = false := by
  unfold admC
  rw [decide_eq_false h]; simp
set_option maxHeartbeats 16000000 in
set_option maxRecDepth 100000 in
theorem specAdmits (id tn field v : Int) (cv ov : Value) (cs : List CondD) (w : World) (h : CondsR w cv cs) (hn : cs.length ≤ 1048576) :
    Calls Tryd.prog 39 #[qV id tn cv ov, .int .i64 field, .int .i64 v] w fun e w' => e = .returned (.bool (admB cs field v)) ∧ Below w.heap.size w w' := by
  obtain ⟨ca, ccap, rfl⟩ := condsR_len h
  have hb0 : Below w.heap.size w (w.alloc (.cells #[.int .i64 id, .int .i64 tn, .slice ca cs.length ccap, ov] 59)) := (Below.refl _ w).alloc (Nat.le_refl _) _
  have HG0 := Lib.hid (heap_alloc_new w (.cells #[.int .i64 id, .int .i64 tn, .slice ca cs.length ccap, ov] 59))
  have HZ : Hid (w.heap.size < (w.alloc (.cells #[.int .i64 id, .int .i64 tn, .slice ca cs.length ccap, ov] 59)).heap.size) := Lib.hid (by simp)
  have HB0 := Lib.hid hb0
  have HC := Lib.hid (condsR_below h hb0)
  clear h hb0
  go_enter Tryd.func39, Tryd.ntmps39
  go_wp2
  generalize w.alloc (.cells #[.int .i64 id, .int .i64 tn, .slice ca cs.length ccap, ov] 59) = W at *
  go_loopw [7] (fun i wr => ∃ k : Nat, k ≤ cs.length ∧ i = .int .i64 k ∧ Hid (∀ j, j < k → admC field v (cs.getD j (0, 0, 0)) = true) ∧ Below W.heap.size W wr) (fun i _ => cs.length - (intOf i).toNat)
  case atStart => exact ⟨0, Nat.zero_le _, rfl, Lib.hid (fun j hj => by omega), Below.refl _ _⟩
  case round =>
    obtain ⟨k, hk, rfl, hall, hbel⟩ := hrel
    have kq := (hbel.block w.heap.size HZ.out).trans HG0.out
    have p2 := (cell_of_row wr _ 2 _ _ _ kq).trans (show _ = some (Value.slice ca cs.length ccap) from rfl)
    clear kq
    by_cases hlt : k < cs.length
    · obtain ⟨b, off, cap', hv, hbl, hc1, hc2, hc3⟩ := condsR_at (condsR_below HC.out hbel) hlt
      simp only [Value.slice.injEq] at hv
      obtain ⟨rfl, _, rfl⟩ := hv
      have i1 : (0 : Int) ≤ (k : Int) := by omega
      have i2 : (k : Int) < (cs.length : Int) := by omega
      have HBAD := Lib.hid (fun e => adm_bad (field := field) (v := v) hlt e)
      have HALL : Hid (admC field v (cs.getD k (0, 0, 0)) = true → ∀ j, j < k + 1 → admC field v (cs.getD j (0, 0, 0)) = true) := Lib.hid (fun he j hj => by
        by_cases e : j = k
        · exact e ▸ he
        · exact hall.out j (by omega))
      clear hall
      generalize cs.getD k (0, 0, 0) = c at *
      obtain ⟨f, lo, hi⟩ := c
      simp only at hc1 hc2 hc3
      go_wp2
      by_cases hf : f = field
      · subst hf
        have ef : (f == f) = true := by simp
        by_cases hin : lo ≤ v ∧ v ≤ hi
        · have HA := Lib.hid (HALL.out (adm_in hin))
          have HIN := Lib.hid (fun w => in_yes v lo hi w hin.1 hin.2)
          clear hin HALL HBAD
          refine wp_region_held_drew (S := fun w' => w'.cell? ⟨w.heap.size, 2, none⟩ = some (.slice (some ⟨b, off, none⟩) cs.length ccap) ∧ w'.cell? ⟨b, off + k * 3, none⟩ = some (.int .i64 f) ∧ w'.cell? ⟨b, off + k * 3 + 1, none⟩ = some (.int .i64 lo) ∧ w'.cell? ⟨b, off + k * 3 + 2, none⟩ = some (.int .i64 hi)) (by kernel_rfl) ⟨p2, hc1, hc2, hc3⟩ (fun hHeld => ?_)
          refine take_runs (i := 0) (v := ?_) (by simp only [List.getElem?_toArray, List.getElem?_cons_succ, List.getElem?_cons_zero]; rfl) (by kernel_rfl) (by kernel_rfl) (by kernel_rfl) rfl (by exact fun _ _ _ h => h) (by rfl) ?_ (by assumption) ?_
          rotate_left
          · intro w hSw; (try dsimp only at hSw); go_simp; try (with_reducible rfl)
          try simp only [Act.put, List.setIfInBounds_toArray, List.set_cons_zero, List.set_cons_succ]
          refine take_runs (i := 1) (v := ?_) (by simp only [List.getElem?_toArray, List.getElem?_cons_succ, List.getElem?_cons_zero]; rfl) (by kernel_rfl) (by kernel_rfl) (by kernel_rfl) rfl (by exact fun _ _ _ h => h) (by rfl) ?_ (by assumption) ?_
          rotate_left
          · intro w hSw; (try dsimp only at hSw); go_simp; try (with_reducible rfl)
          try simp only [Act.put, List.setIfInBounds_toArray, List.set_cons_zero, List.set_cons_succ]
          refine take_runs (i := 2) (v := ?_) (by simp only [List.getElem?_toArray, List.getElem?_cons_succ, List.getElem?_cons_zero]; rfl) (by kernel_rfl) (by kernel_rfl) (by kernel_rfl) rfl (by exact fun _ _ _ h => h) (by rfl) ?_ (by assumption) ?_
          rotate_left
          · intro w hSw; (try dsimp only at hSw); go_simp; try (with_reducible rfl)
          try simp only [Act.put, List.setIfInBounds_toArray, List.set_cons_zero, List.set_cons_succ]
          refine take_runs (i := 3) (v := ?_) (by simp only [List.getElem?_toArray, List.getElem?_cons_succ, List.getElem?_cons_zero]; rfl) (by kernel_rfl) (by kernel_rfl) (by kernel_rfl) rfl (by exact fun _ _ _ h => h) (by rfl) ?_ (by assumption) ?_
          rotate_left
          · intro w hSw; (try dsimp only at hSw); go_simp; try (with_reducible rfl)
          try simp only [Act.put, List.setIfInBounds_toArray, List.set_cons_zero, List.set_cons_succ]
          refine take_runs (i := 4) (v := ?_) (by simp only [List.getElem?_toArray, List.getElem?_cons_succ, List.getElem?_cons_zero]; rfl) (by kernel_rfl) (by kernel_rfl) (by kernel_rfl) rfl (by exact fun _ _ _ h => h) (by rfl) ?_ (by assumption) ?_
          rotate_left
          · intro w hSw; (try dsimp only at hSw); go_simp; try (with_reducible rfl)
          try simp only [Act.put, List.setIfInBounds_toArray, List.set_cons_zero, List.set_cons_succ]
          refine take_runs (i := 5) (v := ?_) (by simp only [List.getElem?_toArray, List.getElem?_cons_succ, List.getElem?_cons_zero]; rfl) (by kernel_rfl) (by kernel_rfl) (by kernel_rfl) rfl (by exact fun _ _ _ h => h) (by rfl) ?_ (by assumption) ?_
          rotate_left
          · intro w hSw; (try dsimp only at hSw); go_simp; try (with_reducible rfl)
          try simp only [Act.put, List.setIfInBounds_toArray, List.set_cons_zero, List.set_cons_succ]
          refine take_runs (i := 6) (v := ?_) (by simp only [List.getElem?_toArray, List.getElem?_cons_succ, List.getElem?_cons_zero]; rfl) (by kernel_rfl) (by kernel_rfl) (by kernel_rfl) rfl (by exact fun _ _ _ h => h) (by rfl) ?_ (by assumption) ?_
          rotate_left
          · intro w hSw; (try dsimp only at hSw); go_simp; try (with_reducible rfl)
          try simp only [Act.put, List.setIfInBounds_toArray, List.set_cons_zero, List.set_cons_succ]
          refine take_runs (i := 7) (v := ?_) (by simp only [List.getElem?_toArray, List.getElem?_cons_succ, List.getElem?_cons_zero]; rfl) (by kernel_rfl) (by kernel_rfl) (by kernel_rfl) rfl (by exact fun _ _ _ h => h) (by rfl) ?_ (by assumption) ?_
          rotate_left
          · intro w hSw; (try dsimp only at hSw); go_simp; try (with_reducible rfl)
          try simp only [Act.put, List.setIfInBounds_toArray, List.set_cons_zero, List.set_cons_succ]
          refine take_runs (i := 8) (v := ?_) (by simp only [List.getElem?_toArray, List.getElem?_cons_succ, List.getElem?_cons_zero]; rfl) (by kernel_rfl) (by kernel_rfl) (by kernel_rfl) rfl (by exact fun _ _ _ h => h) (by rfl) ?_ (by assumption) ?_
          rotate_left
          · intro w hSw; (try dsimp only at hSw); go_simp; try (with_reducible rfl)
          try simp only [Act.put, List.setIfInBounds_toArray, List.set_cons_zero, List.set_cons_succ]
          refine take_runs (i := 9) (v := ?_) (by simp only [List.getElem?_toArray, List.getElem?_cons_succ, List.getElem?_cons_zero]; rfl) (by kernel_rfl) (by kernel_rfl) (by kernel_rfl) rfl (by exact fun _ _ _ h => h) (by rfl) ?_ (by assumption) ?_
          rotate_left
          · intro w hSw; (try dsimp only at hSw); go_simp; try (with_reducible rfl)
          try simp only [Act.put, List.setIfInBounds_toArray, List.set_cons_zero, List.set_cons_succ]
          refine take_runs (i := 10) (v := ?_) (by simp only [List.getElem?_toArray, List.getElem?_cons_succ, List.getElem?_cons_zero]; rfl) (by kernel_rfl) (by kernel_rfl) (by kernel_rfl) rfl (by exact fun _ _ _ h => h) (by rfl) ?_ (by assumption) ?_
          rotate_left
          · intro w hSw; (try dsimp only at hSw); go_simp; try (with_reducible rfl)
          try simp only [Act.put, List.setIfInBounds_toArray, List.set_cons_zero, List.set_cons_succ]
          refine take_runs (i := 11) (v := ?_) (by simp only [List.getElem?_toArray, List.getElem?_cons_succ, List.getElem?_cons_zero]; rfl) (by kernel_rfl) (by kernel_rfl) (by kernel_rfl) rfl (by exact fun _ _ _ h => h) (by rfl) ?_ (by assumption) ?_
          rotate_left
          · intro w hSw; (try dsimp only at hSw); go_simp; try (with_reducible rfl)
          try simp only [Act.put, List.setIfInBounds_toArray, List.set_cons_zero, List.set_cons_succ]
          refine take_runs (i := 12) (v := ?_) (by simp only [List.getElem?_toArray, List.getElem?_cons_succ, List.getElem?_cons_zero]; rfl) (by kernel_rfl) (by kernel_rfl) (by kernel_rfl) rfl (by exact fun _ _ _ h => h) (by rfl) ?_ (by assumption) ?_
          rotate_left
          · intro w hSw; (try dsimp only at hSw); go_simp; try (with_reducible rfl)
          try simp only [Act.put, List.setIfInBounds_toArray, List.set_cons_zero, List.set_cons_succ]
          refine take_runs (i := 13) (v := ?_) (by simp only [List.getElem?_toArray, List.getElem?_cons_succ, List.getElem?_cons_zero]; rfl) (by kernel_rfl) (by kernel_rfl) (by kernel_rfl) rfl (by exact fun _ _ _ h => h) (by rfl) ?_ (by assumption) ?_
          rotate_left
          · intro w hSw; (try dsimp only at hSw); go_simp; try (with_reducible rfl)
          try simp only [Act.put, List.setIfInBounds_toArray, List.set_cons_zero, List.set_cons_succ]
          refine take_runs (i := 14) (v := ?_) (by simp only [List.getElem?_toArray, List.getElem?_cons_succ, List.getElem?_cons_zero]; rfl) (by kernel_rfl) (by kernel_rfl) (by kernel_rfl) rfl (by exact fun _ _ _ h => h) (by rfl) ?_ (by assumption) ?_
          rotate_left
          · intro w hSw; (try dsimp only at hSw); go_simp; try (with_reducible rfl)
          try simp only [Act.put, List.setIfInBounds_toArray, List.set_cons_zero, List.set_cons_succ]
          refine take_runs (i := 15) (v := ?_) (by simp only [List.getElem?_toArray, List.getElem?_cons_succ, List.getElem?_cons_zero]; rfl) (by kernel_rfl) (by kernel_rfl) (by kernel_rfl) rfl (by exact fun _ _ _ h => h) (by rfl) ?_ (by assumption) ?_
          rotate_left
          · intro w hSw; (try dsimp only at hSw); go_simp; try (with_reducible rfl)
          try simp only [Act.put, List.setIfInBounds_toArray, List.set_cons_zero, List.set_cons_succ]
          refine take_runs (i := 16) (v := ?_) (by simp only [List.getElem?_toArray, List.getElem?_cons_succ, List.getElem?_cons_zero]; rfl) (by kernel_rfl) (by kernel_rfl) (by kernel_rfl) rfl (by exact fun _ _ _ h => h) (by rfl) ?_ (by assumption) ?_
          rotate_left
          · intro w hSw; (try dsimp only at hSw); go_simp; try (with_reducible rfl)
          try simp only [Act.put, List.setIfInBounds_toArray, List.set_cons_zero, List.set_cons_succ]
          refine take_runs (i := 17) (v := ?_) (by simp only [List.getElem?_toArray, List.getElem?_cons_succ, List.getElem?_cons_zero]; rfl) (by kernel_rfl) (by kernel_rfl) (by kernel_rfl) rfl (by exact fun _ _ _ h => h) (by rfl) ?_ (by assumption) ?_
          rotate_left
          · intro w hSw; (try dsimp only at hSw); go_simp; try (with_reducible rfl)
          try simp only [Act.put, List.setIfInBounds_toArray, List.set_cons_zero, List.set_cons_succ]
          refine take_runs (i := 18) (v := ?_) (by simp only [List.getElem?_toArray, List.getElem?_cons_succ, List.getElem?_cons_zero]; rfl) (by kernel_rfl) (by kernel_rfl) (by kernel_rfl) rfl (by exact fun _ _ _ h => h) (by rfl) ?_ (by assumption) ?_
          rotate_left
          · intro w hSw; (try dsimp only at hSw); go_simp; try (with_reducible rfl)
          try simp only [Act.put, List.setIfInBounds_toArray, List.set_cons_zero, List.set_cons_succ]
          refine take_runs (i := 19) (v := ?_) (by simp only [List.getElem?_toArray, List.getElem?_cons_succ, List.getElem?_cons_zero]; rfl) (by kernel_rfl) (by kernel_rfl) (by kernel_rfl) rfl (by exact fun _ _ _ h => h) (by rfl) ?_ (by assumption) ?_
          rotate_left
          · intro w hSw; (try dsimp only at hSw); go_simp; try (with_reducible rfl)
          try simp only [Act.put, List.setIfInBounds_toArray, List.set_cons_zero, List.set_cons_succ]
          refine take_runs (i := 20) (v := ?_) (by simp only [List.getElem?_toArray, List.getElem?_cons_succ, List.getElem?_cons_zero]; rfl) (by kernel_rfl) (by kernel_rfl) (by kernel_rfl) rfl (by exact fun _ _ _ h => h) (by rfl) ?_ (by assumption) ?_
          rotate_left
          · intro w hSw; (try dsimp only at hSw); go_simp; try (with_reducible rfl)
          try simp only [Act.put, List.setIfInBounds_toArray, List.set_cons_zero, List.set_cons_succ]
          refine take_runs (i := 21) (v := ?_) (by simp only [List.getElem?_toArray, List.getElem?_cons_succ, List.getElem?_cons_zero]; rfl) (by kernel_rfl) (by kernel_rfl) (by kernel_rfl) rfl (by exact fun _ _ _ h => h) (by rfl) ?_ (by assumption) ?_
          rotate_left
          · intro w hSw; (try dsimp only at hSw); go_simp; try (with_reducible rfl)
          try simp only [Act.put, List.setIfInBounds_toArray, List.set_cons_zero, List.set_cons_succ]
          refine wpAnyH_ready (rs := [22]) (by kernel_rfl) (by simp) ?_
          refine AllReadyH.cons (o := _) (by simp only [List.getElem?_toArray, List.getElem?_cons_succ, List.getElem?_cons_zero]; rfl) (fun K hK => ?_) AllReadyH.nil
          go_simp
          refine (HIN.out _).mono ?_
          rintro e w8 ⟨rfl, rfl⟩
          refine hK.out _ _ ⟨p2, hc1, hc2, hc3⟩ (fun hHeld => ?_)
          clear hK K
          try simp only [Act.put, List.setIfInBounds_toArray, List.set_cons_zero, List.set_cons_succ]
          refine take_runs (i := 23) (v := ?_) (by simp only [List.getElem?_toArray, List.getElem?_cons_succ, List.getElem?_cons_zero]; rfl) (by kernel_rfl) (by kernel_rfl) (by kernel_rfl) rfl (by exact fun _ _ _ h => h) (by rfl) ?_ (by assumption) ?_
          rotate_left
          · intro w hSw; (try dsimp only at hSw); go_simp; try (with_reducible rfl)
          try simp only [Act.put, List.setIfInBounds_toArray, List.set_cons_zero, List.set_cons_succ]
          refine take_runs (i := 24) (v := ?_) (by simp only [List.getElem?_toArray, List.getElem?_cons_succ, List.getElem?_cons_zero]; rfl) (by kernel_rfl) (by kernel_rfl) (by kernel_rfl) rfl (by exact fun _ _ _ h => h) (by rfl) ?_ (by assumption) ?_
          rotate_left
          · intro w hSw; (try dsimp only at hSw); go_simp; try (with_reducible rfl)
          try simp only [Act.put, List.setIfInBounds_toArray, List.set_cons_zero, List.set_cons_succ]
          refine wpAnyH_done (by kernel_rfl) ?_ _
          have b11 : Below W.heap.size W wr.drew := below_drew hbel
          clear hHeld
          go_wp2
          go_roundw
          case rel => exact ⟨k + 1, by omega, by go_num, HA, b11⟩
          case measure => simp [intOf]; omega
        · have HF := Lib.hid (HBAD.out (adm_out hin))
          have HIN := Lib.hid (fun w => in_no v lo hi w hin)
          clear hin HALL HBAD
          refine wp_region_held_drew (S := fun w' => w'.cell? ⟨w.heap.size, 2, none⟩ = some (.slice (some ⟨b, off, none⟩) cs.length ccap) ∧ w'.cell? ⟨b, off + k * 3, none⟩ = some (.int .i64 f) ∧ w'.cell? ⟨b, off + k * 3 + 1, none⟩ = some (.int .i64 lo) ∧ w'.cell? ⟨b, off + k * 3 + 2, none⟩ = some (.int .i64 hi)) (by kernel_rfl) ⟨p2, hc1, hc2, hc3⟩ (fun hHeld => ?_)
          refine take_runs (i := 0) (v := ?_) (by simp only [List.getElem?_toArray, List.getElem?_cons_succ, List.getElem?_cons_zero]; rfl) (by kernel_rfl) (by kernel_rfl) (by kernel_rfl) rfl (by exact fun _ _ _ h => h) (by rfl) ?_ (by assumption) ?_
          rotate_left
          · intro w hSw; (try dsimp only at hSw); go_simp; try (with_reducible rfl)
          try simp only [Act.put, List.setIfInBounds_toArray, List.set_cons_zero, List.set_cons_succ]
          refine take_runs (i := 1) (v := ?_) (by simp only [List.getElem?_toArray, List.getElem?_cons_succ, List.getElem?_cons_zero]; rfl) (by kernel_rfl) (by kernel_rfl) (by kernel_rfl) rfl (by exact fun _ _ _ h => h) (by rfl) ?_ (by assumption) ?_
          rotate_left
          · intro w hSw; (try dsimp only at hSw); go_simp; try (with_reducible rfl)
          try simp only [Act.put, List.setIfInBounds_toArray, List.set_cons_zero, List.set_cons_succ]
          refine take_runs (i := 2) (v := ?_) (by simp only [List.getElem?_toArray, List.getElem?_cons_succ, List.getElem?_cons_zero]; rfl) (by kernel_rfl) (by kernel_rfl) (by kernel_rfl) rfl (by exact fun _ _ _ h => h) (by rfl) ?_ (by assumption) ?_
          rotate_left
          · intro w hSw; (try dsimp only at hSw); go_simp; try (with_reducible rfl)
          try simp only [Act.put, List.setIfInBounds_toArray, List.set_cons_zero, List.set_cons_succ]
          refine take_runs (i := 3) (v := ?_) (by simp only [List.getElem?_toArray, List.getElem?_cons_succ, List.getElem?_cons_zero]; rfl) (by kernel_rfl) (by kernel_rfl) (by kernel_rfl) rfl (by exact fun _ _ _ h => h) (by rfl) ?_ (by assumption) ?_
          rotate_left
          · intro w hSw; (try dsimp only at hSw); go_simp; try (with_reducible rfl)
          try simp only [Act.put, List.setIfInBounds_toArray, List.set_cons_zero, List.set_cons_succ]
          refine take_runs (i := 4) (v := ?_) (by simp only [List.getElem?_toArray, List.getElem?_cons_succ, List.getElem?_cons_zero]; rfl) (by kernel_rfl) (by kernel_rfl) (by kernel_rfl) rfl (by exact fun _ _ _ h => h) (by rfl) ?_ (by assumption) ?_
          rotate_left
          · intro w hSw; (try dsimp only at hSw); go_simp; try (with_reducible rfl)
          try simp only [Act.put, List.setIfInBounds_toArray, List.set_cons_zero, List.set_cons_succ]
          refine take_runs (i := 5) (v := ?_) (by simp only [List.getElem?_toArray, List.getElem?_cons_succ, List.getElem?_cons_zero]; rfl) (by kernel_rfl) (by kernel_rfl) (by kernel_rfl) rfl (by exact fun _ _ _ h => h) (by rfl) ?_ (by assumption) ?_
          rotate_left
          · intro w hSw; (try dsimp only at hSw); go_simp; try (with_reducible rfl)
          try simp only [Act.put, List.setIfInBounds_toArray, List.set_cons_zero, List.set_cons_succ]
          refine take_runs (i := 6) (v := ?_) (by simp only [List.getElem?_toArray, List.getElem?_cons_succ, List.getElem?_cons_zero]; rfl) (by kernel_rfl) (by kernel_rfl) (by kernel_rfl) rfl (by exact fun _ _ _ h => h) (by rfl) ?_ (by assumption) ?_
          rotate_left
          · intro w hSw; (try dsimp only at hSw); go_simp; try (with_reducible rfl)
          try simp only [Act.put, List.setIfInBounds_toArray, List.set_cons_zero, List.set_cons_succ]
          refine take_runs (i := 7) (v := ?_) (by simp only [List.getElem?_toArray, List.getElem?_cons_succ, List.getElem?_cons_zero]; rfl) (by kernel_rfl) (by kernel_rfl) (by kernel_rfl) rfl (by exact fun _ _ _ h => h) (by rfl) ?_ (by assumption) ?_
          rotate_left
          · intro w hSw; (try dsimp only at hSw); go_simp; try (with_reducible rfl)
          try simp only [Act.put, List.setIfInBounds_toArray, List.set_cons_zero, List.set_cons_succ]
          refine take_runs (i := 8) (v := ?_) (by simp only [List.getElem?_toArray, List.getElem?_cons_succ, List.getElem?_cons_zero]; rfl) (by kernel_rfl) (by kernel_rfl) (by kernel_rfl) rfl (by exact fun _ _ _ h => h) (by rfl) ?_ (by assumption) ?_
          rotate_left
          · intro w hSw; (try dsimp only at hSw); go_simp; try (with_reducible rfl)
          try simp only [Act.put, List.setIfInBounds_toArray, List.set_cons_zero, List.set_cons_succ]
          refine take_runs (i := 9) (v := ?_) (by simp only [List.getElem?_toArray, List.getElem?_cons_succ, List.getElem?_cons_zero]; rfl) (by kernel_rfl) (by kernel_rfl) (by kernel_rfl) rfl (by exact fun _ _ _ h => h) (by rfl) ?_ (by assumption) ?_
          rotate_left
          · intro w hSw; (try dsimp only at hSw); go_simp; try (with_reducible rfl)
          try simp only [Act.put, List.setIfInBounds_toArray, List.set_cons_zero, List.set_cons_succ]
          refine take_runs (i := 10) (v := ?_) (by simp only [List.getElem?_toArray, List.getElem?_cons_succ, List.getElem?_cons_zero]; rfl) (by kernel_rfl) (by kernel_rfl) (by kernel_rfl) rfl (by exact fun _ _ _ h => h) (by rfl) ?_ (by assumption) ?_
          rotate_left
          · intro w hSw; (try dsimp only at hSw); go_simp; try (with_reducible rfl)
          try simp only [Act.put, List.setIfInBounds_toArray, List.set_cons_zero, List.set_cons_succ]
          refine take_runs (i := 11) (v := ?_) (by simp only [List.getElem?_toArray, List.getElem?_cons_succ, List.getElem?_cons_zero]; rfl) (by kernel_rfl) (by kernel_rfl) (by kernel_rfl) rfl (by exact fun _ _ _ h => h) (by rfl) ?_ (by assumption) ?_
          rotate_left
          · intro w hSw; (try dsimp only at hSw); go_simp; try (with_reducible rfl)
          try simp only [Act.put, List.setIfInBounds_toArray, List.set_cons_zero, List.set_cons_succ]
          refine take_runs (i := 12) (v := ?_) (by simp only [List.getElem?_toArray, List.getElem?_cons_succ, List.getElem?_cons_zero]; rfl) (by kernel_rfl) (by kernel_rfl) (by kernel_rfl) rfl (by exact fun _ _ _ h => h) (by rfl) ?_ (by assumption) ?_
          rotate_left
          · intro w hSw; (try dsimp only at hSw); go_simp; try (with_reducible rfl)
          try simp only [Act.put, List.setIfInBounds_toArray, List.set_cons_zero, List.set_cons_succ]
          refine take_runs (i := 13) (v := ?_) (by simp only [List.getElem?_toArray, List.getElem?_cons_succ, List.getElem?_cons_zero]; rfl) (by kernel_rfl) (by kernel_rfl) (by kernel_rfl) rfl (by exact fun _ _ _ h => h) (by rfl) ?_ (by assumption) ?_
          rotate_left
          · intro w hSw; (try dsimp only at hSw); go_simp; try (with_reducible rfl)
          try simp only [Act.put, List.setIfInBounds_toArray, List.set_cons_zero, List.set_cons_succ]
          refine take_runs (i := 14) (v := ?_) (by simp only [List.getElem?_toArray, List.getElem?_cons_succ, List.getElem?_cons_zero]; rfl) (by kernel_rfl) (by kernel_rfl) (by kernel_rfl) rfl (by exact fun _ _ _ h => h) (by rfl) ?_ (by assumption) ?_
          rotate_left
          · intro w hSw; (try dsimp only at hSw); go_simp; try (with_reducible rfl)
          try simp only [Act.put, List.setIfInBounds_toArray, List.set_cons_zero, List.set_cons_succ]
          refine take_runs (i := 15) (v := ?_) (by simp only [List.getElem?_toArray, List.getElem?_cons_succ, List.getElem?_cons_zero]; rfl) (by kernel_rfl) (by kernel_rfl) (by kernel_rfl) rfl (by exact fun _ _ _ h => h) (by rfl) ?_ (by assumption) ?_
          rotate_left
          · intro w hSw; (try dsimp only at hSw); go_simp; try (with_reducible rfl)
          try simp only [Act.put, List.setIfInBounds_toArray, List.set_cons_zero, List.set_cons_succ]
          refine take_runs (i := 16) (v := ?_) (by simp only [List.getElem?_toArray, List.getElem?_cons_succ, List.getElem?_cons_zero]; rfl) (by kernel_rfl) (by kernel_rfl) (by kernel_rfl) rfl (by exact fun _ _ _ h => h) (by rfl) ?_ (by assumption) ?_
          rotate_left
          · intro w hSw; (try dsimp only at hSw); go_simp; try (with_reducible rfl)
          try simp only [Act.put, List.setIfInBounds_toArray, List.set_cons_zero, List.set_cons_succ]
          refine take_runs (i := 17) (v := ?_) (by simp only [List.getElem?_toArray, List.getElem?_cons_succ, List.getElem?_cons_zero]; rfl) (by kernel_rfl) (by kernel_rfl) (by kernel_rfl) rfl (by exact fun _ _ _ h => h) (by rfl) ?_ (by assumption) ?_
          rotate_left
          · intro w hSw; (try dsimp only at hSw); go_simp; try (with_reducible rfl)
          try simp only [Act.put, List.setIfInBounds_toArray, List.set_cons_zero, List.set_cons_succ]
          refine take_runs (i := 18) (v := ?_) (by simp only [List.getElem?_toArray, List.getElem?_cons_succ, List.getElem?_cons_zero]; rfl) (by kernel_rfl) (by kernel_rfl) (by kernel_rfl) rfl (by exact fun _ _ _ h => h) (by rfl) ?_ (by assumption) ?_
          rotate_left
          · intro w hSw; (try dsimp only at hSw); go_simp; try (with_reducible rfl)
          try simp only [Act.put, List.setIfInBounds_toArray, List.set_cons_zero, List.set_cons_succ]
          refine take_runs (i := 19) (v := ?_) (by simp only [List.getElem?_toArray, List.getElem?_cons_succ, List.getElem?_cons_zero]; rfl) (by kernel_rfl) (by kernel_rfl) (by kernel_rfl) rfl (by exact fun _ _ _ h => h) (by rfl) ?_ (by assumption) ?_
          rotate_left
          · intro w hSw; (try dsimp only at hSw); go_simp; try (with_reducible rfl)
          try simp only [Act.put, List.setIfInBounds_toArray, List.set_cons_zero, List.set_cons_succ]
          refine take_runs (i := 20) (v := ?_) (by simp only [List.getElem?_toArray, List.getElem?_cons_succ, List.getElem?_cons_zero]; rfl) (by kernel_rfl) (by kernel_rfl) (by kernel_rfl) rfl (by exact fun _ _ _ h => h) (by rfl) ?_ (by assumption) ?_
          rotate_left
          · intro w hSw; (try dsimp only at hSw); go_simp; try (with_reducible rfl)
          try simp only [Act.put, List.setIfInBounds_toArray, List.set_cons_zero, List.set_cons_succ]
          refine take_runs (i := 21) (v := ?_) (by simp only [List.getElem?_toArray, List.getElem?_cons_succ, List.getElem?_cons_zero]; rfl) (by kernel_rfl) (by kernel_rfl) (by kernel_rfl) rfl (by exact fun _ _ _ h => h) (by rfl) ?_ (by assumption) ?_
          rotate_left
          · intro w hSw; (try dsimp only at hSw); go_simp; try (with_reducible rfl)
          try simp only [Act.put, List.setIfInBounds_toArray, List.set_cons_zero, List.set_cons_succ]
          refine wpAnyH_ready (rs := [22]) (by kernel_rfl) (by simp) ?_
          refine AllReadyH.cons (o := _) (by simp only [List.getElem?_toArray, List.getElem?_cons_succ, List.getElem?_cons_zero]; rfl) (fun K hK => ?_) AllReadyH.nil
          go_simp
          refine (HIN.out _).mono ?_
          rintro e w8 ⟨rfl, rfl⟩
          refine hK.out _ _ ⟨p2, hc1, hc2, hc3⟩ (fun hHeld => ?_)
          clear hK K
          try simp only [Act.put, List.setIfInBounds_toArray, List.set_cons_zero, List.set_cons_succ]
          refine take_runs (i := 23) (v := ?_) (by simp only [List.getElem?_toArray, List.getElem?_cons_succ, List.getElem?_cons_zero]; rfl) (by kernel_rfl) (by kernel_rfl) (by kernel_rfl) rfl (by exact fun _ _ _ h => h) (by rfl) ?_ (by assumption) ?_
          rotate_left
          · intro w hSw; (try dsimp only at hSw); go_simp; try (with_reducible rfl)
          try simp only [Act.put, List.setIfInBounds_toArray, List.set_cons_zero, List.set_cons_succ]
          refine take_runs (i := 24) (v := ?_) (by simp only [List.getElem?_toArray, List.getElem?_cons_succ, List.getElem?_cons_zero]; rfl) (by kernel_rfl) (by kernel_rfl) (by kernel_rfl) rfl (by exact fun _ _ _ h => h) (by rfl) ?_ (by assumption) ?_
          rotate_left
          · intro w hSw; (try dsimp only at hSw); go_simp; try (with_reducible rfl)
          try simp only [Act.put, List.setIfInBounds_toArray, List.set_cons_zero, List.set_cons_succ]
          refine wpAnyH_done (by kernel_rfl) ?_ _
          have b11 : Below W.heap.size W wr.drew := below_drew hbel
          clear hHeld
          go_wp2
          go_ret
          exact ⟨ret_b HF.out.symm, HB0.out.trans (b11.mono HB0.out.size)⟩
      · have ef : (f == field) = false := by rw [beq_eq_false_iff_ne]; exact hf
        have HA := Lib.hid (HALL.out (adm_other hf))
        clear hf HALL HBAD
        refine wp_region_held_drew (S := fun w' => w'.cell? ⟨w.heap.size, 2, none⟩ = some (.slice (some ⟨b, off, none⟩) cs.length ccap) ∧ w'.cell? ⟨b, off + k * 3, none⟩ = some (.int .i64 f) ∧ w'.cell? ⟨b, off + k * 3 + 1, none⟩ = some (.int .i64 lo) ∧ w'.cell? ⟨b, off + k * 3 + 2, none⟩ = some (.int .i64 hi)) (by kernel_rfl) ⟨p2, hc1, hc2, hc3⟩ (fun hHeld => ?_)
        refine take_runs (i := 0) (v := ?_) (by simp only [List.getElem?_toArray, List.getElem?_cons_succ, List.getElem?_cons_zero]; rfl) (by kernel_rfl) (by kernel_rfl) (by kernel_rfl) rfl (by exact fun _ _ _ h => h) (by rfl) ?_ (by assumption) ?_
        rotate_left
        · intro w hSw; (try dsimp only at hSw); go_simp; try (with_reducible rfl)
        try simp only [Act.put, List.setIfInBounds_toArray, List.set_cons_zero, List.set_cons_succ]
        refine take_runs (i := 1) (v := ?_) (by simp only [List.getElem?_toArray, List.getElem?_cons_succ, List.getElem?_cons_zero]; rfl) (by kernel_rfl) (by kernel_rfl) (by kernel_rfl) rfl (by exact fun _ _ _ h => h) (by rfl) ?_ (by assumption) ?_
        rotate_left
        · intro w hSw; (try dsimp only at hSw); go_simp; try (with_reducible rfl)
        try simp only [Act.put, List.setIfInBounds_toArray, List.set_cons_zero, List.set_cons_succ]
        refine take_runs (i := 2) (v := ?_) (by simp only [List.getElem?_toArray, List.getElem?_cons_succ, List.getElem?_cons_zero]; rfl) (by kernel_rfl) (by kernel_rfl) (by kernel_rfl) rfl (by exact fun _ _ _ h => h) (by rfl) ?_ (by assumption) ?_
        rotate_left
        · intro w hSw; (try dsimp only at hSw); go_simp; try (with_reducible rfl)
        try simp only [Act.put, List.setIfInBounds_toArray, List.set_cons_zero, List.set_cons_succ]
        refine take_runs (i := 3) (v := ?_) (by simp only [List.getElem?_toArray, List.getElem?_cons_succ, List.getElem?_cons_zero]; rfl) (by kernel_rfl) (by kernel_rfl) (by kernel_rfl) rfl (by exact fun _ _ _ h => h) (by rfl) ?_ (by assumption) ?_
        rotate_left
        · intro w hSw; (try dsimp only at hSw); go_simp; try (with_reducible rfl)
        try simp only [Act.put, List.setIfInBounds_toArray, List.set_cons_zero, List.set_cons_succ]
        refine take_runs (i := 4) (v := ?_) (by simp only [List.getElem?_toArray, List.getElem?_cons_succ, List.getElem?_cons_zero]; rfl) (by kernel_rfl) (by kernel_rfl) (by kernel_rfl) rfl (by exact fun _ _ _ h => h) (by rfl) ?_ (by assumption) ?_
        rotate_left
        · intro w hSw; (try dsimp only at hSw); go_simp; try (with_reducible rfl)
        try simp only [Act.put, List.setIfInBounds_toArray, List.set_cons_zero, List.set_cons_succ]
        refine take_runs (i := 5) (v := ?_) (by simp only [List.getElem?_toArray, List.getElem?_cons_succ, List.getElem?_cons_zero]; rfl) (by kernel_rfl) (by kernel_rfl) (by kernel_rfl) rfl (by exact fun _ _ _ h => h) (by rfl) ?_ (by assumption) ?_
        rotate_left
        · intro w hSw; (try dsimp only at hSw); go_simp; try (with_reducible rfl)
        try simp only [Act.put, List.setIfInBounds_toArray, List.set_cons_zero, List.set_cons_succ]
        refine take_runs (i := 6) (v := ?_) (by simp only [List.getElem?_toArray, List.getElem?_cons_succ, List.getElem?_cons_zero]; rfl) (by kernel_rfl) (by kernel_rfl) (by kernel_rfl) rfl (by exact fun _ _ _ h => h) (by rfl) ?_ (by assumption) ?_
        rotate_left
        · intro w hSw; (try dsimp only at hSw); go_simp; try (with_reducible rfl)
        try simp only [Act.put, List.setIfInBounds_toArray, List.set_cons_zero, List.set_cons_succ]
        refine take_runs (i := 7) (v := ?_) (by simp only [List.getElem?_toArray, List.getElem?_cons_succ, List.getElem?_cons_zero]; rfl) (by kernel_rfl) (by kernel_rfl) (by kernel_rfl) rfl (by exact fun _ _ _ h => h) (by rfl) ?_ (by assumption) ?_
        rotate_left
        · intro w hSw; (try dsimp only at hSw); go_simp; try (with_reducible rfl)
        try simp only [Act.put, List.setIfInBounds_toArray, List.set_cons_zero, List.set_cons_succ]
        refine take_runs (i := 8) (v := ?_) (by simp only [List.getElem?_toArray, List.getElem?_cons_succ, List.getElem?_cons_zero]; rfl) (by kernel_rfl) (by kernel_rfl) (by kernel_rfl) rfl (by exact fun _ _ _ h => h) (by rfl) ?_ (by assumption) ?_
        rotate_left
        · intro w hSw; (try dsimp only at hSw); go_simp; try (with_reducible rfl)
        try simp only [Act.put, List.setIfInBounds_toArray, List.set_cons_zero, List.set_cons_succ]
        refine take_over (i := 9) (by simp only [List.getElem?_toArray, List.getElem?_cons_succ, List.getElem?_cons_zero]; rfl) (by kernel_rfl) (by kernel_rfl) (by kernel_rfl) rfl (by exact fun _ _ _ h => h) (by rfl) (by assumption) ?_
        try simp only [Act.put, List.setIfInBounds_toArray, List.set_cons_zero, List.set_cons_succ]
        refine take_over (i := 10) (by simp only [List.getElem?_toArray, List.getElem?_cons_succ, List.getElem?_cons_zero]; rfl) (by kernel_rfl) (by kernel_rfl) (by kernel_rfl) rfl (by exact fun _ _ _ h => h) (by rfl) (by assumption) ?_
        try simp only [Act.put, List.setIfInBounds_toArray, List.set_cons_zero, List.set_cons_succ]
        refine take_over (i := 11) (by simp only [List.getElem?_toArray, List.getElem?_cons_succ, List.getElem?_cons_zero]; rfl) (by kernel_rfl) (by kernel_rfl) (by kernel_rfl) rfl (by exact fun _ _ _ h => h) (by rfl) (by assumption) ?_
        try simp only [Act.put, List.setIfInBounds_toArray, List.set_cons_zero, List.set_cons_succ]
        refine take_over (i := 12) (by simp only [List.getElem?_toArray, List.getElem?_cons_succ, List.getElem?_cons_zero]; rfl) (by kernel_rfl) (by kernel_rfl) (by kernel_rfl) rfl (by exact fun _ _ _ h => h) (by rfl) (by assumption) ?_
        try simp only [Act.put, List.setIfInBounds_toArray, List.set_cons_zero, List.set_cons_succ]
        refine take_over (i := 13) (by simp only [List.getElem?_toArray, List.getElem?_cons_succ, List.getElem?_cons_zero]; rfl) (by kernel_rfl) (by kernel_rfl) (by kernel_rfl) rfl (by exact fun _ _ _ h => h) (by rfl) (by assumption) ?_
        try simp only [Act.put, List.setIfInBounds_toArray, List.set_cons_zero, List.set_cons_succ]
        refine take_over (i := 14) (by simp only [List.getElem?_toArray, List.getElem?_cons_succ, List.getElem?_cons_zero]; rfl) (by kernel_rfl) (by kernel_rfl) (by kernel_rfl) rfl (by exact fun _ _ _ h => h) (by rfl) (by assumption) ?_
        try simp only [Act.put, List.setIfInBounds_toArray, List.set_cons_zero, List.set_cons_succ]
        refine take_over (i := 15) (by simp only [List.getElem?_toArray, List.getElem?_cons_succ, List.getElem?_cons_zero]; rfl) (by kernel_rfl) (by kernel_rfl) (by kernel_rfl) rfl (by exact fun _ _ _ h => h) (by rfl) (by assumption) ?_
        try simp only [Act.put, List.setIfInBounds_toArray, List.set_cons_zero, List.set_cons_succ]
        refine take_over (i := 16) (by simp only [List.getElem?_toArray, List.getElem?_cons_succ, List.getElem?_cons_zero]; rfl) (by kernel_rfl) (by kernel_rfl) (by kernel_rfl) rfl (by exact fun _ _ _ h => h) (by rfl) (by assumption) ?_
        try simp only [Act.put, List.setIfInBounds_toArray, List.set_cons_zero, List.set_cons_succ]
        refine take_over (i := 17) (by simp only [List.getElem?_toArray, List.getElem?_cons_succ, List.getElem?_cons_zero]; rfl) (by kernel_rfl) (by kernel_rfl) (by kernel_rfl) rfl (by exact fun _ _ _ h => h) (by rfl) (by assumption) ?_
        try simp only [Act.put, List.setIfInBounds_toArray, List.set_cons_zero, List.set_cons_succ]
        refine take_over (i := 18) (by simp only [List.getElem?_toArray, List.getElem?_cons_succ, List.getElem?_cons_zero]; rfl) (by kernel_rfl) (by kernel_rfl) (by kernel_rfl) rfl (by exact fun _ _ _ h => h) (by rfl) (by assumption) ?_
        try simp only [Act.put, List.setIfInBounds_toArray, List.set_cons_zero, List.set_cons_succ]
        refine take_over (i := 19) (by simp only [List.getElem?_toArray, List.getElem?_cons_succ, List.getElem?_cons_zero]; rfl) (by kernel_rfl) (by kernel_rfl) (by kernel_rfl) rfl (by exact fun _ _ _ h => h) (by rfl) (by assumption) ?_
        try simp only [Act.put, List.setIfInBounds_toArray, List.set_cons_zero, List.set_cons_succ]
        refine take_over (i := 20) (by simp only [List.getElem?_toArray, List.getElem?_cons_succ, List.getElem?_cons_zero]; rfl) (by kernel_rfl) (by kernel_rfl) (by kernel_rfl) rfl (by exact fun _ _ _ h => h) (by rfl) (by assumption) ?_
        try simp only [Act.put, List.setIfInBounds_toArray, List.set_cons_zero, List.set_cons_succ]
        refine take_over (i := 21) (by simp only [List.getElem?_toArray, List.getElem?_cons_succ, List.getElem?_cons_zero]; rfl) (by kernel_rfl) (by kernel_rfl) (by kernel_rfl) rfl (by exact fun _ _ _ h => h) (by rfl) (by assumption) ?_
        try simp only [Act.put, List.setIfInBounds_toArray, List.set_cons_zero, List.set_cons_succ]
        refine take_over (i := 22) (by simp only [List.getElem?_toArray, List.getElem?_cons_succ, List.getElem?_cons_zero]; rfl) (by kernel_rfl) (by kernel_rfl) (by kernel_rfl) rfl (by exact fun _ _ _ h => h) (by rfl) (by assumption) ?_
        try simp only [Act.put, List.setIfInBounds_toArray, List.set_cons_zero, List.set_cons_succ]
        refine take_over (i := 23) (by simp only [List.getElem?_toArray, List.getElem?_cons_succ, List.getElem?_cons_zero]; rfl) (by kernel_rfl) (by kernel_rfl) (by kernel_rfl) rfl (by exact fun _ _ _ h => h) (by rfl) (by assumption) ?_
        try simp only [Act.put, List.setIfInBounds_toArray, List.set_cons_zero, List.set_cons_succ]
        refine take_runs (i := 24) (v := ?_) (by simp only [List.getElem?_toArray, List.getElem?_cons_succ, List.getElem?_cons_zero]; rfl) (by kernel_rfl) (by kernel_rfl) (by kernel_rfl) rfl (by exact fun _ _ _ h => h) (by rfl) ?_ (by assumption) ?_
        rotate_left
        · intro w hSw; (try dsimp only at hSw); go_simp; try (with_reducible rfl)
        try simp only [Act.put, List.setIfInBounds_toArray, List.set_cons_zero, List.set_cons_succ]
        refine wpAnyH_done (by kernel_rfl) ?_ _
        have b11 : Below W.heap.size W wr.drew := below_drew hbel
        clear hHeld
        go_wp2
        go_roundw
        case rel => exact ⟨k + 1, by omega, by go_num, HA, b11⟩
        case measure => simp [intOf]; omega
    · obtain rfl : k = cs.length := by omega
      have HF := Lib.hid (adm_ok hall.out)
      clear hall
      go_wp2
      go_ret
      exact ⟨ret_b HF.out.symm, HB0.out.trans (hbel.mono HB0.out.size)⟩
end Go.Proofs.YtmkcfkblfjhnhaaDoor
namespace Go.Proofs.YtmkcfkblfjhnhaaDoor
open Go.RowKit
set_option linter.unusedVariables false
set_option linter.unusedSimpArgs false
/-- Is it a query? -/
def qB (q : QD) : Bool := queryB q.1 q.2.1 q.2.2.1 q.2.2.2
/-- As far as k the queries are queries, in ascending order of their numbers. -/
def AreQTo (qs : List QD) (k : Nat) : Prop := ∀ i, i < k → qB (qs.getD i q0D) = true ∧ (0 < i → (qs.getD (i - 1) q0D).1 < (qs.getD i q0D).1)
/-- Are they queries? -/
def areQB (qs : List QD) : Bool := (List.range qs.length).all (fun i => qB (qs.getD i q0D) && (decide (i = 0) || decide ((qs.getD (i - 1) q0D).1 < (qs.getD i q0D).1))) && decide (qs.length ≤ 24)
theorem areQB_all {qs : List QD} (h : AreQTo qs qs.length) : areQB qs = decide (qs.length ≤ 24) := by
  have : (List.range qs.length).all (fun i => qB (qs.getD i q0D) && (decide (i = 0) || decide ((qs.getD (i - 1) q0D).1 < (qs.getD i q0D).1))) = true := by
    rw [List.all_eq_true]
    intro i hi
    rw [List.mem_range] at hi
    obtain ⟨h1, h2⟩ := h i hi
    rw [h1]
    by_cases e : i = 0
    · simp [e]
    · rw [decide_eq_true (h2 (by omega))]; simp
  unfold areQB
  simp only [this, Bool.true_and]
theorem areQB_bad {qs : List QD} {k : Nat} (hk : k < qs.length) (h : qB (qs.getD k q0D) = false ∨ (0 < k ∧ ¬ (qs.getD (k - 1) q0D).1 < (qs.getD k q0D).1)) : areQB qs = false := by
  have : (List.range qs.length).all (fun i => qB (qs.getD i q0D) && (decide (i = 0) || decide ((qs.getD (i - 1) q0D).1 < (qs.getD i q0D).1))) = false := by
    rw [Bool.eq_false_iff]
    intro g
    rw [List.all_eq_true] at g
    have := g k (List.mem_range.2 hk)
    rw [Bool.and_eq_true, Bool.or_eq_true, decide_eq_true_eq, decide_eq_true_eq] at this
    rcases h with h | ⟨h1, h2⟩
    · rw [h] at this; exact Bool.noConfusion this.1
    · rcases this.2 with e | e
      · omega
      · exact h2 e
  unfold areQB
  simp only [this, Bool.false_and]
theorem areQTo_step {qs : List QD} {k : Nat} (h : AreQTo qs k) (h1 : qB (qs.getD k q0D) = true) (h2 : 0 < k → (qs.getD (k - 1) q0D).1 < (qs.getD k q0D).1) : AreQTo qs (k + 1) := fun i hi => by
  by_cases e : i = k
  · subst e; exact ⟨h1, h2⟩
  · exact h i (by omega)
set_option maxHeartbeats 8000000 in
set_option maxRecDepth 100000 in
theorem specAreQueries (v : Value) (qs : List QD) (w : World) (h : QueriesR w v qs) (hs : szQL qs ≤ 1048576) :
    Calls Tryd.prog 12 #[v] w fun e w' => e = .returned (.bool (areQB qs)) ∧ Below w.heap.size w w' := by
  have H := Lib.hid h
  have HS := Lib.hid hs
  have hlen := szQL_len hs
  obtain ⟨a, cap, rfl⟩ := queriesR_len h
  clear h hs
  go_enter Tryd.func12, Tryd.ntmps12
  go_wp2
  go_loopw [3] (fun i wr => ∃ k : Nat, k ≤ qs.length ∧ i = .int .i64 k ∧ Hid (AreQTo qs k) ∧ Below w.heap.size w wr) (fun i _ => qs.length - (intOf i).toNat)
  case atStart => exact ⟨0, Nat.zero_le _, rfl, Lib.hid (fun i hi => by omega), Below.refl _ _⟩
  case round =>
    obtain ⟨k, hk, rfl, hall, hbel⟩ := hrel
    by_cases hlt : k < qs.length
    · have H1 := Lib.hid (queriesR_below H.out hbel)
      obtain ⟨b, off, cap', cv, ov, hv, hbl, hc1, hc2, hc3, hc4, hC, hI⟩ := queriesR_at H1.out hlt
      simp only [Value.slice.injEq] at hv
      obtain ⟨rfl, _, rfl⟩ := hv
      have hxl := szQL_at HS.out hlt
      have HBAD := Lib.hid (areQB_bad (qs := qs) (k := k) hlt)
      have HSTEP := Lib.hid (areQTo_step hall.out)
      have HR : Hid (∀ (w : World), CondsR w cv (qs.getD k q0D).2.2.1 → Ints w ov (qs.getD k q0D).2.2.2 → Calls Tryd.prog 34 #[qV (qs.getD k q0D).1 (qs.getD k q0D).2.1 cv ov] w fun e w' => e = .returned (.bool (qB (qs.getD k q0D))) ∧ Below w.heap.size w w') :=
        Lib.hid (fun w h g => specIsQuery (qs.getD k q0D).1 (qs.getD k q0D).2.1 cv ov (qs.getD k q0D).2.2.1 (qs.getD k q0D).2.2.2 w h hxl.1 g hxl.2)
      have i1 : (0 : Int) ≤ (k : Int) := by omega
      have i2 : (k : Int) < (qs.length : Int) := by omega
      clear hall hxl
      cases hrb : qB (qs.getD k q0D) with
      | false =>
        have HF := Lib.hid (HBAD.out (Or.inl hrb))
        rw [hrb] at HR
        clear hrb HBAD HSTEP H1
        generalize (qs.getD k q0D).1 = id at *
        generalize (qs.getD k q0D).2.1 = tn at *
        generalize (qs.getD k q0D).2.2.1 = cs at *
        generalize (qs.getD k q0D).2.2.2 = os at *
        go_wp2
        refine wp_region_held_drew (S := fun w' => w'.cell? ⟨b, off + k * 4, none⟩ = some (.int .i64 id) ∧ w'.cell? ⟨b, off + k * 4 + 1, none⟩ = some (.int .i64 tn) ∧ w'.cell? ⟨b, off + k * 4 + 2, none⟩ = some (cv) ∧ w'.cell? ⟨b, off + k * 4 + 3, none⟩ = some (ov)) (by kernel_rfl) ⟨hc1, hc2, hc3, hc4⟩ (fun hHeld => ?_)
        refine take_runs (i := 0) (v := ?_) (by simp only [List.getElem?_toArray, List.getElem?_cons_succ, List.getElem?_cons_zero]; rfl) (by kernel_rfl) (by kernel_rfl) (by kernel_rfl) rfl (by exact fun _ _ _ h => h) (by rfl) ?_ (by assumption) ?_
        rotate_left
        · intro w hSw; (try dsimp only at hSw); go_simp; try (with_reducible rfl)
        try simp only [Act.put, List.setIfInBounds_toArray, List.set_cons_zero, List.set_cons_succ]
        refine take_runs (i := 1) (v := ?_) (by simp only [List.getElem?_toArray, List.getElem?_cons_succ, List.getElem?_cons_zero]; rfl) (by kernel_rfl) (by kernel_rfl) (by kernel_rfl) rfl (by exact fun _ _ _ h => h) (by rfl) ?_ (by assumption) ?_
        rotate_left
        · intro w hSw; (try dsimp only at hSw); go_simp; try (with_reducible rfl)
        try simp only [Act.put, List.setIfInBounds_toArray, List.set_cons_zero, List.set_cons_succ]
        refine take_runs (i := 2) (v := ?_) (by simp only [List.getElem?_toArray, List.getElem?_cons_succ, List.getElem?_cons_zero]; rfl) (by kernel_rfl) (by kernel_rfl) (by kernel_rfl) rfl (by exact fun _ _ _ h => h) (by rfl) ?_ (by assumption) ?_
        rotate_left
        · intro w hSw; (try dsimp only at hSw); go_simp; try (with_reducible rfl)
        try simp only [Act.put, List.setIfInBounds_toArray, List.set_cons_zero, List.set_cons_succ]
        refine take_runs (i := 3) (v := ?_) (by simp only [List.getElem?_toArray, List.getElem?_cons_succ, List.getElem?_cons_zero]; rfl) (by kernel_rfl) (by kernel_rfl) (by kernel_rfl) rfl (by exact fun _ _ _ h => h) (by rfl) ?_ (by assumption) ?_
        rotate_left
        · intro w hSw; (try dsimp only at hSw); go_simp; try (with_reducible rfl)
        try simp only [Act.put, List.setIfInBounds_toArray, List.set_cons_zero, List.set_cons_succ]
        refine wpAnyH_ready (rs := [4]) (by kernel_rfl) (by simp) ?_
        refine AllReadyH.cons (o := _) (by simp only [List.getElem?_toArray, List.getElem?_cons_succ, List.getElem?_cons_zero]; rfl) (fun K hK => ?_) AllReadyH.nil
        go_simp
        refine (HR.out _ (by exact condsR_heap hC rfl) (by exact ints_heap hI rfl)).mono ?_
        rintro e w8 ⟨rfl, b9⟩
        have b10 : Below wr.heap.size wr w8 := ⟨b9.os, b9.tape, b9.output, b9.size, b9.block⟩
        have s1 := (b10.cell (p := ⟨b, off + k * 4, none⟩) hbl).trans hc1
        have s2 := (b10.cell (p := ⟨b, off + k * 4 + 1, none⟩) hbl).trans hc2
        have s3 := (b10.cell (p := ⟨b, off + k * 4 + 2, none⟩) hbl).trans hc3
        have s4 := (b10.cell (p := ⟨b, off + k * 4 + 3, none⟩) hbl).trans hc4
        refine hK.out _ _ ⟨s1, s2, s3, s4⟩ (fun hHeld => ?_)
        clear hK K
        try simp only [Act.put, List.setIfInBounds_toArray, List.set_cons_zero, List.set_cons_succ]
        refine take_runs (i := 5) (v := ?_) (by simp only [List.getElem?_toArray, List.getElem?_cons_succ, List.getElem?_cons_zero]; rfl) (by kernel_rfl) (by kernel_rfl) (by kernel_rfl) rfl (by exact fun _ _ _ h => h) (by rfl) ?_ (by assumption) ?_
        rotate_left
        · intro w hSw; (try dsimp only at hSw); go_simp; try (with_reducible rfl)
        try simp only [Act.put, List.setIfInBounds_toArray, List.set_cons_zero, List.set_cons_succ]
        refine take_runs (i := 6) (v := ?_) (by simp only [List.getElem?_toArray, List.getElem?_cons_succ, List.getElem?_cons_zero]; rfl) (by kernel_rfl) (by kernel_rfl) (by kernel_rfl) rfl (by exact fun _ _ _ h => h) (by rfl) ?_ (by assumption) ?_
        rotate_left
        · intro w hSw; (try dsimp only at hSw); go_simp; try (with_reducible rfl)
        try simp only [Act.put, List.setIfInBounds_toArray, List.set_cons_zero, List.set_cons_succ]
        refine take_over (i := 7) (by simp only [List.getElem?_toArray, List.getElem?_cons_succ, List.getElem?_cons_zero]; rfl) (by kernel_rfl) (by kernel_rfl) (by kernel_rfl) rfl (by exact fun _ _ _ h => h) (by rfl) (by assumption) ?_
        try simp only [Act.put, List.setIfInBounds_toArray, List.set_cons_zero, List.set_cons_succ]
        refine take_over (i := 8) (by simp only [List.getElem?_toArray, List.getElem?_cons_succ, List.getElem?_cons_zero]; rfl) (by kernel_rfl) (by kernel_rfl) (by kernel_rfl) rfl (by exact fun _ _ _ h => h) (by rfl) (by assumption) ?_
        try simp only [Act.put, List.setIfInBounds_toArray, List.set_cons_zero, List.set_cons_succ]
        refine take_over (i := 9) (by simp only [List.getElem?_toArray, List.getElem?_cons_succ, List.getElem?_cons_zero]; rfl) (by kernel_rfl) (by kernel_rfl) (by kernel_rfl) rfl (by exact fun _ _ _ h => h) (by rfl) (by assumption) ?_
        try simp only [Act.put, List.setIfInBounds_toArray, List.set_cons_zero, List.set_cons_succ]
        refine take_over (i := 10) (by simp only [List.getElem?_toArray, List.getElem?_cons_succ, List.getElem?_cons_zero]; rfl) (by kernel_rfl) (by kernel_rfl) (by kernel_rfl) rfl (by exact fun _ _ _ h => h) (by rfl) (by assumption) ?_
        try simp only [Act.put, List.setIfInBounds_toArray, List.set_cons_zero, List.set_cons_succ]
        refine take_over (i := 11) (by simp only [List.getElem?_toArray, List.getElem?_cons_succ, List.getElem?_cons_zero]; rfl) (by kernel_rfl) (by kernel_rfl) (by kernel_rfl) rfl (by exact fun _ _ _ h => h) (by rfl) (by assumption) ?_
        try simp only [Act.put, List.setIfInBounds_toArray, List.set_cons_zero, List.set_cons_succ]
        refine take_over (i := 12) (by simp only [List.getElem?_toArray, List.getElem?_cons_succ, List.getElem?_cons_zero]; rfl) (by kernel_rfl) (by kernel_rfl) (by kernel_rfl) rfl (by exact fun _ _ _ h => h) (by rfl) (by assumption) ?_
        try simp only [Act.put, List.setIfInBounds_toArray, List.set_cons_zero, List.set_cons_succ]
        refine take_over (i := 13) (by simp only [List.getElem?_toArray, List.getElem?_cons_succ, List.getElem?_cons_zero]; rfl) (by kernel_rfl) (by kernel_rfl) (by kernel_rfl) rfl (by exact fun _ _ _ h => h) (by rfl) (by assumption) ?_
        try simp only [Act.put, List.setIfInBounds_toArray, List.set_cons_zero, List.set_cons_succ]
        refine take_over (i := 14) (by simp only [List.getElem?_toArray, List.getElem?_cons_succ, List.getElem?_cons_zero]; rfl) (by kernel_rfl) (by kernel_rfl) (by kernel_rfl) rfl (by exact fun _ _ _ h => h) (by rfl) (by assumption) ?_
        try simp only [Act.put, List.setIfInBounds_toArray, List.set_cons_zero, List.set_cons_succ]
        refine take_over (i := 15) (by simp only [List.getElem?_toArray, List.getElem?_cons_succ, List.getElem?_cons_zero]; rfl) (by kernel_rfl) (by kernel_rfl) (by kernel_rfl) rfl (by exact fun _ _ _ h => h) (by rfl) (by assumption) ?_
        try simp only [Act.put, List.setIfInBounds_toArray, List.set_cons_zero, List.set_cons_succ]
        refine take_over (i := 16) (by simp only [List.getElem?_toArray, List.getElem?_cons_succ, List.getElem?_cons_zero]; rfl) (by kernel_rfl) (by kernel_rfl) (by kernel_rfl) rfl (by exact fun _ _ _ h => h) (by rfl) (by assumption) ?_
        try simp only [Act.put, List.setIfInBounds_toArray, List.set_cons_zero, List.set_cons_succ]
        refine take_over (i := 17) (by simp only [List.getElem?_toArray, List.getElem?_cons_succ, List.getElem?_cons_zero]; rfl) (by kernel_rfl) (by kernel_rfl) (by kernel_rfl) rfl (by exact fun _ _ _ h => h) (by rfl) (by assumption) ?_
        try simp only [Act.put, List.setIfInBounds_toArray, List.set_cons_zero, List.set_cons_succ]
        refine take_over (i := 18) (by simp only [List.getElem?_toArray, List.getElem?_cons_succ, List.getElem?_cons_zero]; rfl) (by kernel_rfl) (by kernel_rfl) (by kernel_rfl) rfl (by exact fun _ _ _ h => h) (by rfl) (by assumption) ?_
        try simp only [Act.put, List.setIfInBounds_toArray, List.set_cons_zero, List.set_cons_succ]
        refine take_over (i := 19) (by simp only [List.getElem?_toArray, List.getElem?_cons_succ, List.getElem?_cons_zero]; rfl) (by kernel_rfl) (by kernel_rfl) (by kernel_rfl) rfl (by exact fun _ _ _ h => h) (by rfl) (by assumption) ?_
        try simp only [Act.put, List.setIfInBounds_toArray, List.set_cons_zero, List.set_cons_succ]
        refine take_over (i := 20) (by simp only [List.getElem?_toArray, List.getElem?_cons_succ, List.getElem?_cons_zero]; rfl) (by kernel_rfl) (by kernel_rfl) (by kernel_rfl) rfl (by exact fun _ _ _ h => h) (by rfl) (by assumption) ?_
        try simp only [Act.put, List.setIfInBounds_toArray, List.set_cons_zero, List.set_cons_succ]
        refine take_over (i := 21) (by simp only [List.getElem?_toArray, List.getElem?_cons_succ, List.getElem?_cons_zero]; rfl) (by kernel_rfl) (by kernel_rfl) (by kernel_rfl) rfl (by exact fun _ _ _ h => h) (by rfl) (by assumption) ?_
        try simp only [Act.put, List.setIfInBounds_toArray, List.set_cons_zero, List.set_cons_succ]
        refine take_over (i := 22) (by simp only [List.getElem?_toArray, List.getElem?_cons_succ, List.getElem?_cons_zero]; rfl) (by kernel_rfl) (by kernel_rfl) (by kernel_rfl) rfl (by exact fun _ _ _ h => h) (by rfl) (by assumption) ?_
        try simp only [Act.put, List.setIfInBounds_toArray, List.set_cons_zero, List.set_cons_succ]
        refine take_runs (i := 23) (v := ?_) (by simp only [List.getElem?_toArray, List.getElem?_cons_succ, List.getElem?_cons_zero]; rfl) (by kernel_rfl) (by kernel_rfl) (by kernel_rfl) rfl (by exact fun _ _ _ h => h) (by rfl) ?_ (by assumption) ?_
        rotate_left
        · intro w hSw; (try dsimp only at hSw); go_simp; try (with_reducible rfl)
        try simp only [Act.put, List.setIfInBounds_toArray, List.set_cons_zero, List.set_cons_succ]
        refine wpAnyH_done (by kernel_rfl) ?_ _
        have b11 := hbel.trans (b10.mono hbel.size)
        clear s1 s2 s3 s4 hHeld b9 b10
        try clear s5
        go_wp2
        go_ret
        exact ⟨ret_b HF.out.symm, b11⟩
      | true =>
        rw [hrb] at HR
        by_cases hz : k = 0
        · have HA := Lib.hid (HSTEP.out hrb (fun g => absurd g (by omega)))
          have hg : decide ((0 : Int) < (k : Int)) = false := decide_eq_false (by omega)
          have hgn : decide (0 < k) = false := decide_eq_false (by omega)
          clear hrb HBAD HSTEP H1 hz
          generalize (qs.getD k q0D).1 = id at *
          generalize (qs.getD k q0D).2.1 = tn at *
          generalize (qs.getD k q0D).2.2.1 = cs at *
          generalize (qs.getD k q0D).2.2.2 = os at *
          go_wp2
          refine wp_region_held_drew (S := fun w' => w'.cell? ⟨b, off + k * 4, none⟩ = some (.int .i64 id) ∧ w'.cell? ⟨b, off + k * 4 + 1, none⟩ = some (.int .i64 tn) ∧ w'.cell? ⟨b, off + k * 4 + 2, none⟩ = some (cv) ∧ w'.cell? ⟨b, off + k * 4 + 3, none⟩ = some (ov)) (by kernel_rfl) ⟨hc1, hc2, hc3, hc4⟩ (fun hHeld => ?_)
          refine take_runs (i := 0) (v := ?_) (by simp only [List.getElem?_toArray, List.getElem?_cons_succ, List.getElem?_cons_zero]; rfl) (by kernel_rfl) (by kernel_rfl) (by kernel_rfl) rfl (by exact fun _ _ _ h => h) (by rfl) ?_ (by assumption) ?_
          rotate_left
          · intro w hSw; (try dsimp only at hSw); go_simp; try (with_reducible rfl)
          try simp only [Act.put, List.setIfInBounds_toArray, List.set_cons_zero, List.set_cons_succ]
          refine take_runs (i := 1) (v := ?_) (by simp only [List.getElem?_toArray, List.getElem?_cons_succ, List.getElem?_cons_zero]; rfl) (by kernel_rfl) (by kernel_rfl) (by kernel_rfl) rfl (by exact fun _ _ _ h => h) (by rfl) ?_ (by assumption) ?_
          rotate_left
          · intro w hSw; (try dsimp only at hSw); go_simp; try (with_reducible rfl)
          try simp only [Act.put, List.setIfInBounds_toArray, List.set_cons_zero, List.set_cons_succ]
          refine take_runs (i := 2) (v := ?_) (by simp only [List.getElem?_toArray, List.getElem?_cons_succ, List.getElem?_cons_zero]; rfl) (by kernel_rfl) (by kernel_rfl) (by kernel_rfl) rfl (by exact fun _ _ _ h => h) (by rfl) ?_ (by assumption) ?_
          rotate_left
          · intro w hSw; (try dsimp only at hSw); go_simp; try (with_reducible rfl)
          try simp only [Act.put, List.setIfInBounds_toArray, List.set_cons_zero, List.set_cons_succ]
          refine take_runs (i := 3) (v := ?_) (by simp only [List.getElem?_toArray, List.getElem?_cons_succ, List.getElem?_cons_zero]; rfl) (by kernel_rfl) (by kernel_rfl) (by kernel_rfl) rfl (by exact fun _ _ _ h => h) (by rfl) ?_ (by assumption) ?_
          rotate_left
          · intro w hSw; (try dsimp only at hSw); go_simp; try (with_reducible rfl)
          try simp only [Act.put, List.setIfInBounds_toArray, List.set_cons_zero, List.set_cons_succ]
          refine wpAnyH_ready (rs := [4]) (by kernel_rfl) (by simp) ?_
          refine AllReadyH.cons (o := _) (by simp only [List.getElem?_toArray, List.getElem?_cons_succ, List.getElem?_cons_zero]; rfl) (fun K hK => ?_) AllReadyH.nil
          go_simp
          refine (HR.out _ (by exact condsR_heap hC rfl) (by exact ints_heap hI rfl)).mono ?_
          rintro e w8 ⟨rfl, b9⟩
          have b10 : Below wr.heap.size wr w8 := ⟨b9.os, b9.tape, b9.output, b9.size, b9.block⟩
          have s1 := (b10.cell (p := ⟨b, off + k * 4, none⟩) hbl).trans hc1
          have s2 := (b10.cell (p := ⟨b, off + k * 4 + 1, none⟩) hbl).trans hc2
          have s3 := (b10.cell (p := ⟨b, off + k * 4 + 2, none⟩) hbl).trans hc3
          have s4 := (b10.cell (p := ⟨b, off + k * 4 + 3, none⟩) hbl).trans hc4
          refine hK.out _ _ ⟨s1, s2, s3, s4⟩ (fun hHeld => ?_)
          clear hK K
          try simp only [Act.put, List.setIfInBounds_toArray, List.set_cons_zero, List.set_cons_succ]
          refine take_runs (i := 5) (v := ?_) (by simp only [List.getElem?_toArray, List.getElem?_cons_succ, List.getElem?_cons_zero]; rfl) (by kernel_rfl) (by kernel_rfl) (by kernel_rfl) rfl (by exact fun _ _ _ h => h) (by rfl) ?_ (by assumption) ?_
          rotate_left
          · intro w hSw; (try dsimp only at hSw); go_simp; try (with_reducible rfl)
          try simp only [Act.put, List.setIfInBounds_toArray, List.set_cons_zero, List.set_cons_succ]
          refine take_runs (i := 6) (v := ?_) (by simp only [List.getElem?_toArray, List.getElem?_cons_succ, List.getElem?_cons_zero]; rfl) (by kernel_rfl) (by kernel_rfl) (by kernel_rfl) rfl (by exact fun _ _ _ h => h) (by rfl) ?_ (by assumption) ?_
          rotate_left
          · intro w hSw; (try dsimp only at hSw); go_simp; try (with_reducible rfl)
          try simp only [Act.put, List.setIfInBounds_toArray, List.set_cons_zero, List.set_cons_succ]
          refine take_runs (i := 7) (v := ?_) (by simp only [List.getElem?_toArray, List.getElem?_cons_succ, List.getElem?_cons_zero]; rfl) (by kernel_rfl) (by kernel_rfl) (by kernel_rfl) rfl (by exact fun _ _ _ h => h) (by rfl) ?_ (by assumption) ?_
          rotate_left
          · intro w hSw; (try dsimp only at hSw); go_simp; try (with_reducible rfl)
          try simp only [Act.put, List.setIfInBounds_toArray, List.set_cons_zero, List.set_cons_succ]
          refine take_runs (i := 8) (v := ?_) (by simp only [List.getElem?_toArray, List.getElem?_cons_succ, List.getElem?_cons_zero]; rfl) (by kernel_rfl) (by kernel_rfl) (by kernel_rfl) rfl (by exact fun _ _ _ h => h) (by rfl) ?_ (by assumption) ?_
          rotate_left
          · intro w hSw; (try dsimp only at hSw); go_simp; try (with_reducible rfl)
          try simp only [Act.put, List.setIfInBounds_toArray, List.set_cons_zero, List.set_cons_succ]
          refine take_runs (i := 9) (v := ?_) (by simp only [List.getElem?_toArray, List.getElem?_cons_succ, List.getElem?_cons_zero]; rfl) (by kernel_rfl) (by kernel_rfl) (by kernel_rfl) rfl (by exact fun _ _ _ h => h) (by rfl) ?_ (by assumption) ?_
          rotate_left
          · intro w hSw; (try dsimp only at hSw); go_simp; try (with_reducible rfl)
          try simp only [Act.put, List.setIfInBounds_toArray, List.set_cons_zero, List.set_cons_succ]
          refine take_over (i := 10) (by simp only [List.getElem?_toArray, List.getElem?_cons_succ, List.getElem?_cons_zero]; rfl) (by kernel_rfl) (by kernel_rfl) (by kernel_rfl) rfl (by exact fun _ _ _ h => h) (by rfl) (by assumption) ?_
          try simp only [Act.put, List.setIfInBounds_toArray, List.set_cons_zero, List.set_cons_succ]
          refine take_over (i := 11) (by simp only [List.getElem?_toArray, List.getElem?_cons_succ, List.getElem?_cons_zero]; rfl) (by kernel_rfl) (by kernel_rfl) (by kernel_rfl) rfl (by exact fun _ _ _ h => h) (by rfl) (by assumption) ?_
          try simp only [Act.put, List.setIfInBounds_toArray, List.set_cons_zero, List.set_cons_succ]
          refine take_over (i := 12) (by simp only [List.getElem?_toArray, List.getElem?_cons_succ, List.getElem?_cons_zero]; rfl) (by kernel_rfl) (by kernel_rfl) (by kernel_rfl) rfl (by exact fun _ _ _ h => h) (by rfl) (by assumption) ?_
          try simp only [Act.put, List.setIfInBounds_toArray, List.set_cons_zero, List.set_cons_succ]
          refine take_over (i := 13) (by simp only [List.getElem?_toArray, List.getElem?_cons_succ, List.getElem?_cons_zero]; rfl) (by kernel_rfl) (by kernel_rfl) (by kernel_rfl) rfl (by exact fun _ _ _ h => h) (by rfl) (by assumption) ?_
          try simp only [Act.put, List.setIfInBounds_toArray, List.set_cons_zero, List.set_cons_succ]
          refine take_over (i := 14) (by simp only [List.getElem?_toArray, List.getElem?_cons_succ, List.getElem?_cons_zero]; rfl) (by kernel_rfl) (by kernel_rfl) (by kernel_rfl) rfl (by exact fun _ _ _ h => h) (by rfl) (by assumption) ?_
          try simp only [Act.put, List.setIfInBounds_toArray, List.set_cons_zero, List.set_cons_succ]
          refine take_over (i := 15) (by simp only [List.getElem?_toArray, List.getElem?_cons_succ, List.getElem?_cons_zero]; rfl) (by kernel_rfl) (by kernel_rfl) (by kernel_rfl) rfl (by exact fun _ _ _ h => h) (by rfl) (by assumption) ?_
          try simp only [Act.put, List.setIfInBounds_toArray, List.set_cons_zero, List.set_cons_succ]
          refine take_over (i := 16) (by simp only [List.getElem?_toArray, List.getElem?_cons_succ, List.getElem?_cons_zero]; rfl) (by kernel_rfl) (by kernel_rfl) (by kernel_rfl) rfl (by exact fun _ _ _ h => h) (by rfl) (by assumption) ?_
          try simp only [Act.put, List.setIfInBounds_toArray, List.set_cons_zero, List.set_cons_succ]
          refine take_over (i := 17) (by simp only [List.getElem?_toArray, List.getElem?_cons_succ, List.getElem?_cons_zero]; rfl) (by kernel_rfl) (by kernel_rfl) (by kernel_rfl) rfl (by exact fun _ _ _ h => h) (by rfl) (by assumption) ?_
          try simp only [Act.put, List.setIfInBounds_toArray, List.set_cons_zero, List.set_cons_succ]
          refine take_over (i := 18) (by simp only [List.getElem?_toArray, List.getElem?_cons_succ, List.getElem?_cons_zero]; rfl) (by kernel_rfl) (by kernel_rfl) (by kernel_rfl) rfl (by exact fun _ _ _ h => h) (by rfl) (by assumption) ?_
          try simp only [Act.put, List.setIfInBounds_toArray, List.set_cons_zero, List.set_cons_succ]
          refine take_over (i := 19) (by simp only [List.getElem?_toArray, List.getElem?_cons_succ, List.getElem?_cons_zero]; rfl) (by kernel_rfl) (by kernel_rfl) (by kernel_rfl) rfl (by exact fun _ _ _ h => h) (by rfl) (by assumption) ?_
          try simp only [Act.put, List.setIfInBounds_toArray, List.set_cons_zero, List.set_cons_succ]
          refine take_over (i := 20) (by simp only [List.getElem?_toArray, List.getElem?_cons_succ, List.getElem?_cons_zero]; rfl) (by kernel_rfl) (by kernel_rfl) (by kernel_rfl) rfl (by exact fun _ _ _ h => h) (by rfl) (by assumption) ?_
          try simp only [Act.put, List.setIfInBounds_toArray, List.set_cons_zero, List.set_cons_succ]
          refine take_over (i := 21) (by simp only [List.getElem?_toArray, List.getElem?_cons_succ, List.getElem?_cons_zero]; rfl) (by kernel_rfl) (by kernel_rfl) (by kernel_rfl) rfl (by exact fun _ _ _ h => h) (by rfl) (by assumption) ?_
          try simp only [Act.put, List.setIfInBounds_toArray, List.set_cons_zero, List.set_cons_succ]
          refine take_runs (i := 22) (v := ?_) (by simp only [List.getElem?_toArray, List.getElem?_cons_succ, List.getElem?_cons_zero]; rfl) (by kernel_rfl) (by kernel_rfl) (by kernel_rfl) rfl (by exact fun _ _ _ h => h) (by rfl) ?_ (by assumption) ?_
          rotate_left
          · intro w hSw; (try dsimp only at hSw); go_simp; try (with_reducible rfl)
          try simp only [Act.put, List.setIfInBounds_toArray, List.set_cons_zero, List.set_cons_succ]
          refine take_runs (i := 23) (v := ?_) (by simp only [List.getElem?_toArray, List.getElem?_cons_succ, List.getElem?_cons_zero]; rfl) (by kernel_rfl) (by kernel_rfl) (by kernel_rfl) rfl (by exact fun _ _ _ h => h) (by rfl) ?_ (by assumption) ?_
          rotate_left
          · intro w hSw; (try dsimp only at hSw); go_simp; try (with_reducible rfl)
          try simp only [Act.put, List.setIfInBounds_toArray, List.set_cons_zero, List.set_cons_succ]
          refine wpAnyH_done (by kernel_rfl) ?_ _
          have b11 := hbel.trans (b10.mono hbel.size)
          clear s1 s2 s3 s4 hHeld b9 b10
          try clear s5
          go_wp2
          go_roundw
          case rel => exact ⟨k + 1, by omega, by go_num, HA, b11⟩
          case measure => simp [intOf]; omega
        · obtain ⟨m, hkm⟩ : ∃ m, k = m + 1 := ⟨k - 1, by omega⟩
          have hml : m < qs.length := by omega
          obtain ⟨b', off', cap'', cv', ov', hv', _, hc0, _, _, _, _, _⟩ := queriesR_at H1.out hml
          simp only [Value.slice.injEq, Option.some.injEq, Addr.mk.injEq] at hv'
          obtain ⟨⟨rfl, rfl, _⟩, _, rfl⟩ := hv'
          have hg : decide ((0 : Int) < (k : Int)) = true := decide_eq_true (by omega)
          have hgn : decide (0 < k) = true := decide_eq_true (by omega)
          have j1 : (0 : Int) ≤ (m : Int) := by omega
          have j2 : (m : Int) < (qs.length : Int) := by omega
          have hsub : IntKind.i64.wrap ((k : Int) - 1) = (m : Int) := by rw [IntWalk.i64_in _ (by omega)]; omega
          rw [show k - 1 = m by omega] at HBAD HSTEP
          by_cases hle : (qs.getD k q0D).1 ≤ (qs.getD m q0D).1
          · have HF := Lib.hid (HBAD.out (Or.inr ⟨by omega, by omega⟩))
            have hd := decide_eq_true hle
            clear hrb HBAD HSTEP H1 hz hle hkm
            generalize (qs.getD k q0D).1 = id at *
            generalize (qs.getD k q0D).2.1 = tn at *
            generalize (qs.getD k q0D).2.2.1 = cs at *
            generalize (qs.getD k q0D).2.2.2 = os at *
            generalize (qs.getD m q0D).1 = idp at *
            go_wp2
            refine wp_region_held_drew (S := fun w' => w'.cell? ⟨b, off + k * 4, none⟩ = some (.int .i64 id) ∧ w'.cell? ⟨b, off + k * 4 + 1, none⟩ = some (.int .i64 tn) ∧ w'.cell? ⟨b, off + k * 4 + 2, none⟩ = some (cv) ∧ w'.cell? ⟨b, off + k * 4 + 3, none⟩ = some (ov) ∧ w'.cell? ⟨b, off + m * 4, none⟩ = some (.int .i64 idp)) (by kernel_rfl) ⟨hc1, hc2, hc3, hc4, hc0⟩ (fun hHeld => ?_)
            refine take_runs (i := 0) (v := ?_) (by simp only [List.getElem?_toArray, List.getElem?_cons_succ, List.getElem?_cons_zero]; rfl) (by kernel_rfl) (by kernel_rfl) (by kernel_rfl) rfl (by exact fun _ _ _ h => h) (by rfl) ?_ (by assumption) ?_
            rotate_left
            · intro w hSw; (try dsimp only at hSw); go_simp; try (with_reducible rfl)
            try simp only [Act.put, List.setIfInBounds_toArray, List.set_cons_zero, List.set_cons_succ]
            refine take_runs (i := 1) (v := ?_) (by simp only [List.getElem?_toArray, List.getElem?_cons_succ, List.getElem?_cons_zero]; rfl) (by kernel_rfl) (by kernel_rfl) (by kernel_rfl) rfl (by exact fun _ _ _ h => h) (by rfl) ?_ (by assumption) ?_
            rotate_left
            · intro w hSw; (try dsimp only at hSw); go_simp; try (with_reducible rfl)
            try simp only [Act.put, List.setIfInBounds_toArray, List.set_cons_zero, List.set_cons_succ]
            refine take_runs (i := 2) (v := ?_) (by simp only [List.getElem?_toArray, List.getElem?_cons_succ, List.getElem?_cons_zero]; rfl) (by kernel_rfl) (by kernel_rfl) (by kernel_rfl) rfl (by exact fun _ _ _ h => h) (by rfl) ?_ (by assumption) ?_
            rotate_left
            · intro w hSw; (try dsimp only at hSw); go_simp; try (with_reducible rfl)
            try simp only [Act.put, List.setIfInBounds_toArray, List.set_cons_zero, List.set_cons_succ]
            refine take_runs (i := 3) (v := ?_) (by simp only [List.getElem?_toArray, List.getElem?_cons_succ, List.getElem?_cons_zero]; rfl) (by kernel_rfl) (by kernel_rfl) (by kernel_rfl) rfl (by exact fun _ _ _ h => h) (by rfl) ?_ (by assumption) ?_
            rotate_left
            · intro w hSw; (try dsimp only at hSw); go_simp; try (with_reducible rfl)
            try simp only [Act.put, List.setIfInBounds_toArray, List.set_cons_zero, List.set_cons_succ]
            refine wpAnyH_ready (rs := [4]) (by kernel_rfl) (by simp) ?_
            refine AllReadyH.cons (o := _) (by simp only [List.getElem?_toArray, List.getElem?_cons_succ, List.getElem?_cons_zero]; rfl) (fun K hK => ?_) AllReadyH.nil
            go_simp
            refine (HR.out _ (by exact condsR_heap hC rfl) (by exact ints_heap hI rfl)).mono ?_
            rintro e w8 ⟨rfl, b9⟩
            have b10 : Below wr.heap.size wr w8 := ⟨b9.os, b9.tape, b9.output, b9.size, b9.block⟩
            have s1 := (b10.cell (p := ⟨b, off + k * 4, none⟩) hbl).trans hc1
            have s2 := (b10.cell (p := ⟨b, off + k * 4 + 1, none⟩) hbl).trans hc2
            have s3 := (b10.cell (p := ⟨b, off + k * 4 + 2, none⟩) hbl).trans hc3
            have s4 := (b10.cell (p := ⟨b, off + k * 4 + 3, none⟩) hbl).trans hc4
            have s5 := (b10.cell (p := ⟨b, off + m * 4, none⟩) hbl).trans hc0
            refine hK.out _ _ ⟨s1, s2, s3, s4, s5⟩ (fun hHeld => ?_)
            clear hK K
            try simp only [Act.put, List.setIfInBounds_toArray, List.set_cons_zero, List.set_cons_succ]
            refine take_runs (i := 5) (v := ?_) (by simp only [List.getElem?_toArray, List.getElem?_cons_succ, List.getElem?_cons_zero]; rfl) (by kernel_rfl) (by kernel_rfl) (by kernel_rfl) rfl (by exact fun _ _ _ h => h) (by rfl) ?_ (by assumption) ?_
            rotate_left
            · intro w hSw; (try dsimp only at hSw); go_simp; try (with_reducible rfl)
            try simp only [Act.put, List.setIfInBounds_toArray, List.set_cons_zero, List.set_cons_succ]
            refine take_runs (i := 6) (v := ?_) (by simp only [List.getElem?_toArray, List.getElem?_cons_succ, List.getElem?_cons_zero]; rfl) (by kernel_rfl) (by kernel_rfl) (by kernel_rfl) rfl (by exact fun _ _ _ h => h) (by rfl) ?_ (by assumption) ?_
            rotate_left
            · intro w hSw; (try dsimp only at hSw); go_simp; try (with_reducible rfl)
            try simp only [Act.put, List.setIfInBounds_toArray, List.set_cons_zero, List.set_cons_succ]
            refine take_runs (i := 7) (v := ?_) (by simp only [List.getElem?_toArray, List.getElem?_cons_succ, List.getElem?_cons_zero]; rfl) (by kernel_rfl) (by kernel_rfl) (by kernel_rfl) rfl (by exact fun _ _ _ h => h) (by rfl) ?_ (by assumption) ?_
            rotate_left
            · intro w hSw; (try dsimp only at hSw); go_simp; try (with_reducible rfl)
            try simp only [Act.put, List.setIfInBounds_toArray, List.set_cons_zero, List.set_cons_succ]
            refine take_runs (i := 8) (v := ?_) (by simp only [List.getElem?_toArray, List.getElem?_cons_succ, List.getElem?_cons_zero]; rfl) (by kernel_rfl) (by kernel_rfl) (by kernel_rfl) rfl (by exact fun _ _ _ h => h) (by rfl) ?_ (by assumption) ?_
            rotate_left
            · intro w hSw; (try dsimp only at hSw); go_simp; try (with_reducible rfl)
            try simp only [Act.put, List.setIfInBounds_toArray, List.set_cons_zero, List.set_cons_succ]
            refine take_runs (i := 9) (v := ?_) (by simp only [List.getElem?_toArray, List.getElem?_cons_succ, List.getElem?_cons_zero]; rfl) (by kernel_rfl) (by kernel_rfl) (by kernel_rfl) rfl (by exact fun _ _ _ h => h) (by rfl) ?_ (by assumption) ?_
            rotate_left
            · intro w hSw; (try dsimp only at hSw); go_simp; try (with_reducible rfl)
            try simp only [Act.put, List.setIfInBounds_toArray, List.set_cons_zero, List.set_cons_succ]
            refine take_runs (i := 10) (v := ?_) (by simp only [List.getElem?_toArray, List.getElem?_cons_succ, List.getElem?_cons_zero]; rfl) (by kernel_rfl) (by kernel_rfl) (by kernel_rfl) rfl (by exact fun _ _ _ h => h) (by rfl) ?_ (by assumption) ?_
            rotate_left
            · intro w hSw; (try dsimp only at hSw); go_simp; try (with_reducible rfl)
            try simp only [Act.put, List.setIfInBounds_toArray, List.set_cons_zero, List.set_cons_succ]
            refine take_runs (i := 11) (v := ?_) (by simp only [List.getElem?_toArray, List.getElem?_cons_succ, List.getElem?_cons_zero]; rfl) (by kernel_rfl) (by kernel_rfl) (by kernel_rfl) rfl (by exact fun _ _ _ h => h) (by rfl) ?_ (by assumption) ?_
            rotate_left
            · intro w hSw; (try dsimp only at hSw); go_simp; try (with_reducible rfl)
            try simp only [Act.put, List.setIfInBounds_toArray, List.set_cons_zero, List.set_cons_succ]
            refine take_runs (i := 12) (v := ?_) (by simp only [List.getElem?_toArray, List.getElem?_cons_succ, List.getElem?_cons_zero]; rfl) (by kernel_rfl) (by kernel_rfl) (by kernel_rfl) rfl (by exact fun _ _ _ h => h) (by rfl) ?_ (by assumption) ?_
            rotate_left
            · intro w hSw; (try dsimp only at hSw); go_simp; try (with_reducible rfl)
            try simp only [Act.put, List.setIfInBounds_toArray, List.set_cons_zero, List.set_cons_succ]
            refine take_runs (i := 13) (v := ?_) (by simp only [List.getElem?_toArray, List.getElem?_cons_succ, List.getElem?_cons_zero]; rfl) (by kernel_rfl) (by kernel_rfl) (by kernel_rfl) rfl (by exact fun _ _ _ h => h) (by rfl) ?_ (by assumption) ?_
            rotate_left
            · intro w hSw; (try dsimp only at hSw); go_simp; try (with_reducible rfl)
            try simp only [Act.put, List.setIfInBounds_toArray, List.set_cons_zero, List.set_cons_succ]
            refine take_runs (i := 14) (v := ?_) (by simp only [List.getElem?_toArray, List.getElem?_cons_succ, List.getElem?_cons_zero]; rfl) (by kernel_rfl) (by kernel_rfl) (by kernel_rfl) rfl (by exact fun _ _ _ h => h) (by rfl) ?_ (by assumption) ?_
            rotate_left
            · intro w hSw; (try dsimp only at hSw); go_simp; try (with_reducible rfl)
            try simp only [Act.put, List.setIfInBounds_toArray, List.set_cons_zero, List.set_cons_succ]
            refine take_runs (i := 15) (v := ?_) (by simp only [List.getElem?_toArray, List.getElem?_cons_succ, List.getElem?_cons_zero]; rfl) (by kernel_rfl) (by kernel_rfl) (by kernel_rfl) rfl (by exact fun _ _ _ h => h) (by rfl) ?_ (by assumption) ?_
            rotate_left
            · intro w hSw; (try dsimp only at hSw); go_simp; try (with_reducible rfl)
            try simp only [Act.put, List.setIfInBounds_toArray, List.set_cons_zero, List.set_cons_succ]
            refine take_runs (i := 16) (v := ?_) (by simp only [List.getElem?_toArray, List.getElem?_cons_succ, List.getElem?_cons_zero]; rfl) (by kernel_rfl) (by kernel_rfl) (by kernel_rfl) rfl (by exact fun _ _ _ h => h) (by rfl) ?_ (by assumption) ?_
            rotate_left
            · intro w hSw; (try dsimp only at hSw); go_simp; try (with_reducible rfl)
            try simp only [Act.put, List.setIfInBounds_toArray, List.set_cons_zero, List.set_cons_succ]
            refine take_runs (i := 17) (v := ?_) (by simp only [List.getElem?_toArray, List.getElem?_cons_succ, List.getElem?_cons_zero]; rfl) (by kernel_rfl) (by kernel_rfl) (by kernel_rfl) rfl (by exact fun _ _ _ h => h) (by rfl) ?_ (by assumption) ?_
            rotate_left
            · intro w hSw; (try dsimp only at hSw); go_simp; try (with_reducible rfl)
            try simp only [Act.put, List.setIfInBounds_toArray, List.set_cons_zero, List.set_cons_succ]
            refine take_runs (i := 18) (v := ?_) (by simp only [List.getElem?_toArray, List.getElem?_cons_succ, List.getElem?_cons_zero]; rfl) (by kernel_rfl) (by kernel_rfl) (by kernel_rfl) rfl (by exact fun _ _ _ h => h) (by rfl) ?_ (by assumption) ?_
            rotate_left
            · intro w hSw; (try dsimp only at hSw); go_simp; try (with_reducible rfl)
            try simp only [Act.put, List.setIfInBounds_toArray, List.set_cons_zero, List.set_cons_succ]
            refine take_runs (i := 19) (v := ?_) (by simp only [List.getElem?_toArray, List.getElem?_cons_succ, List.getElem?_cons_zero]; rfl) (by kernel_rfl) (by kernel_rfl) (by kernel_rfl) rfl (by exact fun _ _ _ h => h) (by rfl) ?_ (by assumption) ?_
            rotate_left
            · intro w hSw; (try dsimp only at hSw); go_simp; try (with_reducible rfl)
            try simp only [Act.put, List.setIfInBounds_toArray, List.set_cons_zero, List.set_cons_succ]
            refine take_runs (i := 20) (v := ?_) (by simp only [List.getElem?_toArray, List.getElem?_cons_succ, List.getElem?_cons_zero]; rfl) (by kernel_rfl) (by kernel_rfl) (by kernel_rfl) rfl (by exact fun _ _ _ h => h) (by rfl) ?_ (by assumption) ?_
            rotate_left
            · intro w hSw; (try dsimp only at hSw); go_simp; try (with_reducible rfl)
            try simp only [Act.put, List.setIfInBounds_toArray, List.set_cons_zero, List.set_cons_succ]
            refine take_runs (i := 21) (v := ?_) (by simp only [List.getElem?_toArray, List.getElem?_cons_succ, List.getElem?_cons_zero]; rfl) (by kernel_rfl) (by kernel_rfl) (by kernel_rfl) rfl (by exact fun _ _ _ h => h) (by rfl) ?_ (by assumption) ?_
            rotate_left
            · intro w hSw; (try dsimp only at hSw); go_simp; try (with_reducible rfl)
            try simp only [Act.put, List.setIfInBounds_toArray, List.set_cons_zero, List.set_cons_succ]
            refine take_runs (i := 22) (v := ?_) (by simp only [List.getElem?_toArray, List.getElem?_cons_succ, List.getElem?_cons_zero]; rfl) (by kernel_rfl) (by kernel_rfl) (by kernel_rfl) rfl (by exact fun _ _ _ h => h) (by rfl) ?_ (by assumption) ?_
            rotate_left
            · intro w hSw; (try dsimp only at hSw); go_simp; try (with_reducible rfl)
            try simp only [Act.put, List.setIfInBounds_toArray, List.set_cons_zero, List.set_cons_succ]
            refine take_runs (i := 23) (v := ?_) (by simp only [List.getElem?_toArray, List.getElem?_cons_succ, List.getElem?_cons_zero]; rfl) (by kernel_rfl) (by kernel_rfl) (by kernel_rfl) rfl (by exact fun _ _ _ h => h) (by rfl) ?_ (by assumption) ?_
            rotate_left
            · intro w hSw; (try dsimp only at hSw); go_simp; try (with_reducible rfl)
            try simp only [Act.put, List.setIfInBounds_toArray, List.set_cons_zero, List.set_cons_succ]
            refine wpAnyH_done (by kernel_rfl) ?_ _
            have b11 := hbel.trans (b10.mono hbel.size)
            clear s1 s2 s3 s4 hHeld b9 b10
            try clear s5
            go_wp2
            go_ret
            exact ⟨ret_b HF.out.symm, b11⟩
          · have HA := Lib.hid (HSTEP.out hrb (fun _ => by omega))
            have hd := decide_eq_false hle
            clear hrb HBAD HSTEP H1 hz hle hkm
            generalize (qs.getD k q0D).1 = id at *
            generalize (qs.getD k q0D).2.1 = tn at *
            generalize (qs.getD k q0D).2.2.1 = cs at *
            generalize (qs.getD k q0D).2.2.2 = os at *
            generalize (qs.getD m q0D).1 = idp at *
            go_wp2
            refine wp_region_held_drew (S := fun w' => w'.cell? ⟨b, off + k * 4, none⟩ = some (.int .i64 id) ∧ w'.cell? ⟨b, off + k * 4 + 1, none⟩ = some (.int .i64 tn) ∧ w'.cell? ⟨b, off + k * 4 + 2, none⟩ = some (cv) ∧ w'.cell? ⟨b, off + k * 4 + 3, none⟩ = some (ov) ∧ w'.cell? ⟨b, off + m * 4, none⟩ = some (.int .i64 idp)) (by kernel_rfl) ⟨hc1, hc2, hc3, hc4, hc0⟩ (fun hHeld => ?_)
            refine take_runs (i := 0) (v := ?_) (by simp only [List.getElem?_toArray, List.getElem?_cons_succ, List.getElem?_cons_zero]; rfl) (by kernel_rfl) (by kernel_rfl) (by kernel_rfl) rfl (by exact fun _ _ _ h => h) (by rfl) ?_ (by assumption) ?_
            rotate_left
            · intro w hSw; (try dsimp only at hSw); go_simp; try (with_reducible rfl)
            try simp only [Act.put, List.setIfInBounds_toArray, List.set_cons_zero, List.set_cons_succ]
            refine take_runs (i := 1) (v := ?_) (by simp only [List.getElem?_toArray, List.getElem?_cons_succ, List.getElem?_cons_zero]; rfl) (by kernel_rfl) (by kernel_rfl) (by kernel_rfl) rfl (by exact fun _ _ _ h => h) (by rfl) ?_ (by assumption) ?_
            rotate_left
            · intro w hSw; (try dsimp only at hSw); go_simp; try (with_reducible rfl)
            try simp only [Act.put, List.setIfInBounds_toArray, List.set_cons_zero, List.set_cons_succ]
            refine take_runs (i := 2) (v := ?_) (by simp only [List.getElem?_toArray, List.getElem?_cons_succ, List.getElem?_cons_zero]; rfl) (by kernel_rfl) (by kernel_rfl) (by kernel_rfl) rfl (by exact fun _ _ _ h => h) (by rfl) ?_ (by assumption) ?_
            rotate_left
            · intro w hSw; (try dsimp only at hSw); go_simp; try (with_reducible rfl)
            try simp only [Act.put, List.setIfInBounds_toArray, List.set_cons_zero, List.set_cons_succ]
            refine take_runs (i := 3) (v := ?_) (by simp only [List.getElem?_toArray, List.getElem?_cons_succ, List.getElem?_cons_zero]; rfl) (by kernel_rfl) (by kernel_rfl) (by kernel_rfl) rfl (by exact fun _ _ _ h => h) (by rfl) ?_ (by assumption) ?_
            rotate_left
            · intro w hSw; (try dsimp only at hSw); go_simp; try (with_reducible rfl)
            try simp only [Act.put, List.setIfInBounds_toArray, List.set_cons_zero, List.set_cons_succ]
            refine wpAnyH_ready (rs := [4]) (by kernel_rfl) (by simp) ?_
            refine AllReadyH.cons (o := _) (by simp only [List.getElem?_toArray, List.getElem?_cons_succ, List.getElem?_cons_zero]; rfl) (fun K hK => ?_) AllReadyH.nil
            go_simp
            refine (HR.out _ (by exact condsR_heap hC rfl) (by exact ints_heap hI rfl)).mono ?_
            rintro e w8 ⟨rfl, b9⟩
            have b10 : Below wr.heap.size wr w8 := ⟨b9.os, b9.tape, b9.output, b9.size, b9.block⟩
            have s1 := (b10.cell (p := ⟨b, off + k * 4, none⟩) hbl).trans hc1
            have s2 := (b10.cell (p := ⟨b, off + k * 4 + 1, none⟩) hbl).trans hc2
            have s3 := (b10.cell (p := ⟨b, off + k * 4 + 2, none⟩) hbl).trans hc3
            have s4 := (b10.cell (p := ⟨b, off + k * 4 + 3, none⟩) hbl).trans hc4
            have s5 := (b10.cell (p := ⟨b, off + m * 4, none⟩) hbl).trans hc0
            refine hK.out _ _ ⟨s1, s2, s3, s4, s5⟩ (fun hHeld => ?_)
            clear hK K
            try simp only [Act.put, List.setIfInBounds_toArray, List.set_cons_zero, List.set_cons_succ]
            refine take_runs (i := 5) (v := ?_) (by simp only [List.getElem?_toArray, List.getElem?_cons_succ, List.getElem?_cons_zero]; rfl) (by kernel_rfl) (by kernel_rfl) (by kernel_rfl) rfl (by exact fun _ _ _ h => h) (by rfl) ?_ (by assumption) ?_
            rotate_left
            · intro w hSw; (try dsimp only at hSw); go_simp; try (with_reducible rfl)
            try simp only [Act.put, List.setIfInBounds_toArray, List.set_cons_zero, List.set_cons_succ]
            refine take_runs (i := 6) (v := ?_) (by simp only [List.getElem?_toArray, List.getElem?_cons_succ, List.getElem?_cons_zero]; rfl) (by kernel_rfl) (by kernel_rfl) (by kernel_rfl) rfl (by exact fun _ _ _ h => h) (by rfl) ?_ (by assumption) ?_
            rotate_left
            · intro w hSw; (try dsimp only at hSw); go_simp; try (with_reducible rfl)
            try simp only [Act.put, List.setIfInBounds_toArray, List.set_cons_zero, List.set_cons_succ]
            refine take_runs (i := 7) (v := ?_) (by simp only [List.getElem?_toArray, List.getElem?_cons_succ, List.getElem?_cons_zero]; rfl) (by kernel_rfl) (by kernel_rfl) (by kernel_rfl) rfl (by exact fun _ _ _ h => h) (by rfl) ?_ (by assumption) ?_
            rotate_left
            · intro w hSw; (try dsimp only at hSw); go_simp; try (with_reducible rfl)
            try simp only [Act.put, List.setIfInBounds_toArray, List.set_cons_zero, List.set_cons_succ]
            refine take_runs (i := 8) (v := ?_) (by simp only [List.getElem?_toArray, List.getElem?_cons_succ, List.getElem?_cons_zero]; rfl) (by kernel_rfl) (by kernel_rfl) (by kernel_rfl) rfl (by exact fun _ _ _ h => h) (by rfl) ?_ (by assumption) ?_
            rotate_left
            · intro w hSw; (try dsimp only at hSw); go_simp; try (with_reducible rfl)
            try simp only [Act.put, List.setIfInBounds_toArray, List.set_cons_zero, List.set_cons_succ]
            refine take_runs (i := 9) (v := ?_) (by simp only [List.getElem?_toArray, List.getElem?_cons_succ, List.getElem?_cons_zero]; rfl) (by kernel_rfl) (by kernel_rfl) (by kernel_rfl) rfl (by exact fun _ _ _ h => h) (by rfl) ?_ (by assumption) ?_
            rotate_left
            · intro w hSw; (try dsimp only at hSw); go_simp; try (with_reducible rfl)
            try simp only [Act.put, List.setIfInBounds_toArray, List.set_cons_zero, List.set_cons_succ]
            refine take_runs (i := 10) (v := ?_) (by simp only [List.getElem?_toArray, List.getElem?_cons_succ, List.getElem?_cons_zero]; rfl) (by kernel_rfl) (by kernel_rfl) (by kernel_rfl) rfl (by exact fun _ _ _ h => h) (by rfl) ?_ (by assumption) ?_
            rotate_left
            · intro w hSw; (try dsimp only at hSw); go_simp; try (with_reducible rfl)
            try simp only [Act.put, List.setIfInBounds_toArray, List.set_cons_zero, List.set_cons_succ]
            refine take_runs (i := 11) (v := ?_) (by simp only [List.getElem?_toArray, List.getElem?_cons_succ, List.getElem?_cons_zero]; rfl) (by kernel_rfl) (by kernel_rfl) (by kernel_rfl) rfl (by exact fun _ _ _ h => h) (by rfl) ?_ (by assumption) ?_
            rotate_left
            · intro w hSw; (try dsimp only at hSw); go_simp; try (with_reducible rfl)
            try simp only [Act.put, List.setIfInBounds_toArray, List.set_cons_zero, List.set_cons_succ]
            refine take_runs (i := 12) (v := ?_) (by simp only [List.getElem?_toArray, List.getElem?_cons_succ, List.getElem?_cons_zero]; rfl) (by kernel_rfl) (by kernel_rfl) (by kernel_rfl) rfl (by exact fun _ _ _ h => h) (by rfl) ?_ (by assumption) ?_
            rotate_left
            · intro w hSw; (try dsimp only at hSw); go_simp; try (with_reducible rfl)
            try simp only [Act.put, List.setIfInBounds_toArray, List.set_cons_zero, List.set_cons_succ]
            refine take_runs (i := 13) (v := ?_) (by simp only [List.getElem?_toArray, List.getElem?_cons_succ, List.getElem?_cons_zero]; rfl) (by kernel_rfl) (by kernel_rfl) (by kernel_rfl) rfl (by exact fun _ _ _ h => h) (by rfl) ?_ (by assumption) ?_
            rotate_left
            · intro w hSw; (try dsimp only at hSw); go_simp; try (with_reducible rfl)
            try simp only [Act.put, List.setIfInBounds_toArray, List.set_cons_zero, List.set_cons_succ]
            refine take_runs (i := 14) (v := ?_) (by simp only [List.getElem?_toArray, List.getElem?_cons_succ, List.getElem?_cons_zero]; rfl) (by kernel_rfl) (by kernel_rfl) (by kernel_rfl) rfl (by exact fun _ _ _ h => h) (by rfl) ?_ (by assumption) ?_
            rotate_left
            · intro w hSw; (try dsimp only at hSw); go_simp; try (with_reducible rfl)
            try simp only [Act.put, List.setIfInBounds_toArray, List.set_cons_zero, List.set_cons_succ]
            refine take_runs (i := 15) (v := ?_) (by simp only [List.getElem?_toArray, List.getElem?_cons_succ, List.getElem?_cons_zero]; rfl) (by kernel_rfl) (by kernel_rfl) (by kernel_rfl) rfl (by exact fun _ _ _ h => h) (by rfl) ?_ (by assumption) ?_
            rotate_left
            · intro w hSw; (try dsimp only at hSw); go_simp; try (with_reducible rfl)
            try simp only [Act.put, List.setIfInBounds_toArray, List.set_cons_zero, List.set_cons_succ]
            refine take_runs (i := 16) (v := ?_) (by simp only [List.getElem?_toArray, List.getElem?_cons_succ, List.getElem?_cons_zero]; rfl) (by kernel_rfl) (by kernel_rfl) (by kernel_rfl) rfl (by exact fun _ _ _ h => h) (by rfl) ?_ (by assumption) ?_
            rotate_left
            · intro w hSw; (try dsimp only at hSw); go_simp; try (with_reducible rfl)
            try simp only [Act.put, List.setIfInBounds_toArray, List.set_cons_zero, List.set_cons_succ]
            refine take_runs (i := 17) (v := ?_) (by simp only [List.getElem?_toArray, List.getElem?_cons_succ, List.getElem?_cons_zero]; rfl) (by kernel_rfl) (by kernel_rfl) (by kernel_rfl) rfl (by exact fun _ _ _ h => h) (by rfl) ?_ (by assumption) ?_
            rotate_left
            · intro w hSw; (try dsimp only at hSw); go_simp; try (with_reducible rfl)
            try simp only [Act.put, List.setIfInBounds_toArray, List.set_cons_zero, List.set_cons_succ]
            refine take_runs (i := 18) (v := ?_) (by simp only [List.getElem?_toArray, List.getElem?_cons_succ, List.getElem?_cons_zero]; rfl) (by kernel_rfl) (by kernel_rfl) (by kernel_rfl) rfl (by exact fun _ _ _ h => h) (by rfl) ?_ (by assumption) ?_
            rotate_left
            · intro w hSw; (try dsimp only at hSw); go_simp; try (with_reducible rfl)
            try simp only [Act.put, List.setIfInBounds_toArray, List.set_cons_zero, List.set_cons_succ]
            refine take_runs (i := 19) (v := ?_) (by simp only [List.getElem?_toArray, List.getElem?_cons_succ, List.getElem?_cons_zero]; rfl) (by kernel_rfl) (by kernel_rfl) (by kernel_rfl) rfl (by exact fun _ _ _ h => h) (by rfl) ?_ (by assumption) ?_
            rotate_left
            · intro w hSw; (try dsimp only at hSw); go_simp; try (with_reducible rfl)
            try simp only [Act.put, List.setIfInBounds_toArray, List.set_cons_zero, List.set_cons_succ]
            refine take_runs (i := 20) (v := ?_) (by simp only [List.getElem?_toArray, List.getElem?_cons_succ, List.getElem?_cons_zero]; rfl) (by kernel_rfl) (by kernel_rfl) (by kernel_rfl) rfl (by exact fun _ _ _ h => h) (by rfl) ?_ (by assumption) ?_
            rotate_left
            · intro w hSw; (try dsimp only at hSw); go_simp; try (with_reducible rfl)
            try simp only [Act.put, List.setIfInBounds_toArray, List.set_cons_zero, List.set_cons_succ]
            refine take_runs (i := 21) (v := ?_) (by simp only [List.getElem?_toArray, List.getElem?_cons_succ, List.getElem?_cons_zero]; rfl) (by kernel_rfl) (by kernel_rfl) (by kernel_rfl) rfl (by exact fun _ _ _ h => h) (by rfl) ?_ (by assumption) ?_
            rotate_left
            · intro w hSw; (try dsimp only at hSw); go_simp; try (with_reducible rfl)
            try simp only [Act.put, List.setIfInBounds_toArray, List.set_cons_zero, List.set_cons_succ]
            refine take_runs (i := 22) (v := ?_) (by simp only [List.getElem?_toArray, List.getElem?_cons_succ, List.getElem?_cons_zero]; rfl) (by kernel_rfl) (by kernel_rfl) (by kernel_rfl) rfl (by exact fun _ _ _ h => h) (by rfl) ?_ (by assumption) ?_
            rotate_left
            · intro w hSw; (try dsimp only at hSw); go_simp; try (with_reducible rfl)
            try simp only [Act.put, List.setIfInBounds_toArray, List.set_cons_zero, List.set_cons_succ]
            refine take_runs (i := 23) (v := ?_) (by simp only [List.getElem?_toArray, List.getElem?_cons_succ, List.getElem?_cons_zero]; rfl) (by kernel_rfl) (by kernel_rfl) (by kernel_rfl) rfl (by exact fun _ _ _ h => h) (by rfl) ?_ (by assumption) ?_
            rotate_left
            · intro w hSw; (try dsimp only at hSw); go_simp; try (with_reducible rfl)
            try simp only [Act.put, List.setIfInBounds_toArray, List.set_cons_zero, List.set_cons_succ]
            refine wpAnyH_done (by kernel_rfl) ?_ _
            have b11 := hbel.trans (b10.mono hbel.size)
            clear s1 s2 s3 s4 hHeld b9 b10
            try clear s5
            go_wp2
            go_roundw
            case rel => exact ⟨k + 1, by omega, by go_num, HA, b11⟩
            case measure => simp [intOf]; omega
    · obtain rfl : k = qs.length := by omega
      have HE := Lib.hid (areQB_all hall.out)
      clear hall
      by_cases h32 : qs.length ≤ 24
      · have HT : Hid (areQB qs = true) := Lib.hid (by rw [HE.out]; exact decide_eq_true h32)
        have h33 : (qs.length : Int) ≤ 24 := by omega
        go_wp2
        go_ret
        exact ⟨ret_b HT.out.symm, hbel⟩
      · have HT : Hid (areQB qs = false) := Lib.hid (by rw [HE.out]; exact decide_eq_false h32)
        have h33 : ¬ (qs.length : Int) ≤ 24 := by omega
        go_wp2
        go_ret
        exact ⟨ret_b HT.out.symm, hbel⟩
end Go.Proofs.YtmkcfkblfjhnhaaDoor
namespace Go.Proofs.YtmkcfkblfjhnhaaDoor
open Go.RowKit
set_option linter.unusedVariables false
set_option linter.unusedSimpArgs false
def admQ (f v : Int) (q : QD) : Bool := admB q.2.2.1 f v
def okF (f : Int) : Bool := decide (0 ≤ f ∧ f ≤ 2)
def okV (v : Int) : Bool := decide (0 ≤ v ∧ v ≤ 99)
def stabL (a : List QD) (f v : Int) : List Int := if (areQB a && (okF f && okV v)) = true then (a.filter (admQ f v)).map (·.1) else []
def stepP (acc : List SpanD) (v : Int) (s : List Int) : List SpanD :=
  if 0 < acc.length ∧ (acc.getD (acc.length - 1) p0D).2.2 = s then acc.set (acc.length - 1) ((acc.getD (acc.length - 1) p0D).1, v, (acc.getD (acc.length - 1) p0D).2.2) else acc ++ [(v, v, s)]
def spansTo (F : Int → List Int) : Nat → List SpanD
  | 0 => []
  | n + 1 => stepP (spansTo F n) (n : Int) (F n)
def spansL (a : List QD) (f : Int) : List SpanD := if (areQB a && okF f) = true then spansTo (stabL a f) 100 else []
theorem areQ_len {a : List QD} (h : areQB a = true) : a.length ≤ 24 := by
  unfold areQB at h
  simp only [Bool.and_eq_true, decide_eq_true_eq] at h
  exact h.2
theorem areQ_at {a : List QD} (h : areQB a = true) {q : QD} (hq : q ∈ a) : qB q = true := by
  unfold areQB at h
  rw [Bool.and_eq_true, List.all_eq_true] at h
  obtain ⟨i, hi, rfl⟩ := List.getElem_of_mem hq
  have := h.1 i (List.mem_range.2 hi)
  rw [Bool.and_eq_true] at this
  have e : a.getD i q0D = a[i] := by simp [List.getD, hi]
  rw [e] at this
  exact this.1
theorem stabL_len (a : List QD) (f v : Int) : (stabL a f v).length ≤ 24 := by
  unfold stabL
  split
  · next h =>
    simp only [Bool.and_eq_true] at h
    rw [List.length_map]
    exact Nat.le_trans (List.length_filter_le _ _) (areQ_len h.1)
  · simp
theorem stepP_len (acc : List SpanD) (v : Int) (s : List Int) : (stepP acc v s).length ≤ acc.length + 1 := by
  unfold stepP
  split
  · rw [List.length_set]; omega
  · simp
theorem spansTo_len (F : Int → List Int) : ∀ n, (spansTo F n).length ≤ n
  | 0 => by simp [spansTo]
  | n + 1 => by
    have h1 := stepP_len (spansTo F n) n (F n)
    have h2 := spansTo_len F n
    unfold spansTo
    omega
theorem getD_mem {rs : List SpanD} {i : Nat} (h : i < rs.length) : rs.getD i p0D ∈ rs := by
  have e : rs.getD i p0D = rs[i] := by simp [List.getD, h]
  rw [e]; exact List.getElem_mem h
theorem spansTo_sets {F : Int → List Int} {M : Nat} (hF : ∀ v, (F v).length ≤ M) : ∀ n, ∀ r ∈ spansTo F n, r.2.2.length ≤ M
  | 0 => by simp [spansTo]
  | n + 1 => by
    have ih := spansTo_sets hF n
    intro r hr
    unfold spansTo stepP at hr
    split at hr
    · next c =>
      rcases List.mem_or_eq_of_mem_set hr with h | h
      · exact ih r h
      · subst h
        have h3 := ih _ (getD_mem (rs := spansTo F n) (i := (spansTo F n).length - 1) (by omega))
        exact h3
    · rw [List.mem_append, List.mem_singleton] at hr
      rcases hr with h | h
      · exact ih r h
      · subst h; exact hF _
theorem sum_le_of {M : Nat} : ∀ (l : List SpanD), (∀ r ∈ l, r.2.2.length ≤ M) → (l.map fun r => r.2.2.length).sum ≤ l.length * M
  | [], _ => by simp
  | r :: l, h => by
    have ih := sum_le_of l (fun x hx => h x (List.mem_cons_of_mem _ hx))
    have h0 := h r List.mem_cons_self
    simp only [List.map_cons, List.sum_cons, List.length_cons, Nat.add_mul, Nat.one_mul]
    omega
theorem spansTo_size {F : Int → List Int} (hF : ∀ v, (F v).length ≤ 24) {n : Nat} (hn : n ≤ 100) : zpL (spansTo F n) ≤ 2500 := by
  have h1 := spansTo_len F n
  have h2 := sum_le_of (spansTo F n) (spansTo_sets hF n)
  unfold zpL zpTo
  rw [List.take_length]
  have : (spansTo F n).length * 24 ≤ 100 * 24 := Nat.mul_le_mul_right _ (by omega)
  omega
theorem spansL_size (a : List QD) (f : Int) : zpL (spansL a f) ≤ 2500 := by
  unfold spansL
  split
  · exact spansTo_size (stabL_len a f) (Nat.le_refl _)
  · simp [zpL, zpTo]
/-- The first condition on the field, else all values. -/
def rangeC (cs : List CondD) (f : Int) : Int × Int :=
  match cs.find? (fun c => decide (c.1 = f)) with
  | some c => (c.2.1, c.2.2)
  | none => (0, 99)
theorem condsB_at {cs : List CondD} (h : condsB cs = true) {i : Nat} (hi : i < cs.length) : condB (cs.getD i c0D) = true ∧ (0 < i → (cs.getD (i - 1) c0D).1 < (cs.getD i c0D).1) := by
  unfold condsB at h
  rw [List.all_eq_true] at h
  have := h i (List.mem_range.2 hi)
  rw [Bool.and_eq_true, Bool.or_eq_true, decide_eq_true_eq, decide_eq_true_eq] at this
  refine ⟨this.1, fun h0 => ?_⟩
  rcases this.2 with e | e
  · omega
  · exact e
theorem conds_asc {cs : List CondD} (h : condsB cs = true) : ∀ j, j < cs.length → ∀ i, i < j → (cs.getD i c0D).1 < (cs.getD j c0D).1
  | 0, _, i, hi => by omega
  | j + 1, hj, i, hi => by
    have h1 := (condsB_at h hj).2 (by omega)
    rw [Nat.add_sub_cancel] at h1
    by_cases e : i = j
    · subst e; exact h1
    · have := conds_asc h j (by omega) i (by omega); omega
theorem conds_same {cs : List CondD} (h : condsB cs = true) {c d : CondD} (hc : c ∈ cs) (hd : d ∈ cs) (e : c.1 = d.1) : c = d := by
  obtain ⟨i, hi, rfl⟩ := List.getElem_of_mem hc
  obtain ⟨j, hj, rfl⟩ := List.getElem_of_mem hd
  have ei : cs.getD i c0D = cs[i] := by simp [List.getD, hi]
  have ej : cs.getD j c0D = cs[j] := by simp [List.getD, hj]
  have e1 := conds_asc h j hj i
  have e2 := conds_asc h i hi j
  rw [ei, ej] at e1 e2
  have : i = j := by
    rcases Nat.lt_trichotomy i j with l | l | l
    · have := e1 l; omega
    · exact l
    · have := e2 l; omega
  subst this; rfl
theorem adm_range {cs : List CondD} (h : condsB cs = true) (f : Int) {v : Int} (hv : 0 ≤ v ∧ v ≤ 99) : admB cs f v = decide ((rangeC cs f).1 ≤ v ∧ v ≤ (rangeC cs f).2) := by
  unfold rangeC
  cases hf : cs.find? (fun c => decide (c.1 = f)) with
  | none =>
    rw [List.find?_eq_none] at hf
    simp only [decide_eq_true_eq] at hf
    rw [decide_eq_true hv]
    unfold admB
    rw [List.all_eq_true]
    intro c hc
    simp [admC, hf c hc]
  | some c =>
    have hc := List.mem_of_find?_eq_some hf
    have he := List.find?_some hf
    rw [decide_eq_true_eq] at he
    simp only
    have hcv : admC f v c = decide (c.2.1 ≤ v ∧ v ≤ c.2.2) := by simp [admC, he]
    rw [← hcv]
    unfold admB
    cases hx : admC f v c with
    | false =>
      rw [Bool.eq_false_iff]
      intro g
      rw [List.all_eq_true] at g
      rw [g c hc] at hx
      exact Bool.noConfusion hx
    | true =>
      rw [List.all_eq_true]
      intro d hd
      by_cases e : d.1 = f
      · rw [conds_same h hd hc (e.trans he.symm)]; exact hx
      · simp [admC, e]
theorem qB_conds {q : QD} (h : qB q = true) : condsB q.2.2.1 = true := by
  unfold qB queryB at h
  simp only [Bool.and_eq_true] at h
  exact h.1
def inC (f v : Int) (q : QD) : Bool := decide ((rangeC q.2.2.1 f).1 ≤ v ∧ v ≤ (rangeC q.2.2.1 f).2)
/-- The program's side: the numbers of the queries whose range contains the value. -/
def valsL (a : List QD) (f v : Int) : List Int := (a.filter (inC f v)).map (·.1)
theorem valsL_eq {a : List QD} (h : areQB a = true) {f v : Int} (hf : 0 ≤ f ∧ f ≤ 2) (hv : 0 ≤ v ∧ v ≤ 99) : valsL a f v = stabL a f v := by
  unfold valsL stabL okF okV
  rw [h, decide_eq_true hf, decide_eq_true hv]
  simp only [Bool.and_self, if_true]
  congr 1
  refine List.filter_congr (fun q hq => ?_)
  exact (adm_range (qB_conds (areQ_at h hq)) f hv).symm
end Go.Proofs.YtmkcfkblfjhnhaaDoor
namespace Go.Proofs.YtmkcfkblfjhnhaaDoor
open Go.RowKit
set_option linter.unusedVariables false
set_option linter.unusedSimpArgs false
/-- The spans x tell the values of F from 0 to n - 1. -/
structure Tells (F : Int → List Int) (n : Nat) (x : List SpanD) : Prop where
  pos : 0 < x.length
  first : (x.getD 0 p0D).1 = 0
  last : (x.getD (x.length - 1) p0D).2.1 = (n : Int) - 1
  order : ∀ i, i < x.length → (x.getD i p0D).1 ≤ (x.getD i p0D).2.1
  next : ∀ i, i + 1 < x.length → (x.getD (i + 1) p0D).1 = (x.getD i p0D).2.1 + 1
  differ : ∀ i, i + 1 < x.length → ¬ (x.getD (i + 1) p0D).2.2 = (x.getD i p0D).2.2
  same : ∀ i, i < x.length → ∀ v, (x.getD i p0D).1 ≤ v → v ≤ (x.getD i p0D).2.1 → F v = (x.getD i p0D).2.2
theorem getD_set_p {l : List SpanD} {j : Nat} (hj : j < l.length) (r : SpanD) : (l.set j r).getD j p0D = r := by simp [List.getD, hj]
theorem getD_set_p_ne {l : List SpanD} {i j : Nat} (h : i ≠ j) (r : SpanD) : (l.set j r).getD i p0D = l.getD i p0D := by
  simp only [List.getD]; rw [List.getElem?_set_ne (Ne.symm h)]
theorem getD_app_p {l : List SpanD} {i : Nat} (h : i < l.length) (r : SpanD) : (l ++ [r]).getD i p0D = l.getD i p0D := by simp [List.getD, List.getElem?_append_left h]
theorem getD_new_p (l : List SpanD) (r : SpanD) : (l ++ [r]).getD l.length p0D = r := by simp [List.getD]
theorem tells_one (F : Int → List Int) : Tells F 1 (stepP [] 0 (F 0)) := by
  have e : stepP [] 0 (F 0) = [(0, 0, F 0)] := by simp [stepP]
  rw [e]
  refine ⟨by simp, rfl, rfl, ?_, ?_, ?_, ?_⟩
  · intro i hi; simp at hi; subst hi; exact Int.le_refl _
  · intro i hi; simp at hi
  · intro i hi; simp at hi
  · intro i hi v h1 h2
    simp at hi; subst hi
    have : v = 0 := by
      have h1' : (0 : Int) ≤ v := h1
      have h2' : v ≤ (0 : Int) := h2
      omega
    subst this; rfl
theorem tells_step {F : Int → List Int} {n : Nat} {x : List SpanD} (h : Tells F n x) : Tells F (n + 1) (stepP x (n : Int) (F n)) := by
  have hp := h.pos
  have hlast := h.last
  have hord := h.order (x.length - 1) (by omega)
  unfold stepP
  split
  · next c =>
    obtain ⟨_, c⟩ := c
    have hl : x.length - 1 < x.length := by omega
    have key : ∀ i, i < x.length → (((x.set (x.length - 1) ((x.getD (x.length - 1) p0D).1, (n : Int), (x.getD (x.length - 1) p0D).2.2)).getD i p0D).1 = (x.getD i p0D).1 ∧
        ((x.set (x.length - 1) ((x.getD (x.length - 1) p0D).1, (n : Int), (x.getD (x.length - 1) p0D).2.2)).getD i p0D).2.2 = (x.getD i p0D).2.2 ∧
        ((x.set (x.length - 1) ((x.getD (x.length - 1) p0D).1, (n : Int), (x.getD (x.length - 1) p0D).2.2)).getD i p0D).2.1 = if i = x.length - 1 then (n : Int) else (x.getD i p0D).2.1) := by
      intro i hi
      by_cases e : i = x.length - 1
      · subst e
        rw [getD_set_p hl]; simp
      · rw [getD_set_p_ne e]; simp [e]
    generalize hy : x.set (x.length - 1) ((x.getD (x.length - 1) p0D).1, (n : Int), (x.getD (x.length - 1) p0D).2.2) = y at key
    have hyl : y.length = x.length := by rw [← hy, List.length_set]
    refine ⟨by omega, ?_, ?_, ?_, ?_, ?_, ?_⟩
    · rw [(key 0 hp).1]; exact h.first
    · rw [hyl, (key _ hl).2.2, if_pos rfl]; omega
    · intro i hi
      rw [hyl] at hi
      rw [(key i hi).1, (key i hi).2.2]
      split
      · next e => subst e; omega
      · exact h.order i hi
    · intro i hi
      rw [hyl] at hi
      rw [(key (i + 1) hi).1, (key i (by omega)).2.2, if_neg (by omega)]
      exact h.next i hi
    · intro i hi
      rw [hyl] at hi
      rw [(key (i + 1) hi).2.1, (key i (by omega)).2.1]
      exact h.differ i hi
    · intro i hi v h1 h2
      rw [hyl] at hi
      rw [(key i hi).1] at h1
      rw [(key i hi).2.2] at h2
      rw [(key i hi).2.1]
      split at h2
      · next e =>
        by_cases ev : v = (n : Int)
        · subst ev; rw [e]; exact c.symm
        · exact h.same i hi v h1 (by rw [e, hlast]; omega)
      · exact h.same i hi v h1 h2
  · next c =>
    have c' : ¬ (x.getD (x.length - 1) p0D).2.2 = F n := fun g => c ⟨hp, g⟩
    have hyl : (x ++ [((n : Int), (n : Int), F n)]).length = x.length + 1 := by simp
    refine ⟨by omega, ?_, ?_, ?_, ?_, ?_, ?_⟩
    · rw [getD_app_p hp]; exact h.first
    · rw [hyl, Nat.add_sub_cancel, getD_new_p]; simp
    · intro i hi
      rw [hyl] at hi
      by_cases e : i = x.length
      · subst e; rw [getD_new_p]; exact Int.le_refl _
      · rw [getD_app_p (by omega)]; exact h.order i (by omega)
    · intro i hi
      rw [hyl] at hi
      by_cases e : i + 1 = x.length
      · rw [e, getD_new_p, getD_app_p (by omega), show i = x.length - 1 by omega, hlast]
        show (n : Int) = _
        omega
      · rw [getD_app_p (by omega), getD_app_p (by omega)]; exact h.next i (by omega)
    · intro i hi
      rw [hyl] at hi
      by_cases e : i + 1 = x.length
      · rw [e, getD_new_p, getD_app_p (by omega), show i = x.length - 1 by omega]
        exact fun g => c' g.symm
      · rw [getD_app_p (by omega), getD_app_p (by omega)]; exact h.differ i (by omega)
    · intro i hi v h1 h2
      rw [hyl] at hi
      by_cases e : i = x.length
      · subst e
        rw [getD_new_p] at h1 h2 ⊢
        have h1' : (n : Int) ≤ v := h1
        have h2' : v ≤ (n : Int) := h2
        have : v = (n : Int) := by omega
        subst this; rfl
      · rw [getD_app_p (by omega)] at h1 h2 ⊢
        exact h.same i (by omega) v h1 h2
theorem tells_all (F : Int → List Int) : ∀ n, Tells F (n + 1) (spansTo F (n + 1))
  | 0 => tells_one F
  | n + 1 => tells_step (tells_all F n)
theorem tells_find {F : Int → List Int} {n : Nat} {x : List SpanD} (h : Tells F n x) {v : Int} (h0 : 0 ≤ v) (h1 : v ≤ (n : Int) - 1) : findL x v = F v := by
  have ex : ∀ m, m ≤ x.length → (∀ j, j < m → (x.getD j p0D).2.1 < v) ∨ ∃ k, k < x.length ∧ v ≤ (x.getD k p0D).2.1 ∧ ∀ j, j < k → (x.getD j p0D).2.1 < v := by
    intro m
    induction m with
    | zero => intro _; exact Or.inl (fun j hj => by omega)
    | succ m ih =>
      intro hm
      rcases ih (by omega) with g | g
      · by_cases c : v ≤ (x.getD m p0D).2.1
        · exact Or.inr ⟨m, by omega, c, g⟩
        · refine Or.inl (fun j hj => ?_)
          by_cases e : j = m
          · subst e; omega
          · exact g j (by omega)
      · exact Or.inr g
  have hp := h.pos
  rcases ex x.length (Nat.le_refl _) with g | ⟨k, hk, hle, hlow⟩
  · have := g (x.length - 1) (by omega)
    have := h.last
    omega
  · have hfrom : (x.getD k p0D).1 ≤ v := by
      by_cases e : k = 0
      · subst e; rw [h.first]; exact h0
      · have h2 := h.next (k - 1) (by omega)
        have h3 := hlow (k - 1) (by omega)
        rw [show k - 1 + 1 = k by omega] at h2
        omega
    rw [find_at hk (fun j hj => by have := hlow j hj; unfold hitB; rw [decide_eq_false (by omega)]) (by unfold hitB; rw [decide_eq_true ⟨hfrom, hle⟩])]
    exact (h.same k hk v hfrom hle).symm
theorem nodup_sub {α : Type} [DecidableEq α] : ∀ (l m : List α), l.Nodup → (∀ x ∈ l, x ∈ m) → l.length ≤ m.length
  | [], m, _, _ => by simp
  | x :: l, m, hn, hs => by
    rw [List.nodup_cons] at hn
    have hx := hs x List.mem_cons_self
    have ih := nodup_sub l (m.erase x) hn.2 (fun y hy => by
      have hne : y ≠ x := fun e => hn.1 (e ▸ hy)
      exact (List.mem_erase_of_ne hne).2 (hs y (List.mem_cons_of_mem _ hy)))
    rw [List.length_erase_of_mem hx] at ih
    have : 0 < m.length := List.length_pos_of_mem hx
    simp only [List.length_cons]
    omega
/-- The places at which F changes. -/
def turnsL (F : Int → List Int) (n : Nat) : List Nat := (List.range n).filter (fun i => decide (F ((i : Int) + 1) ≠ F (i : Int)))
theorem turns_step (F : Int → List Int) (n : Nat) : (turnsL F (n + 1)).length = (turnsL F n).length + if F ((n : Int) + 1) = F (n : Int) then 0 else 1 := by
  unfold turnsL
  rw [List.range_succ, List.filter_append, List.length_append]
  congr 1
  by_cases c : F ((n : Int) + 1) = F (n : Int)
  · simp [c]
  · simp [c]
theorem spansTo_few (F : Int → List Int) : ∀ n, (spansTo F (n + 1)).length ≤ 1 + (turnsL F n).length
  | 0 => by simp [spansTo, stepP]
  | n + 1 => by
    have ih := spansTo_few F n
    have ht := tells_all F n
    have hp := ht.pos
    have hst := turns_step F n
    have hsm := ht.same ((spansTo F (n + 1)).length - 1) (by omega) (n : Int) (by have := ht.order _ (show (spansTo F (n + 1)).length - 1 < _ by omega); have := ht.last; omega) (by have := ht.last; omega)
    show (stepP (spansTo F (n + 1)) ((n + 1 : Nat) : Int) (F ((n + 1 : Nat) : Int))).length ≤ _
    rw [hst]
    unfold stepP
    split
    · next c =>
      rw [List.length_set]; omega
    · next c =>
      have : ¬ F ((n : Int) + 1) = F (n : Int) := fun g => c ⟨hp, by rw [← hsm, show (((n + 1 : Nat) : Int)) = (n : Int) + 1 by omega]; exact g.symm⟩
      rw [if_neg this]
      simp only [List.length_append, List.length_cons, List.length_nil]
      omega
theorem filter_differ {α : Type} {p q : α → Bool} {l : List α} (h : ¬ l.filter p = l.filter q) : ∃ x ∈ l, p x ≠ q x := by
  by_cases c : ∃ x ∈ l, p x ≠ q x
  · exact c
  · exact absurd (List.filter_congr (fun x hx => by
      by_cases e : p x = q x
      · exact e
      · exact absurd ⟨x, hx, e⟩ c)) h
theorem stab_yes {a : List QD} (h : areQB a = true) {f v : Int} (hf : 0 ≤ f ∧ f ≤ 2) (hv : 0 ≤ v ∧ v ≤ 99) : stabL a f v = (a.filter (inC f v)).map (·.1) := (valsL_eq h hf hv).symm
theorem spans_few {a : List QD} (h : areQB a = true) {f : Int} (hf : 0 ≤ f ∧ f ≤ 2) : (spansTo (stabL a f) 100).length ≤ 2 * a.length + 1 := by
  have h1 : (spansTo (stabL a f) 100).length ≤ 1 + (turnsL (stabL a f) 99).length := spansTo_few (stabL a f) 99
  have h2 : (turnsL (stabL a f) 99).length ≤ ((a.map fun q => (rangeC q.2.2.1 f).1) ++ (a.map fun q => (rangeC q.2.2.1 f).2 + 1)).length := by
    have hn : ((turnsL (stabL a f) 99).map (fun (i : Nat) => (i : Int) + 1)).Nodup := by
      unfold List.Nodup
      rw [List.pairwise_map]
      refine List.Pairwise.imp ?_ (List.Pairwise.filter _ (List.nodup_range))
      intro i j hij e
      omega
    have := nodup_sub _ ((a.map fun q => (rangeC q.2.2.1 f).1) ++ (a.map fun q => (rangeC q.2.2.1 f).2 + 1)) hn (fun x hx => by
      rw [List.mem_map] at hx
      obtain ⟨i, hi, rfl⟩ := hx
      unfold turnsL at hi
      rw [List.mem_filter, List.mem_range, decide_eq_true_eq] at hi
      obtain ⟨hi, hd⟩ := hi
      rw [stab_yes h hf (by omega), stab_yes h hf (by omega)] at hd
      obtain ⟨q, hq, hne⟩ := filter_differ (fun e => hd (by rw [e]))
      rw [List.mem_append, List.mem_map, List.mem_map]
      unfold inC at hne
      by_cases c1 : (rangeC q.2.2.1 f).1 = (i : Int) + 1
      · exact Or.inl ⟨q, hq, c1⟩
      · by_cases c2 : (rangeC q.2.2.1 f).2 + 1 = (i : Int) + 1
        · exact Or.inr ⟨q, hq, c2⟩
        · exfalso
          apply hne
          have : ((rangeC q.2.2.1 f).1 ≤ (i : Int) + 1 ∧ (i : Int) + 1 ≤ (rangeC q.2.2.1 f).2) ↔ ((rangeC q.2.2.1 f).1 ≤ (i : Int) ∧ (i : Int) ≤ (rangeC q.2.2.1 f).2) := by omega
          simp only [this])
    rw [List.length_map] at this
    exact this
  rw [List.length_append, List.length_map, List.length_map] at h2
  omega
end Go.Proofs.YtmkcfkblfjhnhaaDoor
