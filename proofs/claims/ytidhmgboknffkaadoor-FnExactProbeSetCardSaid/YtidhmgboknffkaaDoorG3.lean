/-
  Texts of the proof, merged: FindSpec, IndexMath, Ty, TyInt, TSpan, TSpanS, TSpanSS, TCond, TCondS.
-/
import Derived.Test.YtidhmgboknffkaaDoorG2
import Derived.WalkKit
import Derived.Below
import Derived.Lib.Hide
import Derived.OwnWalk
import Derived.Laws.OwnMore
import Derived.Laws.MakeOwn
import Derived.BigQuiet
import Derived.Deep.QuietTactic
import Derived.Deep.RegionHeld3
namespace Go.Proofs.YtidhmgboknffkaaDoor
open Go.RowKit
set_option linter.unusedVariables false
set_option linter.unusedSimpArgs false
def hitB (v : Int) (r : SpanD) : Bool := decide (r.1 ≤ v ∧ v ≤ r.2.1)
/-- The set of the first span that contains the value. -/
def findL (rs : List SpanD) (v : Int) : List Int := ((rs.find? (hitB v)).getD p0D).2.2
theorem find_none {rs : List SpanD} {v : Int} (h : ∀ j, j < rs.length → hitB v (rs.getD j p0D) = false) : findL rs v = [] := by
  unfold findL
  have : rs.find? (hitB v) = none := by
    rw [List.find?_eq_none]
    intro r hr
    obtain ⟨j, hj, rfl⟩ := List.getElem_of_mem hr
    have := h j hj
    have e : rs.getD j p0D = rs[j] := by simp [List.getD, hj]
    rw [e] at this; simp [this]
  rw [this]; rfl
theorem find_at {rs : List SpanD} {v : Int} {k : Nat} (hk : k < rs.length) (h : ∀ j, j < k → hitB v (rs.getD j p0D) = false) (hh : hitB v (rs.getD k p0D) = true) : findL rs v = (rs.getD k p0D).2.2 := by
  unfold findL
  have e : rs.getD k p0D = rs[k] := by simp [List.getD, hk]
  have : rs.find? (hitB v) = some rs[k] := by
    rw [List.find?_eq_some_iff_getElem]
    refine ⟨by rw [← e]; exact hh, k, hk, rfl, fun j hj => ?_⟩
    have h2 := h j hj
    have e2 : rs.getD j p0D = rs[j] := by simp [List.getD, Nat.lt_trans hj hk]
    rw [e2] at h2; simp [h2]
  rw [this, e]; rfl
theorem wpl_app_ints {w : World} {ops : Array Oper} {rest : List Oper} {o : Oper} {a : Act} {Q : Exit → Act → World → Prop} (hgd : o.guard = none) (s x : Operand)
    (ho : o.op = .call { callee := .builtin .append, args := #[s, x], argTypes := #[28, 28] })
    (B : Nat) (v u : Value) (xs ys : List Int) (hs : a.eval s = v) (hx : a.eval x = u) (hown : OwnsN w B v xs) (hu : Ints w u ys) (hB : B ≤ w.heap.size) (h63 : xs.length + ys.length ≤ 17592186044416)
    (h : ∀ v' w', OwnsN w' B v' (xs ++ ys) → Below B w w' → wpList Tryd.prog ops Q rest (a.put o.dst v') w') : wpList Tryd.prog ops Q (o :: rest) a w := by
  refine wpList_plain hgd fun K hK => ?_
  obtain ⟨v', w', hr, h2, h3⟩ := run_append_ints o.type hown hu hB h63
  unfold Oper.wp
  simp [execOp, ho, resolve, invoke, builtin, hs, hx, hr, Result.andThen]
  exact hK _ _ (h v' w' h2 h3)
/-- A set in new memory is answered. -/
def FreshInts (w : World) (xs : List Int) (e : Ending) (w' : World) : Prop := ∃ u, e = .returned u ∧ OwnsN w' w.heap.size u xs ∧ Below w.heap.size w w'
set_option maxHeartbeats 16000000 in
set_option maxRecDepth 100000 in
theorem specFindSpan (va : Value) (rs : List SpanD) (v : Int) (w : World) (h : SpansR w va rs) (hx : ∀ j, j < rs.length → (rs.getD j p0D).2.2.length ≤ 1048576) (hn : rs.length ≤ 1048576) :
    Calls Tryd.prog 116 #[va, .int .i64 v] w (FreshInts w (findL rs v)) := by
  have H := Lib.hid h
  have HX := Lib.hid hx
  obtain ⟨a, cap, rfl⟩ := spansR_len h
  clear h hx
  go_enter Tryd.func116, Tryd.ntmps116
  go_wp2
  go_loopw [5] (fun i wr => ∃ k : Nat, k ≤ rs.length ∧ i = .int .i64 k ∧ Hid (∀ j, j < k → hitB v (rs.getD j p0D) = false) ∧ Below w.heap.size w wr) (fun i _ => rs.length - (intOf i).toNat)
  case atStart => exact ⟨0, Nat.zero_le _, rfl, Lib.hid (fun j hj => by omega), Below.refl _ _⟩
  case round =>
    obtain ⟨k, hk, rfl, hall, hbel⟩ := hrel
    by_cases hlt : k < rs.length
    · obtain ⟨b, off, cap', vv, hv, hbl, hc1, hc2, hc3, hI⟩ := spansR_at (spansR_below H.out hbel) hlt
      simp only [Value.slice.injEq] at hv
      obtain ⟨rfl, _, rfl⟩ := hv
      obtain ⟨ua, uc, rfl⟩ := ints_len hI
      have hxl := HX.out k hlt
      have i1 : (0 : Int) ≤ (k : Int) := by omega
      have i2 : (k : Int) < (rs.length : Int) := by omega
      have HHIT := Lib.hid (fun e => find_at (v := v) hlt hall.out e)
      have HALL : Hid (hitB v (rs.getD k p0D) = false → ∀ j, j < k + 1 → hitB v (rs.getD j p0D) = false) := Lib.hid (fun he j hj => by
        by_cases e : j = k
        · exact e ▸ he
        · exact hall.out j (by omega))
      clear hall
      generalize rs.getD k p0D = r at *
      obtain ⟨sf, st, xs⟩ := r
      simp only at hc1 hc2 hc3 hI hxl HHIT
      have HII := Lib.hid hI
      have HXL := Lib.hid hxl
      clear hI hxl
      go_wp2
      by_cases hin : sf ≤ v ∧ v ≤ st
      · have HF := Lib.hid (HHIT.out (by unfold hitB; exact decide_eq_true hin))
        have HIN := Lib.hid (fun w => in_yes v sf st w hin.1 hin.2)
        clear hin HALL HHIT
        refine wp_region_held_drew (S := fun w' => w'.cell? ⟨b, off + k * 3, none⟩ = some (.int .i64 sf) ∧ w'.cell? ⟨b, off + k * 3 + 1, none⟩ = some (.int .i64 st) ∧ w'.cell? ⟨b, off + k * 3 + 2, none⟩ = some (.slice ua xs.length uc)) (by kernel_rfl) ⟨hc1, hc2, hc3⟩ (fun hHeld => ?_)
        refine take_runs (i := 0) (v := ?_) (by simp only [List.getElem?_toArray, List.getElem?_cons_succ, List.getElem?_cons_zero]; rfl) (by kernel_rfl) (by kernel_rfl) (by kernel_rfl) rfl (by exact fun _ _ _ h => h) (by rfl) ?_ (by assumption) ?_
        rotate_left
        · intro w hSw; (try dsimp only at hSw); go_simp; try (with_reducible rfl)
        try simp only [Act.put, List.setIfInBounds_toArray, List.set_cons_zero, List.set_cons_succ]
        refine take_runs (i := 1) (v := ?_) (by simp only [List.getElem?_toArray, List.getElem?_cons_succ, List.getElem?_cons_zero]; rfl) (by kernel_rfl) (by kernel_rfl) (by kernel_rfl) rfl (by exact fun _ _ _ h => h) (by rfl) ?_ (by assumption) ?_
        rotate_left
        · intro w hSw; (try dsimp only at hSw); go_simp; try (with_reducible rfl)
        try simp only [Act.put, List.setIfInBounds_toArray, List.set_cons_zero, List.set_cons_succ]
        refine take_runs (i := 2) (v := ?_) (by simp only [List.getElem?_toArray, List.getElem?_cons_succ, List.getElem?_cons_zero]; rfl) (by kernel_rfl) (by kernel_rfl) (by kernel_rfl) rfl (by exact fun _ _ _ h => h) (by rfl) ?_ (by assumption) ?_
        rotate_left
        · intro w hSw; (try dsimp only at hSw); go_simp; try (with_reducible rfl)
        try simp only [Act.put, List.setIfInBounds_toArray, List.set_cons_zero, List.set_cons_succ]
        refine take_runs (i := 3) (v := ?_) (by simp only [List.getElem?_toArray, List.getElem?_cons_succ, List.getElem?_cons_zero]; rfl) (by kernel_rfl) (by kernel_rfl) (by kernel_rfl) rfl (by exact fun _ _ _ h => h) (by rfl) ?_ (by assumption) ?_
        rotate_left
        · intro w hSw; (try dsimp only at hSw); go_simp; try (with_reducible rfl)
        try simp only [Act.put, List.setIfInBounds_toArray, List.set_cons_zero, List.set_cons_succ]
        refine take_runs (i := 4) (v := ?_) (by simp only [List.getElem?_toArray, List.getElem?_cons_succ, List.getElem?_cons_zero]; rfl) (by kernel_rfl) (by kernel_rfl) (by kernel_rfl) rfl (by exact fun _ _ _ h => h) (by rfl) ?_ (by assumption) ?_
        rotate_left
        · intro w hSw; (try dsimp only at hSw); go_simp; try (with_reducible rfl)
        try simp only [Act.put, List.setIfInBounds_toArray, List.set_cons_zero, List.set_cons_succ]
        refine take_runs (i := 5) (v := ?_) (by simp only [List.getElem?_toArray, List.getElem?_cons_succ, List.getElem?_cons_zero]; rfl) (by kernel_rfl) (by kernel_rfl) (by kernel_rfl) rfl (by exact fun _ _ _ h => h) (by rfl) ?_ (by assumption) ?_
        rotate_left
        · intro w hSw; (try dsimp only at hSw); go_simp; try (with_reducible rfl)
        try simp only [Act.put, List.setIfInBounds_toArray, List.set_cons_zero, List.set_cons_succ]
        refine take_runs (i := 6) (v := ?_) (by simp only [List.getElem?_toArray, List.getElem?_cons_succ, List.getElem?_cons_zero]; rfl) (by kernel_rfl) (by kernel_rfl) (by kernel_rfl) rfl (by exact fun _ _ _ h => h) (by rfl) ?_ (by assumption) ?_
        rotate_left
        · intro w hSw; (try dsimp only at hSw); go_simp; try (with_reducible rfl)
        try simp only [Act.put, List.setIfInBounds_toArray, List.set_cons_zero, List.set_cons_succ]
        refine take_runs (i := 7) (v := ?_) (by simp only [List.getElem?_toArray, List.getElem?_cons_succ, List.getElem?_cons_zero]; rfl) (by kernel_rfl) (by kernel_rfl) (by kernel_rfl) rfl (by exact fun _ _ _ h => h) (by rfl) ?_ (by assumption) ?_
        rotate_left
        · intro w hSw; (try dsimp only at hSw); go_simp; try (with_reducible rfl)
        try simp only [Act.put, List.setIfInBounds_toArray, List.set_cons_zero, List.set_cons_succ]
        refine take_runs (i := 8) (v := ?_) (by simp only [List.getElem?_toArray, List.getElem?_cons_succ, List.getElem?_cons_zero]; rfl) (by kernel_rfl) (by kernel_rfl) (by kernel_rfl) rfl (by exact fun _ _ _ h => h) (by rfl) ?_ (by assumption) ?_
        rotate_left
        · intro w hSw; (try dsimp only at hSw); go_simp; try (with_reducible rfl)
        try simp only [Act.put, List.setIfInBounds_toArray, List.set_cons_zero, List.set_cons_succ]
        refine take_runs (i := 9) (v := ?_) (by simp only [List.getElem?_toArray, List.getElem?_cons_succ, List.getElem?_cons_zero]; rfl) (by kernel_rfl) (by kernel_rfl) (by kernel_rfl) rfl (by exact fun _ _ _ h => h) (by rfl) ?_ (by assumption) ?_
        rotate_left
        · intro w hSw; (try dsimp only at hSw); go_simp; try (with_reducible rfl)
        try simp only [Act.put, List.setIfInBounds_toArray, List.set_cons_zero, List.set_cons_succ]
        refine take_runs (i := 10) (v := ?_) (by simp only [List.getElem?_toArray, List.getElem?_cons_succ, List.getElem?_cons_zero]; rfl) (by kernel_rfl) (by kernel_rfl) (by kernel_rfl) rfl (by exact fun _ _ _ h => h) (by rfl) ?_ (by assumption) ?_
        rotate_left
        · intro w hSw; (try dsimp only at hSw); go_simp; try (with_reducible rfl)
        try simp only [Act.put, List.setIfInBounds_toArray, List.set_cons_zero, List.set_cons_succ]
        refine wpAnyH_ready (rs := [11]) (by kernel_rfl) (by simp) ?_
        refine AllReadyH.cons (o := _) (by simp only [List.getElem?_toArray, List.getElem?_cons_succ, List.getElem?_cons_zero]; rfl) (fun K hK => ?_) AllReadyH.nil
        go_simp
        refine (HIN.out _).mono ?_
        rintro e w8 ⟨rfl, rfl⟩
        refine hK.out _ _ ⟨hc1, hc2, hc3⟩ (fun hHeld => ?_)
        clear hK K
        try simp only [Act.put, List.setIfInBounds_toArray, List.set_cons_zero, List.set_cons_succ]
        refine wpAnyH_done (by kernel_rfl) ?_ _
        have b11 : Below w.heap.size w wr.drew := below_drew hbel
        have I11 : Ints wr.drew (.slice ua xs.length uc) xs := by exact ints_heap HII.out rfl
        have hc3b : wr.drew.cell? ⟨b, off + k * 3 + 2, none⟩ = some (.slice ua xs.length uc) := hc3
        clear hHeld hc1 hc2 hc3
        generalize wr.drew = W1 at *
        have hc3c : (W1.alloc (.cells #[] 3)).cell? ⟨b, off + k * 3 + 2, none⟩ = some (.slice ua xs.length uc) := (((Below.refl W1.heap.size W1).alloc (Nat.le_refl _) (.cells #[] 3)).cell (p := ⟨b, off + k * 3 + 2, none⟩) (World.block_lt_of_cell? W1 _ hc3b)).trans hc3b
        go_wp2_with (at_builtin; refine wpl_app_ints rfl (.tmp 24) (.tmp 29) rfl W1.heap.size _ _ [] xs rfl rfl (ownsN_lit W1 W1.heap.size (Nat.le_refl _) #[] 0 [] rfl rfl (by unfold maxLen; omega)) (ints_below I11 ((Below.refl W1.heap.size W1).alloc (Nat.le_refl _) _)) (by simp [World.size_alloc]) (by have := HXL.out; simp; omega) ?_)
        intro u W3 oB bB
        obtain ⟨pa, pc, rfl⟩ := ints_len (ownsN_ints oB)
        go_wp2
        go_ret
        rw [HF.out]
        exact ⟨_, rfl, ownsN_up oB b11.size, b11.trans ((((Below.refl W1.heap.size W1).alloc (Nat.le_refl _) _).trans bB).mono b11.size)⟩
      · have HA := Lib.hid (HALL.out (by unfold hitB; exact decide_eq_false hin))
        have HIN := Lib.hid (fun w => in_no v sf st w hin)
        clear hin HALL HHIT
        refine wp_region_held_drew (S := fun w' => w'.cell? ⟨b, off + k * 3, none⟩ = some (.int .i64 sf) ∧ w'.cell? ⟨b, off + k * 3 + 1, none⟩ = some (.int .i64 st) ∧ w'.cell? ⟨b, off + k * 3 + 2, none⟩ = some (.slice ua xs.length uc)) (by kernel_rfl) ⟨hc1, hc2, hc3⟩ (fun hHeld => ?_)
        refine take_runs (i := 0) (v := ?_) (by simp only [List.getElem?_toArray, List.getElem?_cons_succ, List.getElem?_cons_zero]; rfl) (by kernel_rfl) (by kernel_rfl) (by kernel_rfl) rfl (by exact fun _ _ _ h => h) (by rfl) ?_ (by assumption) ?_
        rotate_left
        · intro w hSw; (try dsimp only at hSw); go_simp; try (with_reducible rfl)
        try simp only [Act.put, List.setIfInBounds_toArray, List.set_cons_zero, List.set_cons_succ]
        refine take_runs (i := 1) (v := ?_) (by simp only [List.getElem?_toArray, List.getElem?_cons_succ, List.getElem?_cons_zero]; rfl) (by kernel_rfl) (by kernel_rfl) (by kernel_rfl) rfl (by exact fun _ _ _ h => h) (by rfl) ?_ (by assumption) ?_
        rotate_left
        · intro w hSw; (try dsimp only at hSw); go_simp; try (with_reducible rfl)
        try simp only [Act.put, List.setIfInBounds_toArray, List.set_cons_zero, List.set_cons_succ]
        refine take_runs (i := 2) (v := ?_) (by simp only [List.getElem?_toArray, List.getElem?_cons_succ, List.getElem?_cons_zero]; rfl) (by kernel_rfl) (by kernel_rfl) (by kernel_rfl) rfl (by exact fun _ _ _ h => h) (by rfl) ?_ (by assumption) ?_
        rotate_left
        · intro w hSw; (try dsimp only at hSw); go_simp; try (with_reducible rfl)
        try simp only [Act.put, List.setIfInBounds_toArray, List.set_cons_zero, List.set_cons_succ]
        refine take_runs (i := 3) (v := ?_) (by simp only [List.getElem?_toArray, List.getElem?_cons_succ, List.getElem?_cons_zero]; rfl) (by kernel_rfl) (by kernel_rfl) (by kernel_rfl) rfl (by exact fun _ _ _ h => h) (by rfl) ?_ (by assumption) ?_
        rotate_left
        · intro w hSw; (try dsimp only at hSw); go_simp; try (with_reducible rfl)
        try simp only [Act.put, List.setIfInBounds_toArray, List.set_cons_zero, List.set_cons_succ]
        refine take_runs (i := 4) (v := ?_) (by simp only [List.getElem?_toArray, List.getElem?_cons_succ, List.getElem?_cons_zero]; rfl) (by kernel_rfl) (by kernel_rfl) (by kernel_rfl) rfl (by exact fun _ _ _ h => h) (by rfl) ?_ (by assumption) ?_
        rotate_left
        · intro w hSw; (try dsimp only at hSw); go_simp; try (with_reducible rfl)
        try simp only [Act.put, List.setIfInBounds_toArray, List.set_cons_zero, List.set_cons_succ]
        refine take_runs (i := 5) (v := ?_) (by simp only [List.getElem?_toArray, List.getElem?_cons_succ, List.getElem?_cons_zero]; rfl) (by kernel_rfl) (by kernel_rfl) (by kernel_rfl) rfl (by exact fun _ _ _ h => h) (by rfl) ?_ (by assumption) ?_
        rotate_left
        · intro w hSw; (try dsimp only at hSw); go_simp; try (with_reducible rfl)
        try simp only [Act.put, List.setIfInBounds_toArray, List.set_cons_zero, List.set_cons_succ]
        refine take_runs (i := 6) (v := ?_) (by simp only [List.getElem?_toArray, List.getElem?_cons_succ, List.getElem?_cons_zero]; rfl) (by kernel_rfl) (by kernel_rfl) (by kernel_rfl) rfl (by exact fun _ _ _ h => h) (by rfl) ?_ (by assumption) ?_
        rotate_left
        · intro w hSw; (try dsimp only at hSw); go_simp; try (with_reducible rfl)
        try simp only [Act.put, List.setIfInBounds_toArray, List.set_cons_zero, List.set_cons_succ]
        refine take_runs (i := 7) (v := ?_) (by simp only [List.getElem?_toArray, List.getElem?_cons_succ, List.getElem?_cons_zero]; rfl) (by kernel_rfl) (by kernel_rfl) (by kernel_rfl) rfl (by exact fun _ _ _ h => h) (by rfl) ?_ (by assumption) ?_
        rotate_left
        · intro w hSw; (try dsimp only at hSw); go_simp; try (with_reducible rfl)
        try simp only [Act.put, List.setIfInBounds_toArray, List.set_cons_zero, List.set_cons_succ]
        refine take_runs (i := 8) (v := ?_) (by simp only [List.getElem?_toArray, List.getElem?_cons_succ, List.getElem?_cons_zero]; rfl) (by kernel_rfl) (by kernel_rfl) (by kernel_rfl) rfl (by exact fun _ _ _ h => h) (by rfl) ?_ (by assumption) ?_
        rotate_left
        · intro w hSw; (try dsimp only at hSw); go_simp; try (with_reducible rfl)
        try simp only [Act.put, List.setIfInBounds_toArray, List.set_cons_zero, List.set_cons_succ]
        refine take_runs (i := 9) (v := ?_) (by simp only [List.getElem?_toArray, List.getElem?_cons_succ, List.getElem?_cons_zero]; rfl) (by kernel_rfl) (by kernel_rfl) (by kernel_rfl) rfl (by exact fun _ _ _ h => h) (by rfl) ?_ (by assumption) ?_
        rotate_left
        · intro w hSw; (try dsimp only at hSw); go_simp; try (with_reducible rfl)
        try simp only [Act.put, List.setIfInBounds_toArray, List.set_cons_zero, List.set_cons_succ]
        refine take_runs (i := 10) (v := ?_) (by simp only [List.getElem?_toArray, List.getElem?_cons_succ, List.getElem?_cons_zero]; rfl) (by kernel_rfl) (by kernel_rfl) (by kernel_rfl) rfl (by exact fun _ _ _ h => h) (by rfl) ?_ (by assumption) ?_
        rotate_left
        · intro w hSw; (try dsimp only at hSw); go_simp; try (with_reducible rfl)
        try simp only [Act.put, List.setIfInBounds_toArray, List.set_cons_zero, List.set_cons_succ]
        refine wpAnyH_ready (rs := [11]) (by kernel_rfl) (by simp) ?_
        refine AllReadyH.cons (o := _) (by simp only [List.getElem?_toArray, List.getElem?_cons_succ, List.getElem?_cons_zero]; rfl) (fun K hK => ?_) AllReadyH.nil
        go_simp
        refine (HIN.out _).mono ?_
        rintro e w8 ⟨rfl, rfl⟩
        refine hK.out _ _ ⟨hc1, hc2, hc3⟩ (fun hHeld => ?_)
        clear hK K
        try simp only [Act.put, List.setIfInBounds_toArray, List.set_cons_zero, List.set_cons_succ]
        refine wpAnyH_done (by kernel_rfl) ?_ _
        have b11 : Below w.heap.size w wr.drew := below_drew hbel
        have I11 : Ints wr.drew (.slice ua xs.length uc) xs := by exact ints_heap HII.out rfl
        have hc3b : wr.drew.cell? ⟨b, off + k * 3 + 2, none⟩ = some (.slice ua xs.length uc) := hc3
        clear hHeld hc1 hc2 hc3
        generalize wr.drew = W1 at *
        go_wp2
        go_roundw
        case rel => exact ⟨k + 1, by omega, by go_num, HA, b11⟩
        case measure => simp [intOf]; omega
    · obtain rfl : k = rs.length := by omega
      have HF := Lib.hid (find_none hall.out)
      clear hall
      go_wp2
      go_ret
      rw [HF.out]
      exact ⟨_, rfl, ownsN_up (ownsN_lit _ _ (Nat.le_refl _) #[] 0 [] rfl rfl (by decide)) hbel.size, hbel.alloc hbel.size _⟩
end Go.Proofs.YtidhmgboknffkaaDoor
namespace Go.Proofs.YtidhmgboknffkaaDoor
open Go.RowKit
set_option linter.unusedVariables false
/-- The spans of the first k fields. -/
def fldTo (qs : List QD) (k : Nat) : List (List SpanD) := (List.range k).map fun f : Nat => spansL qs (f : Int)
theorem fldTo_len (qs : List QD) (k : Nat) : (fldTo qs k).length = k := by simp [fldTo]
theorem fldTo_at (qs : List QD) {k j : Nat} (h : j < k) : (fldTo qs k).getD j [] = spansL qs (j : Int) := by simp [fldTo, List.getD, h]
def isIndexB (qs : List QD) (fs : List (List SpanD)) : Bool := areQB qs && decide (fs = fldTo qs 3)
theorem idx_iff {qs : List QD} {fs : List (List SpanD)} (h : isIndexB qs fs = true) : areQB qs = true ∧ fs = fldTo qs 3 := by
  unfold isIndexB at h
  simpa using h
/-- The numbers of all queries. -/
def allL (qs : List QD) : List Int := qs.map (·.1)
/-- Does the order hold each field once? -/
def orderB (os : List Int) : Bool := decide (os.length = 3) && (List.range os.length).all fun i => decide (0 ≤ os.getD i 0 ∧ os.getD i 0 ≤ 2) && !decide (os.getD i 0 ∈ os.take i)
/-- The sets of the fields met in an order, as long as something is left: the set and the work. -/
def probeL (fs : List (List SpanD)) (vs : List Int) : List Int → List Int → Int → List Int × Int
  | [], set, work => (set, work)
  | f :: os, set, work => if set.length = 0 then (set, work) else
      let s := findL (fs.getD f.toNat []) (vs.getD f.toNat 0)
      probeL fs vs os (meetL set s) (work + 1 + ((min set.length s.length : Nat) : Int))
def probeB (qs : List QD) (fs : List (List SpanD)) (r : RowD) (os : List Int) : List Int × Int :=
  if (isIndexB qs fs && (rowB r && orderB os)) = true then probeL fs r.2 os (allL qs) 0 else ([], 0)
def workB (qs : List QD) (fs : List (List SpanD)) (os : List Int) (r : RowD) : Int := if rowB r = true then (probeL fs r.2 os (allL qs) 0).2 else 0
def workL (qs : List QD) (fs : List (List SpanD)) (rs : List RowD) (os : List Int) : Int := if (isIndexB qs fs && orderB os) = true then (rs.map (workB qs fs os)).sum else 0
def ordersL : List (List Int) := [[0, 1, 2], [0, 2, 1], [1, 0, 2], [1, 2, 0], [2, 0, 1], [2, 1, 0]]
end Go.Proofs.YtidhmgboknffkaaDoor
namespace Go.Proofs.YtidhmgboknffkaaDoor
open Go.RowKit
set_option linter.unusedVariables false
set_option linter.unusedSimpArgs false
/-- Only blocks in G, of those that were there, have turned. -/
structure Turn (G : Nat → Prop) (w w' : World) : Prop where
  os : w'.os = w.os
  tape : w'.tape = w.tape
  output : w'.output = w.output
  size : w.heap.size ≤ w'.heap.size
  block : ∀ k, k < w.heap.size → ¬ G k → w'.heap[k]? = w.heap[k]?
theorem Turn.refl (G : Nat → Prop) (w : World) : Turn G w w := ⟨rfl, rfl, rfl, Nat.le_refl _, fun _ _ _ => rfl⟩
theorem Turn.trans {G : Nat → Prop} {a b c : World} (h : Turn G a b) (k : Turn G b c) : Turn G a c :=
  ⟨k.os.trans h.os, k.tape.trans h.tape, k.output.trans h.output, Nat.le_trans h.size k.size, fun i hi hn => (k.block i (Nat.lt_of_lt_of_le hi h.size) hn).trans (h.block i hi hn)⟩
theorem Turn.mono {G G' : Nat → Prop} {a b : World} (h : Turn G a b) (hg : ∀ k, G k → G' k) : Turn G' a b :=
  ⟨h.os, h.tape, h.output, h.size, fun i hi hn => h.block i hi (fun g => hn (hg i g))⟩
theorem turn_grown {G : Nat → Prop} {w w' : World} {row : Option Nat} (h : w.grownBy w' row) (hr : ∀ b, row = some b → G b) : Turn G w w' :=
  ⟨h.os, h.tape, h.output, h.size, fun k hk hn => h.block k hk (fun e => hn (hr k e.symm))⟩
theorem turn_below {G : Nat → Prop} {w w' : World} (h : Below w.heap.size w w') : Turn G w w' := ⟨h.os, h.tape, h.output, h.size, fun k hk _ => h.block k hk⟩
theorem turn_set {G : Nat → Prop} {w : World} {g j : Nat} {u : Value} (h : G g) : Turn G w (w.setCell ⟨g, j, none⟩ u) :=
  ⟨rfl, rfl, rfl, by simp [World.setCell], fun k hk hn => Below.heap_setCell w _ u k (fun e => hn (by rw [e]; exact h))⟩
theorem below_turn {B : Nat} {G : Nat → Prop} {a w w' : World} (h : Below B a w) (k : Turn G w w') (hG : ∀ b, G b → B ≤ b) (hs : B ≤ w.heap.size) : Below B a w' :=
  h.trans ⟨k.os, k.tape, k.output, k.size, fun i hi => k.block i (by omega) (fun g => by have := hG i g; omega)⟩
theorem row_turn {w w' : World} {G : Nat → Prop} {B : Nat} {e : TypeId} {size : Nat} {u : Value} {n : Nat} {xs : List Value} (h : w.ownsRow B e size u n xs) (k : Turn G w w') (hd : ∀ b, u.ownBlock = some b → ¬ G b) : w'.ownsRow B e size u n xs := by
  refine ⟨h.1, ?_⟩
  rcases h.2 with hn | ⟨g, cap, cur, rfl, hb', hg, rest⟩
  · exact .inl hn
  · refine .inr ⟨g, cap, cur, rfl, hb', ?_, rest⟩
    rw [k.block g (Array.getElem?_eq_some_iff.1 hg).1 (hd g rfl)]
    exact hg
theorem row_low {w : World} {B C : Nat} {e : TypeId} {size : Nat} {v : Value} {n : Nat} {xs : List Value} (h : w.ownsRow C e size v n xs) (hb : B ≤ C) : w.ownsRow B e size v n xs := by
  refine ⟨h.1, ?_⟩
  rcases h.2 with hn | ⟨g, cap, cur, e, hb', rest⟩
  · exact .inl hn
  · exact .inr ⟨g, cap, cur, e, Nat.le_trans hb hb', rest⟩
theorem row_form {w : World} {B : Nat} {e : TypeId} {size : Nat} {v : Value} {n : Nat} {xs : List Value} (h : w.ownsRow B e size v n xs) : (v = .slice none 0 0 ∧ n = 0) ∨ ∃ g cap, v = .slice (some ⟨g, 0, none⟩) n cap ∧ g < w.heap.size := by
  rcases h.2 with h' | ⟨g, cap, cur, rfl, hb, hg, _⟩
  · exact .inl h'
  · exact .inr ⟨g, cap, rfl, (Array.getElem?_eq_some_iff.1 hg).1⟩
/-- A kind of data: how many cells; what is read; what is owned, in blocks of the set; size; marks (nd, md: in memory, numbers too; nv, mv: by value); lengths that a slice can have; how many numbers lie in the cells. -/
structure Ty (α : Type) where
  n : Nat
  d : α
  R : World → List Value → α → Prop
  O : World → (Nat → Prop) → List Value → α → Prop
  sz : α → Nat
  nd : α → Nat
  nv : α → Nat
  md : α → Int → α
  mv : α → Int → α
  ok : α → Prop
  s : Nat
structure Ty.Law {α : Type} (T : Ty α) : Prop where
  pos : 0 < T.n
  len : ∀ {w cs x}, T.R w cs x → cs.length = T.n
  below : ∀ {W w cs x}, T.R W cs x → Below W.heap.size W w → T.R w cs x
  reads : ∀ {w F cs x}, T.O w F cs x → T.R w cs x
  turn : ∀ {w w' F G cs x}, T.O w F cs x → Turn G w w' → (∀ b, F b → ¬ G b) → T.O w' F cs x
  mono : ∀ {w F F' cs x}, T.O w F cs x → (∀ b, F b → F' b) → T.O w F' cs x
  lt : ∀ {w F cs x}, T.O w F cs x → T.O w (fun b => F b ∧ b < w.heap.size) cs x
  nd_le : ∀ x, T.nd x ≤ 16 * T.sz x + T.s
  nv_le : ∀ x, T.nv x ≤ 16 * T.sz x
/- Numbers. -/
def tInt : Ty Int := { n := 1, d := 0, R := fun _ cs x => cs = [.int .i64 x], O := fun _ _ cs x => cs = [.int .i64 x], sz := fun _ => 0, nd := fun _ => 1, nv := fun _ => 0, md := fun _ k => k, mv := fun x _ => x, ok := fun _ => True, s := 1 }
theorem tInt_law : tInt.Law := ⟨by decide, fun h => by cases h; rfl, fun h _ => h, fun h => h, fun h _ _ => h, fun h _ => h, fun h => h, fun x => Nat.le_refl _, fun x => Nat.le_refl _⟩
/- Pairs. -/
def tPair {α β : Type} (a : Ty α) (b : Ty β) : Ty (α × β) where
  n := a.n + b.n
  d := (a.d, b.d)
  R := fun w cs p => ∃ c1 c2, cs = c1 ++ c2 ∧ a.R w c1 p.1 ∧ b.R w c2 p.2
  O := fun w F cs p => ∃ c1 c2 F1 F2, cs = c1 ++ c2 ∧ a.O w F1 c1 p.1 ∧ b.O w F2 c2 p.2 ∧ (∀ k, F1 k → F k) ∧ (∀ k, F2 k → F k) ∧ ∀ k, F1 k → ¬ F2 k
  sz := fun p => a.sz p.1 + b.sz p.2
  nd := fun p => a.nd p.1 + b.nd p.2
  nv := fun p => a.nv p.1 + b.nv p.2
  md := fun p k => (a.md p.1 k, b.md p.2 (k + (a.nd p.1 : Int)))
  mv := fun p k => (a.mv p.1 k, b.mv p.2 (k + (a.nv p.1 : Int)))
  ok := fun p => a.ok p.1 ∧ b.ok p.2
  s := a.s + b.s
theorem tPair_law {α β : Type} {a : Ty α} {b : Ty β} (A : a.Law) (B : b.Law) : (tPair a b).Law where
  pos := by have := A.pos; show 0 < a.n + b.n; omega
  len := fun {w cs x} h => by
    obtain ⟨c1, c2, rfl, h1, h2⟩ := h
    rw [List.length_append, A.len h1, B.len h2]; rfl
  below := fun {W w cs x} h hb => by
    obtain ⟨c1, c2, e, h1, h2⟩ := h
    exact ⟨c1, c2, e, A.below h1 hb, B.below h2 hb⟩
  reads := fun {w F cs x} h => by
    obtain ⟨c1, c2, F1, F2, e, h1, h2, _⟩ := h
    exact ⟨c1, c2, e, A.reads h1, B.reads h2⟩
  turn := fun {w w' F G cs x} h k hd => by
    obtain ⟨c1, c2, F1, F2, e, h1, h2, h3, h4, h5⟩ := h
    exact ⟨c1, c2, F1, F2, e, A.turn h1 k (fun b g => hd b (h3 b g)), B.turn h2 k (fun b g => hd b (h4 b g)), h3, h4, h5⟩
  mono := fun {w F F' cs x} h hf => by
    obtain ⟨c1, c2, F1, F2, e, h1, h2, h3, h4, h5⟩ := h
    exact ⟨c1, c2, F1, F2, e, h1, h2, fun k g => hf k (h3 k g), fun k g => hf k (h4 k g), h5⟩
  lt := fun {w F cs x} h => by
    obtain ⟨c1, c2, F1, F2, e, h1, h2, h3, h4, h5⟩ := h
    exact ⟨c1, c2, _, _, e, A.lt h1, B.lt h2, fun k g => ⟨h3 k g.1, g.2⟩, fun k g => ⟨h4 k g.1, g.2⟩, fun k g g' => h5 k g.1 g'.1⟩
  nd_le := fun x => by
    have h1 := A.nd_le x.1; have h2 := B.nd_le x.2
    show a.nd x.1 + b.nd x.2 ≤ 16 * (a.sz x.1 + b.sz x.2) + (a.s + b.s); omega
  nv_le := fun x => by
    have h1 := A.nv_le x.1; have h2 := B.nv_le x.2
    show a.nv x.1 + b.nv x.2 ≤ 16 * (a.sz x.1 + b.sz x.2); omega
theorem tPair_md {α β : Type} (a : Ty α) (b : Ty β) (p : α × β) (k : Int) : (tPair a b).md p k = (a.md p.1 k, b.md p.2 (k + (a.nd p.1 : Int))) := rfl
theorem tPair_mv {α β : Type} (a : Ty α) (b : Ty β) (p : α × β) (k : Int) : (tPair a b).mv p k = (a.mv p.1 k, b.mv p.2 (k + (a.nv p.1 : Int))) := rfl
theorem tPair_sz {α β : Type} (a : Ty α) (b : Ty β) (p : α × β) : (tPair a b).sz p = a.sz p.1 + b.sz p.2 := rfl
theorem tPair_nd {α β : Type} (a : Ty α) (b : Ty β) (p : α × β) : (tPair a b).nd p = a.nd p.1 + b.nd p.2 := rfl
theorem tPair_nv {α β : Type} (a : Ty α) (b : Ty β) (p : α × β) : (tPair a b).nv p = a.nv p.1 + b.nv p.2 := rfl
theorem tInt_md (x k : Int) : tInt.md x k = k := rfl
theorem tInt_mv (x k : Int) : tInt.mv x k = x := rfl
theorem tInt_sz (x : Int) : tInt.sz x = 0 := rfl
theorem tInt_nd (x : Int) : tInt.nd x = 1 := rfl
theorem tInt_nv (x : Int) : tInt.nv x = 0 := rfl
/- Slices. -/
section
variable {α : Type}
def SlR (T : Ty α) (w : World) (v : Value) (xs : List α) : Prop :=
  (xs = [] ∧ ∃ a cap, v = .slice a 0 cap) ∨ ∃ (b off cap : Nat) (us : Nat → List Value), v = .slice (some ⟨b, off, none⟩) xs.length cap ∧ xs.length ≤ cap ∧ b < w.heap.size ∧
    ∀ j, j < xs.length → (∀ i, i < T.n → w.cell? ⟨b, off + j * T.n + i, none⟩ = (us j)[i]?) ∧ T.R w (us j) (xs.getD j T.d)
def SlO (e : TypeId) (T : Ty α) (w : World) (F : Nat → Prop) (v : Value) (xs : List α) : Prop :=
  ∃ (L : List Value) (us : Nat → List Value) (Fs : Nat → Nat → Prop), w.ownsRow 0 e T.n v xs.length L ∧ (∀ b, v.ownBlock = some b → F b) ∧
    (∀ j, j < xs.length → (∀ i, i < T.n → L[j * T.n + i]? = (us j)[i]?) ∧ T.O w (Fs j) (us j) (xs.getD j T.d) ∧ ∀ b, Fs j b → F b ∧ v.ownBlock ≠ some b) ∧
    ∀ i j, i < xs.length → j < xs.length → i ≠ j → ∀ b, Fs i b → ¬ Fs j b
def sumN (f : α → Nat) (xs : List α) (k : Nat) : Nat := ((xs.take k).map f).sum
theorem sumN_zero (f : α → Nat) (xs : List α) : sumN f xs 0 = 0 := by simp [sumN]
theorem sumN_step (f : α → Nat) {xs : List α} {k : Nat} (d : α) (hk : k < xs.length) : sumN f xs (k + 1) = sumN f xs k + f (xs.getD k d) := by
  unfold sumN
  have e : xs.getD k d = xs[k] := by simp [List.getD, hk]
  rw [e, List.take_succ_eq_append_getElem hk, List.map_append, List.sum_append]
  simp
theorem sumN_le (f : α → Nat) {xs : List α} {k : Nat} (hk : k ≤ xs.length) : sumN f xs k ≤ sumN f xs xs.length := by
  unfold sumN
  have e : xs.take xs.length = xs.take k ++ xs.drop k := by rw [List.take_length, List.take_append_drop]
  rw [e, List.map_append, List.sum_append]
  omega
theorem sum_map_le {f g : α → Nat} {c s : Nat} (h : ∀ x, f x ≤ c * g x + s) : ∀ xs : List α, (xs.map f).sum ≤ c * (xs.map g).sum + s * xs.length
  | [] => by simp
  | x :: xs => by
    have h1 := h x
    have h2 := sum_map_le h xs
    simp only [List.map_cons, List.sum_cons, List.length_cons, Nat.mul_add, Nat.mul_one]
    omega
/-- The mark with which element j begins. -/
def kAt (T : Ty α) (xs : List α) (k : Int) (j : Nat) : Int := k + (sumN T.nd xs j : Int)
def mAt (T : Ty α) (xs : List α) (k : Int) (j : Nat) : α := T.md (xs.getD j T.d) (kAt T xs k j)
def mTo (T : Ty α) (xs : List α) (k : Int) (j : Nat) : List α := (List.range j).map (mAt T xs k) ++ xs.drop j
def mAll (T : Ty α) (xs : List α) (k : Int) : List α := (List.range xs.length).map (mAt T xs k)
def zTo (T : Ty α) (xs : List α) (k : Nat) : Nat := xs.length + sumN T.sz xs k
def zL (T : Ty α) (xs : List α) : Nat := zTo T xs xs.length
def ndL (T : Ty α) (xs : List α) : Nat := sumN T.nd xs xs.length
def tSl (e : TypeId) (T : Ty α) : Ty (List α) where
  n := 1
  d := []
  R := fun w cs xs => ∃ v, cs = [v] ∧ SlR T w v xs
  O := fun w F cs xs => ∃ v, cs = [v] ∧ SlO e T w F v xs
  sz := zL T
  nd := ndL T
  nv := ndL T
  md := mAll T
  mv := mAll T
  ok := fun xs => (xs.length : Int) ≤ 9223372036854775807 ∧ ∀ j, j < xs.length → T.ok (xs.getD j T.d)
  s := 0
theorem tSl_md (e : TypeId) (T : Ty α) (xs : List α) (k : Int) : (tSl e T).md xs k = mAll T xs k := rfl
theorem tSl_mv (e : TypeId) (T : Ty α) (xs : List α) (k : Int) : (tSl e T).mv xs k = mAll T xs k := rfl
theorem tSl_sz (e : TypeId) (T : Ty α) (xs : List α) : (tSl e T).sz xs = zL T xs := rfl
theorem tSl_nd (e : TypeId) (T : Ty α) (xs : List α) : (tSl e T).nd xs = ndL T xs := rfl
theorem tSl_nv (e : TypeId) (T : Ty α) (xs : List α) : (tSl e T).nv xs = ndL T xs := rfl
theorem slR_len {T : Ty α} {w : World} {v : Value} {xs : List α} (h : SlR T w v xs) : ∃ a cap, v = .slice a xs.length cap := by
  rcases h with ⟨rfl, a, cap, rfl⟩ | ⟨b, off, cap, us, rfl, _⟩
  · exact ⟨a, cap, rfl⟩
  · exact ⟨_, cap, rfl⟩
theorem slR_below {T : Ty α} (A : T.Law) {W w : World} {v : Value} {xs : List α} (h : SlR T W v xs) (hb : Below W.heap.size W w) : SlR T w v xs := by
  rcases h with h | ⟨b, off, cap, us, h1, h2, h3, h4⟩
  · exact Or.inl h
  · exact Or.inr ⟨b, off, cap, us, h1, h2, Nat.lt_of_lt_of_le h3 hb.size, fun j hj => ⟨fun i hi => (hb.cell (p := ⟨b, off + j * T.n + i, none⟩) h3).trans ((h4 j hj).1 i hi), A.below (h4 j hj).2 hb⟩⟩
theorem slR_same {T : Ty α} (A : T.Law) {w w' : World} {v : Value} {xs : List α} (h : SlR T w v xs) (h1 : w'.heap = w.heap) (h2 : w'.os = w.os) (h3 : w'.tape = w.tape) (h4 : w'.output = w.output) : SlR T w' v xs :=
  slR_below A h ⟨h2, h3, h4, by rw [h1]; exact Nat.le_refl _, fun k _ => by rw [h1]⟩
theorem slR_at {T : Ty α} {w : World} {v : Value} {xs : List α} (h : SlR T w v xs) {k : Nat} (hk : k < xs.length) : ∃ (b off cap : Nat) (cs : List Value), v = .slice (some ⟨b, off, none⟩) xs.length cap ∧ b < w.heap.size ∧ (∀ i, i < T.n → w.cell? ⟨b, off + k * T.n + i, none⟩ = cs[i]?) ∧ T.R w cs (xs.getD k T.d) := by
  rcases h with ⟨rfl, _⟩ | ⟨b, off, cap, us, h1, h2, h3, h4⟩
  · simp at hk
  · exact ⟨b, off, cap, us k, h1, h3, (h4 k hk).1, (h4 k hk).2⟩
theorem slO_reads {e : TypeId} {T : Ty α} (A : T.Law) {w : World} {F : Nat → Prop} {v : Value} {xs : List α} (h : SlO e T w F v xs) : SlR T w v xs := by
  obtain ⟨L, us, Fs, h1, _, h2, _⟩ := h
  have h1' := h1
  rcases h1.2 with ⟨rfl, hn⟩ | ⟨g, cap, cur, rfl, hb, hg, hn, hm, hcs, htake⟩
  · exact Or.inl ⟨List.eq_nil_of_length_eq_zero hn, none, 0, rfl⟩
  · refine Or.inr ⟨g, 0, cap, us, rfl, hn, (Array.getElem?_eq_some_iff.1 hg).1, fun j hj => ⟨fun i hi => ?_, A.reads (h2 j hj).2.1⟩⟩
    have hlt : j * T.n + i < xs.length * T.n := by
      have : (j + 1) * T.n ≤ xs.length * T.n := Nat.mul_le_mul_right _ hj
      rw [Nat.add_mul, Nat.one_mul] at this; omega
    rw [Nat.zero_add, World.ownsRow.cellAt h1' _ hlt]
    exact (h2 j hj).1 i hi
theorem slO_turn {e : TypeId} {T : Ty α} (A : T.Law) {w w' : World} {F G : Nat → Prop} {v : Value} {xs : List α} (h : SlO e T w F v xs) (k : Turn G w w') (hd : ∀ b, F b → ¬ G b) : SlO e T w' F v xs := by
  obtain ⟨L, us, Fs, h1, h2, h3, h4⟩ := h
  exact ⟨L, us, Fs, row_turn h1 k (fun b hb => hd b (h2 b hb)), h2, fun j hj => ⟨(h3 j hj).1, A.turn (h3 j hj).2.1 k (fun b hb => hd b ((h3 j hj).2.2 b hb).1), (h3 j hj).2.2⟩, h4⟩
theorem slO_mono {e : TypeId} {T : Ty α} {w : World} {F F' : Nat → Prop} {v : Value} {xs : List α} (h : SlO e T w F v xs) (hf : ∀ b, F b → F' b) : SlO e T w F' v xs := by
  obtain ⟨L, us, Fs, h1, h2, h3, h4⟩ := h
  exact ⟨L, us, Fs, h1, fun b hb => hf b (h2 b hb), fun j hj => ⟨(h3 j hj).1, (h3 j hj).2.1, fun b hb => ⟨hf b ((h3 j hj).2.2 b hb).1, ((h3 j hj).2.2 b hb).2⟩⟩, h4⟩
theorem slO_lt {e : TypeId} {T : Ty α} (A : T.Law) {w : World} {F : Nat → Prop} {v : Value} {xs : List α} (h : SlO e T w F v xs) : SlO e T w (fun b => F b ∧ b < w.heap.size) v xs := by
  obtain ⟨L, us, Fs, h1, h2, h3, h4⟩ := h
  exact ⟨L, us, fun j b => Fs j b ∧ b < w.heap.size, h1, fun b hb => ⟨h2 b hb, (h1.lt b hb).2⟩, fun j hj => ⟨(h3 j hj).1, A.lt (h3 j hj).2.1, fun b hb => ⟨⟨((h3 j hj).2.2 b hb.1).1, hb.2⟩, ((h3 j hj).2.2 b hb.1).2⟩⟩, fun i j hi hj hij b hb hc => h4 i j hi hj hij b hb.1 hc.1⟩
theorem slO_fresh {e : TypeId} {T : Ty α} (A : T.Law) {w w' : World} {F : Nat → Prop} {v : Value} {xs : List α} (h : SlO e T w F v xs) (hb : Below w.heap.size w w') : SlO e T w' F v xs :=
  slO_turn (G := fun _ => False) A h (turn_below hb) (fun _ _ => not_false)
theorem slO_nil (e : TypeId) (T : Ty α) (w : World) (F : Nat → Prop) : SlO e T w F (.slice none 0 0) [] :=
  ⟨[], fun _ => [], fun _ _ => False, World.ownsRow_nil w 0 _ _, fun b hb => by simp [Value.ownBlock] at hb, fun j hj => by simp at hj, fun i j hi => by simp at hi⟩
theorem slO_form {e : TypeId} {T : Ty α} {w : World} {F : Nat → Prop} {v : Value} {xs : List α} (h : SlO e T w F v xs) : (v = .slice none 0 0 ∧ xs = []) ∨ ∃ g cap, v = .slice (some ⟨g, 0, none⟩) xs.length cap ∧ F g ∧ g < w.heap.size := by
  obtain ⟨L, us, Fs, h1, h2, _⟩ := h
  rcases row_form h1 with ⟨e, h0⟩ | ⟨g, cap, e, hg⟩
  · exact Or.inl ⟨e, List.eq_nil_of_length_eq_zero h0⟩
  · exact Or.inr ⟨g, cap, e, h2 g (by rw [e]; rfl), hg⟩
theorem slO_len {e : TypeId} {T : Ty α} {w : World} {F : Nat → Prop} {v : Value} {xs : List α} (h : SlO e T w F v xs) : ∃ a cap, v = .slice a xs.length cap := by
  rcases slO_form h with ⟨e, e'⟩ | ⟨g, cap, e, _⟩
  · exact ⟨none, 0, by rw [e, e']; rfl⟩
  · exact ⟨_, cap, e⟩
/-- What 'make' owns. -/
theorem slO_made {e : TypeId} {T : Ty α} (A : T.Law) {w : World} {F : Nat → Prop} {g n B : Nat} {z : Array Value} (hz : z.size = T.n) (ho : T.O w (fun _ => False) z.toList T.d) (hF : F g)
    (h : w.ownsRow B e T.n (.slice (some ⟨g, 0, none⟩) n n) n (madeCells z (n * T.n)).toList) : SlO e T w F (.slice (some ⟨g, 0, none⟩) n n) (List.replicate n T.d) := by
  refine ⟨_, fun _ => z.toList, fun _ _ => False, by rw [List.length_replicate]; exact row_low h (Nat.zero_le _), fun b hb => ?_, fun j hj => ?_, fun i j _ _ _ b hb => False.elim hb⟩
  · simp [Value.ownBlock] at hb; subst hb; exact hF
  · rw [List.length_replicate] at hj
    have er : (List.replicate n T.d).getD j T.d = T.d := by simp [List.getD, hj]
    rw [er]
    refine ⟨fun i hi => ?_, ho, fun b hb => False.elim hb⟩
    have hlt : j * T.n + i < n * T.n := by
      have : (j + 1) * T.n ≤ n * T.n := Nat.mul_le_mul_right _ hj
      rw [Nat.add_mul, Nat.one_mul] at this; omega
    have hmod : (j * T.n + i) % z.size = i := by rw [hz, Nat.mul_comm, Nat.mul_add_mod, Nat.mod_eq_of_lt hi]
    rw [Array.getElem?_toList]
    unfold madeCells
    rw [Array.getElem?_map, Array.getElem?_range, if_pos hlt]
    have hi' : i < z.size := by omega
    simp [hmod, hi']
/-- An element is opened: its cells, its blocks; and what is owned when the element has turned. -/
theorem slO_open {e : TypeId} {T : Ty α} (A : T.Law) {w : World} {F : Nat → Prop} {g m cap : Nat} {xs : List α} (h : SlO e T w F (.slice (some ⟨g, 0, none⟩) m cap) xs) {j : Nat} (hj : j < xs.length) :
    m = xs.length ∧ F g ∧ g < w.heap.size ∧ ∃ (cs : List Value) (Fj : Nat → Prop) (L : List Value), w.ownsRow 0 e T.n (.slice (some ⟨g, 0, none⟩) xs.length cap) xs.length L ∧ (∀ i, i < T.n → L[j * T.n + i]? = cs[i]?) ∧ T.O w Fj cs (xs.getD j T.d) ∧ (∀ b, Fj b → F b ∧ b ≠ g ∧ b < w.heap.size) ∧
      ∀ (w' : World) (L' cs' : List Value) (Fj' : Nat → Prop) (x' : α), w'.ownsRow 0 e T.n (.slice (some ⟨g, 0, none⟩) xs.length cap) xs.length L' → (∀ o, (o < j * T.n ∨ j * T.n + T.n ≤ o) → L'[o]? = L[o]?) → (∀ i, i < T.n → L'[j * T.n + i]? = cs'[i]?) → T.O w' Fj' cs' x' → (∀ b, Fj' b → F b ∧ (Fj b ∨ w.heap.size ≤ b)) →
        Turn (fun b => b = g ∨ Fj b ∨ w.heap.size ≤ b) w w' → SlO e T w' F (.slice (some ⟨g, 0, none⟩) m cap) (xs.set j x') := by
  obtain ⟨L, us, Fs, h1, h2, h3, h4⟩ := slO_lt A h
  have hm : m = xs.length := by
    rcases h1.2 with ⟨h', _⟩ | ⟨_, _, _, h', _⟩
    · simp at h'
    · simp only [Value.slice.injEq] at h'; exact h'.2.1
  subst hm
  have hg := h2 g rfl
  refine ⟨rfl, hg.1, hg.2, us j, Fs j, L, h1, (h3 j hj).1, (h3 j hj).2.1, fun b hb => ?_, ?_⟩
  · obtain ⟨⟨k1, k2⟩, k3⟩ := (h3 j hj).2.2 b hb
    exact ⟨k1, fun e => k3 (by rw [e]; rfl), k2⟩
  · intro w' L' cs' Fj' x' g1 g2 g3 g4 g5 g6
    refine ⟨L', fun i => if i = j then cs' else us i, fun i => if i = j then Fj' else Fs i, by rw [List.length_set]; exact g1, fun b hb => (h2 b hb).1, fun i hi => ?_, fun a b ha hb hab c => ?_⟩
    · rw [List.length_set] at hi
      by_cases eij : i = j
      · subst eij
        have er : (xs.set i x').getD i T.d = x' := by simp [List.getD, hi]
        rw [er]
        simp only [if_true]
        refine ⟨g3, g4, fun b hb => ⟨(g5 b hb).1, ?_⟩⟩
        rcases (g5 b hb).2 with q | q
        · exact ((h3 i hj).2.2 b q).2
        · intro q2
          simp [Value.ownBlock] at q2
          omega
      · have er : (xs.set j x').getD i T.d = xs.getD i T.d := by simp [List.getD, List.getElem?_set_ne (Ne.symm eij)]
        rw [er]
        simp only [if_neg eij]
        refine ⟨fun p hp => ?_, ?_, fun b hb => ⟨((h3 i hi).2.2 b hb).1.1, ((h3 i hi).2.2 b hb).2⟩⟩
        · rw [g2 _ ?_]
          · exact (h3 i hi).1 p hp
          · rcases Nat.lt_or_gt_of_ne eij with q | q
            · left
              have : (i + 1) * T.n ≤ j * T.n := Nat.mul_le_mul_right _ q
              rw [Nat.add_mul, Nat.one_mul] at this; omega
            · right
              have : (j + 1) * T.n ≤ i * T.n := Nat.mul_le_mul_right _ q
              rw [Nat.add_mul, Nat.one_mul] at this; omega
        · refine A.turn (h3 i hi).2.1 g6 (fun b hb hc => ?_)
          rcases hc with q | q | q
          · exact ((h3 i hi).2.2 b hb).2 (by rw [q]; rfl)
          · exact h4 i j hi hj eij b hb q
          · have := ((h3 i hi).2.2 b hb).1.2; omega
    · rw [List.length_set] at ha hb
      by_cases ea : a = j
      · have eb : ¬ b = j := fun q => hab (ea.trans q.symm)
        simp only [if_pos ea, if_neg eb]
        intro q1 q2
        rcases (g5 c q1).2 with q | q
        · exact h4 j b hj hb (fun q' => eb q'.symm) c q q2
        · have := ((h3 b hb).2.2 c q2).1.2; omega
      · by_cases eb : b = j
        · simp only [if_neg ea, if_pos eb]
          intro q1 q2
          rcases (g5 c q2).2 with q | q
          · exact h4 a j ha hj ea c q1 q
          · have := ((h3 a ha).2.2 c q1).1.2; omega
        · simp only [if_neg ea, if_neg eb]
          exact h4 a b ha hb hab c
theorem zTo_zero (T : Ty α) (xs : List α) : zTo T xs 0 = xs.length := by simp [zTo, sumN_zero]
theorem zTo_step {T : Ty α} {xs : List α} {k : Nat} (hk : k < xs.length) : zTo T xs (k + 1) = zTo T xs k + T.sz (xs.getD k T.d) := by
  unfold zTo; rw [sumN_step T.sz T.d hk]; omega
theorem zTo_le {T : Ty α} {xs : List α} {k : Nat} (hk : k ≤ xs.length) : zTo T xs k ≤ zL T xs := by
  unfold zL zTo; have := sumN_le T.sz hk; omega
theorem zL_at {T : Ty α} {xs : List α} {M : Nat} (hs : zL T xs ≤ M) {k : Nat} (hk : k < xs.length) : T.sz (xs.getD k T.d) ≤ M := by
  have h1 := zTo_step (T := T) hk
  have h2 := zTo_le (T := T) (xs := xs) (k := k + 1) (by omega)
  omega
theorem zL_len {T : Ty α} {xs : List α} {M : Nat} (hs : zL T xs ≤ M) : xs.length ≤ M := by
  have := zTo_le (T := T) (xs := xs) (Nat.zero_le _); rw [zTo_zero] at this; omega
theorem ndL_le {T : Ty α} (A : T.Law) (hs : T.s ≤ 16) (xs : List α) : ndL T xs ≤ 16 * zL T xs := by
  have := sum_map_le A.nd_le xs
  have h2 : T.s * xs.length ≤ 16 * xs.length := Nat.mul_le_mul_right _ hs
  unfold ndL zL zTo sumN
  rw [List.take_length]
  omega
theorem tSl_law {e : TypeId} {T : Ty α} (A : T.Law) (hs : T.s ≤ 16) : (tSl e T).Law where
  pos := Nat.one_pos
  len := fun {w cs x} h => by obtain ⟨v, rfl, _⟩ := h; rfl
  below := fun {W w cs x} h hb => by obtain ⟨v, e, h⟩ := h; exact ⟨v, e, slR_below A h hb⟩
  reads := fun {w F cs x} h => by obtain ⟨v, e, h⟩ := h; exact ⟨v, e, slO_reads A h⟩
  turn := fun {w w' F G cs x} h k hd => by obtain ⟨v, e, h⟩ := h; exact ⟨v, e, slO_turn A h k hd⟩
  mono := fun {w F F' cs x} h hf => by obtain ⟨v, e, h⟩ := h; exact ⟨v, e, slO_mono h hf⟩
  lt := fun {w F cs x} h => by obtain ⟨v, e, h⟩ := h; exact ⟨v, e, slO_lt A h⟩
  nd_le := fun x => ndL_le A hs x
  nv_le := fun x => ndL_le A hs x
theorem kAt_zero (T : Ty α) (xs : List α) (k : Int) : kAt T xs k 0 = k := by simp [kAt, sumN_zero]
theorem kAt_step {T : Ty α} {xs : List α} {k : Int} {j : Nat} (hj : j < xs.length) : kAt T xs k (j + 1) = kAt T xs k j + (T.nd (xs.getD j T.d) : Int) := by
  unfold kAt; rw [sumN_step T.nd T.d hj]; omega
theorem kAt_all (T : Ty α) (xs : List α) (k : Int) : kAt T xs k xs.length = k + (ndL T xs : Int) := rfl
theorem kAt_range {T : Ty α} (A : T.Law) (h16 : T.s ≤ 16) {xs : List α} {k : Int} {j : Nat} (hs : zL T xs ≤ 1048576) (hj : j ≤ xs.length) : k ≤ kAt T xs k j ∧ kAt T xs k j ≤ k + 16777216 := by
  have h1 := ndL_le A h16 xs
  have h2 := sumN_le T.nd hj
  unfold ndL at h1
  unfold kAt
  omega
theorem mTo_len {T : Ty α} {xs : List α} {k : Int} {j : Nat} (hj : j ≤ xs.length) : (mTo T xs k j).length = xs.length := by simp [mTo]; omega
theorem mTo_at {T : Ty α} {xs : List α} {k : Int} {j : Nat} (hj : j < xs.length) : (mTo T xs k j).getD j T.d = xs.getD j T.d := by
  unfold mTo
  simp only [List.getD]
  rw [List.getElem?_append_right (by simp), List.getElem?_drop]
  simp
theorem mTo_step {T : Ty α} {xs : List α} {k : Int} {j : Nat} (hj : j < xs.length) : (mTo T xs k j).set j (T.md (xs.getD j T.d) (kAt T xs k j)) = mTo T xs k (j + 1) := by
  unfold mTo
  rw [List.set_append_right _ _ (by simp), List.drop_eq_getElem_cons hj, List.range_succ, List.map_append]
  simp only [List.length_map, List.length_range, Nat.sub_self, List.set_cons_zero, List.map_cons, List.map_nil, List.append_assoc, List.cons_append, List.nil_append]
  rfl
theorem mTo_all (T : Ty α) (xs : List α) (k : Int) : mTo T xs k xs.length = mAll T xs k := by simp [mTo, mAll]
theorem mTo_zero (T : Ty α) (xs : List α) (k : Int) : mTo T xs k 0 = xs := by simp [mTo]
theorem cTo_step {xs : List α} {d : α} {k : Nat} (h : k < xs.length) : (xs.take k ++ List.replicate (xs.length - k) d).set k (xs.getD k d) = xs.take (k + 1) ++ List.replicate (xs.length - (k + 1)) d := by
  have hk : (xs.take k).length = k := by rw [List.length_take]; omega
  rw [List.set_append_right _ _ (by omega), hk, Nat.sub_self, show xs.length - k = (xs.length - (k + 1)) + 1 by omega, List.replicate_succ, List.set_cons_zero, List.take_succ_eq_append_getElem h, List.append_assoc]
  simp [List.getD, h]
theorem cTo_len {xs : List α} {d : α} {k : Nat} (h : k ≤ xs.length) : (xs.take k ++ List.replicate (xs.length - k) d).length = xs.length := by simp; omega
end
/-- New blocks: those since w. -/
def since (w : World) : Nat → Prop := fun b => w.heap.size ≤ b
/-- A value in new memory is answered. -/
def FreshT {α : Type} (T : Ty α) (mk : List Value → Value) (w : World) (x : α) (e : Ending) (w' : World) : Prop := ∃ cs, e = .returned (mk cs) ∧ T.O w' (since w) cs x ∧ Below w.heap.size w w'
def FreshS {α : Type} (t : TypeId) (T : Ty α) (w : World) (xs : List α) (e : Ending) (w' : World) : Prop := ∃ v, e = .returned v ∧ SlO t T w' (since w) v xs ∧ Below w.heap.size w w'
end Go.Proofs.YtidhmgboknffkaaDoor
namespace Go.Proofs.YtidhmgboknffkaaDoor
open Go.RowKit
set_option linter.unusedVariables false
set_option linter.unusedSimpArgs false
theorem ty_ret {a b : Int} (h : a = b) : Ending.returned (.int .i64 a) = .returned (.int .i64 b) := by rw [h]
abbrev tIntS : Ty (List Int) := tSl 3 tInt
theorem tIntS_law : tIntS.Law := tSl_law tInt_law (by decide)
theorem slR_ints {w : World} {v : Value} {xs : List Int} (h : SlR tInt w v xs) : Ints w v xs := by
  rcases h with h | ⟨b, off, cap, us, h1, h2, h3, h4⟩
  · exact Or.inl h
  · refine Or.inr ⟨b, off, cap, h1, h2, h3, fun j hj => ?_⟩
    have h5 := (h4 j hj).1 0 (by decide)
    have h6 : us j = [.int .i64 (xs.getD j 0)] := (h4 j hj).2
    have e : off + j * tInt.n + 0 = off + j := by show off + j * 1 + 0 = _; omega
    rw [e, h6] at h5
    exact h5
theorem zL_flat {α : Type} {T : Ty α} (h : ∀ x, T.sz x = 0) (xs : List α) : zL T xs = xs.length := by
  unfold zL zTo sumN
  have : ∀ l : List α, (l.map T.sz).sum = 0 := fun l => by
    induction l with
    | nil => rfl
    | cons x l ih => rw [List.map_cons, List.sum_cons, h x, ih]
  rw [this]; rfl
theorem sumN_one {α : Type} {f : α → Nat} {c : Nat} (h : ∀ x, f x = c) (xs : List α) {k : Nat} (hk : k ≤ xs.length) : sumN f xs k = c * k := by
  unfold sumN
  have : ∀ l : List α, (l.map f).sum = c * l.length := fun l => by
    induction l with
    | nil => rfl
    | cons x l ih => rw [List.map_cons, List.sum_cons, h x, ih, List.length_cons, Nat.mul_add]; omega
  rw [this, List.length_take, Nat.min_eq_left hk]
theorem zL_ints (xs : List Int) : zL tInt xs = xs.length := zL_flat (fun _ => rfl) xs
theorem ndL_ints (xs : List Int) : ndL tInt xs = xs.length := by
  unfold ndL; rw [sumN_one (f := tInt.nd) (c := 1) (fun _ => rfl) xs (Nat.le_refl _)]; omega
theorem mAll_ints (xs : List Int) (k : Int) : mAll tInt xs k = marks k xs.length := by
  unfold mAll marks
  apply List.map_congr_left
  intro i hi
  rw [List.mem_range] at hi
  show kAt tInt xs k i = k + (i : Int)
  unfold kAt
  rw [sumN_one (f := tInt.nd) (c := 1) (fun _ => rfl) xs (by omega)]; omega
theorem slO_own {w : World} {F : Nat → Prop} {v : Value} {xs : List Int} (h : SlO 3 tInt w F v xs) : OwnsN w 0 v xs ∧ ∀ b, v.ownBlock = some b → F b := by
  obtain ⟨L, us, Fs, h1, h2, h3, h4⟩ := h
  refine ⟨?_, h2⟩
  have e : L = xs.map (Value.int .i64) := by
    apply List.ext_getElem?
    intro i
    by_cases hi : i < xs.length
    · obtain ⟨g1, g2, _⟩ := h3 i hi
      have g3 := g1 0 (by decide)
      have g4 : us i = [.int .i64 (xs.getD i 0)] := g2
      have e : i * tInt.n + 0 = i := by show i * 1 + 0 = _; omega
      rw [e, g4] at g3
      rw [g3]
      simp [List.getD, hi]
    · have hl : L.length = xs.length * 1 := h1.1
      rw [List.getElem?_eq_none (by omega), List.getElem?_eq_none (by simp; omega)]
  rw [e] at h1
  exact h1
theorem own_slO {w : World} {F : Nat → Prop} {v : Value} {xs : List Int} {B : Nat} (h : OwnsN w B v xs) (hF : ∀ b, v.ownBlock = some b → F b) : SlO 3 tInt w F v xs := by
  refine ⟨_, fun j => [.int .i64 (xs.getD j 0)], fun _ _ => False, row_low h (Nat.zero_le _), hF, fun j hj => ⟨fun i hi => ?_, rfl, fun b hb => False.elim hb⟩, fun i j _ _ _ b hb => False.elim hb⟩
  have hi0 : i < 1 := hi
  obtain rfl : i = 0 := by omega
  have e : j * tInt.n + 0 = j := by show j * 1 + 0 = _; omega
  rw [e]
  simp [List.getD, hj]
/-- Numbers in new memory, either way. -/
theorem fresh_ints {w w' : World} {v : Value} {xs : List Int} (h : OwnsN w' w.heap.size v xs) : SlO 3 tInt w' (since w) v xs := own_slO h (fun b hb => (h.lt b hb).1)
theorem szIntS_Y (v : Value) (xs : List Int) (k0 : Int) (w : World) (h : SlR tInt w v xs) (hs : ((zL tInt xs : Nat) : Int) ≤ k0) (hk : k0 ≤ 1048576) :
    Calls Tryd.prog 77 #[v, .int .i64 k0] w fun e w' => e = .returned (.int .i64 (k0 - ((zL tInt xs : Nat) : Int))) ∧ Below w.heap.size w w' := by
  rw [zL_ints] at hs ⊢
  obtain ⟨a, cap, rfl⟩ := slR_len h
  exact (szInt_yes a cap xs.length k0 w hs hk).mono fun e w' g => ⟨g.1, by rw [g.2]; exact Below.refl _ _⟩
theorem szIntS_N (v : Value) (xs : List Int) (k0 : Int) (w : World) (h : SlR tInt w v xs) (hs : k0 < ((zL tInt xs : Nat) : Int)) (hk : k0 ≤ 1048576) (hp : 0 ≤ k0) (ho : tIntS.ok xs) :
    Calls Tryd.prog 77 #[v, .int .i64 k0] w fun e w' => e = .returned (.int .i64 (-1)) ∧ Below w.heap.size w w' := by
  rw [zL_ints] at hs
  obtain ⟨a, cap, rfl⟩ := slR_len h
  exact (szInt_no a cap xs.length k0 w hs hp ho.1).mono fun e w' g => ⟨g.1, by rw [g.2]; exact Below.refl _ _⟩
theorem toIntS_S (v : Value) (xs : List Int) (w : World) (h : SlR tInt w v xs) (hs : zL tInt xs ≤ 1048576) :
    Calls Tryd.prog 38 #[v] w (FreshS 3 tInt w xs) := by
  rw [zL_ints] at hs
  refine (toIntS_any v xs w (slR_ints h) hs).mono ?_
  rintro e w' ⟨u, rfl, o, b⟩
  exact ⟨u, rfl, fresh_ints o, b⟩
theorem eqIntS_S (v u : Value) (xs : List Int) (w : World) (h : SlR tInt w v xs) (g : SlR tInt w u xs) (hs : zL tInt xs ≤ 1048576) :
    Calls Tryd.prog 31 #[v, u] w fun e w' => e = .returned (.bool true) ∧ Below w.heap.size w w' := by
  rw [zL_ints] at hs
  exact eqIntS_same v u xs w (slR_ints h) (slR_ints g) hs
theorem markIntS_S (v : Value) (xs : List Int) (F : Nat → Prop) (k : Int) (w : World) (h : SlO 3 tInt w F v xs) (hs : zL tInt xs ≤ 1048576) (k0 : 0 ≤ k) (k1 : k ≤ 1073741824) :
    Calls Tryd.prog 36 #[v, .int .i64 k] w fun e w' => e = .returned (.int .i64 (k + (ndL tInt xs : Int))) ∧ SlO 3 tInt w' F v (mAll tInt xs k) ∧ Turn F w w' := by
  rw [zL_ints] at hs
  obtain ⟨h1, h2⟩ := slO_own h
  refine (markIntS_any v xs 0 k w h1 hs k0 k1).mono ?_
  rintro e w' ⟨rfl, o, g⟩
  rw [ndL_ints, mAll_ints]
  exact ⟨rfl, own_slO o h2, turn_grown g h2⟩
theorem heldIntS_S (v : Value) (xs : List Int) (k : Int) (w : World) (h : SlR tInt w v (mAll tInt xs k)) (hs : zL tInt xs ≤ 1048576) (k0 : 0 ≤ k) (k1 : k ≤ 1073741824) :
    Calls Tryd.prog 37 #[v, .int .i64 k] w fun e w' => e = .returned (.int .i64 (k + (ndL tInt xs : Int))) ∧ w = w' := by
  rw [zL_ints] at hs
  rw [mAll_ints] at h
  rw [ndL_ints]
  exact heldIntS_any v xs.length k w (slR_ints h) hs k0 k1
end Go.Proofs.YtidhmgboknffkaaDoor
namespace Go.Proofs.YtidhmgboknffkaaDoor
open Go.RowKit
set_option linter.unusedVariables false
set_option linter.unusedSimpArgs false
def tSpan : Ty (Int × Int × List Int) := tPair tInt (tPair tInt tIntS)
theorem tSpan_law : tSpan.Law := tPair_law tInt_law (tPair_law tInt_law tIntS_law)
theorem tSpan_R {w : World} {cs : List Value} {a0 : Int} {a1 : Int} {x2 : List Int} (h : tSpan.R w cs (a0, a1, x2)) : ∃ v2, cs = [.int .i64 a0, .int .i64 a1, v2] ∧ SlR tInt w v2 x2 := by
  obtain ⟨_, _, rfl, rfl, ⟨_, _, rfl, rfl, ⟨v2, rfl, h2⟩⟩⟩ := h
  exact ⟨_, rfl, h2⟩
theorem tSpan_sz {a0 : Int} {a1 : Int} {x2 : List Int} : tSpan.sz (a0, a1, x2) = zL tInt x2 := by
  simp only [tSpan, tPair_sz, tPair_nd, tPair_nv, tInt_sz, tInt_nd, tInt_nv, tSl_sz, tSl_nd, tSl_nv]
  try omega
theorem tSpan_nd {a0 : Int} {a1 : Int} {x2 : List Int} : tSpan.nd (a0, a1, x2) = 2 + ndL tInt x2 := by
  simp only [tSpan, tPair_sz, tPair_nd, tPair_nv, tInt_sz, tInt_nd, tInt_nv, tSl_sz, tSl_nd, tSl_nv]
  try omega
theorem tSpan_md {a0 : Int} {a1 : Int} {x2 : List Int} {k : Int} : tSpan.md (a0, a1, x2) k = ((k), (k + 1), mAll tInt x2 (k + 1 + 1)) := by
  simp only [tSpan, tPair_md, tPair_mv, tPair_nd, tPair_nv, tInt_md, tInt_mv, tInt_nd, tInt_nv, tSl_md, tSl_mv, tSl_nd, tSl_nv, Int.natCast_add, Int.natCast_zero, Int.natCast_one, Int.add_zero, Int.zero_add, Int.add_assoc]
theorem tSpan_O {w : World} {F : Nat → Prop} {cs : List Value} {a0 : Int} {a1 : Int} {x2 : List Int} (h : tSpan.O w F cs (a0, a1, x2)) : ∃ v2, ∃ F2 : Nat → Prop, cs = [.int .i64 a0, .int .i64 a1, v2] ∧ SlO 3 tInt w F2 v2 x2 ∧ (∀ b, F2 b → F b) := by
  obtain ⟨_, _, F0_1, F0_2, rfl, rfl, ⟨_, _, F1_1, F1_2, rfl, rfl, ⟨v2, rfl, h2⟩, s1_1, s1_2, d1⟩, s0_1, s0_2, d0⟩ := h
  exact ⟨v2, F1_2, rfl, h2, fun b h => (s0_2 b (s1_2 b h))⟩
theorem tSpan_mkO {w : World} {F : Nat → Prop} {a0 : Int} {a1 : Int} {x2 : List Int} {v2 : Value} {F2 : Nat → Prop} (h2 : SlO 3 tInt w F2 v2 x2) (s2 : ∀ b, F2 b → F b)  : tSpan.O w F [.int .i64 a0, .int .i64 a1, v2] (a0, a1, x2) := ⟨[.int .i64 a0], [.int .i64 a1, v2], fun _ => False, F2, rfl, rfl, ⟨[.int .i64 a1], [v2], fun _ => False, F2, rfl, rfl, ⟨_, rfl, h2⟩, (fun b h => (False.elim h)), (fun b h => h), (fun b h g => (False.elim h))⟩, (fun b h => (False.elim h)), (fun b h => s2 b h), (fun b h g => (False.elim h))⟩
set_option maxHeartbeats 8000000 in
set_option maxRecDepth 100000 in
theorem szSpan_Y (a0 a1 : Int) (v2 : Value) (x2 : List Int) (k0 : Int) (w : World) (h2 : SlR tInt w v2 x2) (hs : ((zL tInt x2 : Nat) : Int) ≤ k0) (hk : k0 ≤ 1048576) :
    Calls Tryd.prog 152 #[.agg #[.int .i64 a0, .int .i64 a1, v2], .int .i64 k0] w fun e w' => e = .returned (.int .i64 (k0 - ((zL tInt x2 : Nat) : Int))) ∧ Below w.heap.size w w' := by
  have H2 := Lib.hid h2
  clear h2
  have HZ2 : Hid (((zL tInt x2 : Nat) : Int) ≤ k0) := Lib.hid (by omega)
  have HK2 : Hid (k0 ≤ 1048576) := Lib.hid (by omega)
  have hn2 : ¬ k0 - ((zL tInt x2 : Nat) : Int) < 0 := by omega
  clear hs hk
  have hb : Below w.heap.size w (w.alloc (.cells #[.int .i64 a0, .int .i64 a1, v2] 205)) := (Below.refl _ w).alloc (Nat.le_refl _) _
  have g0 : (w.alloc (.cells #[.int .i64 a0, .int .i64 a1, v2] 205)).heap[w.heap.size]? = some (.cells #[.int .i64 a0, .int .i64 a1, v2] 205 (0, 0)) := heap_alloc_new w _
  have hz0 : w.heap.size < (w.alloc (.cells #[.int .i64 a0, .int .i64 a1, v2] 205)).heap.size := by simp
  go_enter Tryd.func152, Tryd.ntmps152
  go_wp2_with fail
  generalize (w.alloc (.cells #[.int .i64 a0, .int .i64 a1, v2] 205)) = W at *
  refine (szIntS_Y v2 x2 (k0) W (slR_below tInt_law H2.out hb) HZ2.out HK2.out).mono ?_
  rintro e W1 ⟨rfl, b1⟩
  replace g0 := (b1.block w.heap.size hz0).trans g0
  replace hz0 := Nat.lt_of_lt_of_le hz0 b1.size
  replace hb := hb.trans (b1.mono hb.size)
  clear b1
  go_wp2
  go_ret
  exact ⟨rfl, hb⟩
set_option maxHeartbeats 8000000 in
set_option maxRecDepth 100000 in
theorem szSpan_N (a0 a1 : Int) (v2 : Value) (x2 : List Int) (k0 : Int) (w : World) (h2 : SlR tInt w v2 x2) (hs : k0 < ((zL tInt x2 : Nat) : Int)) (hk : k0 ≤ 1048576) (hp : 0 ≤ k0) (o2 : tIntS.ok x2) :
    Calls Tryd.prog 152 #[.agg #[.int .i64 a0, .int .i64 a1, v2], .int .i64 k0] w fun e w' => e = .returned (.int .i64 (-1)) ∧ Below w.heap.size w w' := by
  have H2 := Lib.hid h2
  clear h2
  have HO2 := Lib.hid o2
  clear o2
  have HZ2 : Hid (k0 < ((zL tInt x2 : Nat) : Int)) := Lib.hid (by omega)
  have HP2 : Hid (0 ≤ k0) := Lib.hid (by omega)
  have HK2 : Hid (k0 ≤ 1048576) := Lib.hid (by omega)
  clear hs hk
  clear hp
  have hb : Below w.heap.size w (w.alloc (.cells #[.int .i64 a0, .int .i64 a1, v2] 205)) := (Below.refl _ w).alloc (Nat.le_refl _) _
  have g0 : (w.alloc (.cells #[.int .i64 a0, .int .i64 a1, v2] 205)).heap[w.heap.size]? = some (.cells #[.int .i64 a0, .int .i64 a1, v2] 205 (0, 0)) := heap_alloc_new w _
  have hz0 : w.heap.size < (w.alloc (.cells #[.int .i64 a0, .int .i64 a1, v2] 205)).heap.size := by simp
  go_enter Tryd.func152, Tryd.ntmps152
  go_wp2_with fail
  generalize (w.alloc (.cells #[.int .i64 a0, .int .i64 a1, v2] 205)) = W at *
  refine (szIntS_N v2 x2 (k0) W (slR_below tInt_law H2.out hb) HZ2.out HK2.out HP2.out HO2.out).mono ?_
  rintro e W1 ⟨rfl, b1⟩
  replace g0 := (b1.block w.heap.size hz0).trans g0
  replace hz0 := Nat.lt_of_lt_of_le hz0 b1.size
  replace hb := hb.trans (b1.mono hb.size)
  clear b1
  go_wp2
  go_ret
  exact ⟨rfl, hb⟩
set_option maxHeartbeats 8000000 in
set_option maxRecDepth 100000 in
theorem toSpan_T (a0 a1 : Int) (v2 : Value) (x2 : List Int) (w : World) (h2 : SlR tInt w v2 x2) (s2 : zL tInt x2 ≤ 1048576) :
    Calls Tryd.prog 154 #[.agg #[.int .i64 a0, .int .i64 a1, v2]] w (FreshT tSpan (fun cs => .agg cs.toArray) w (a0, a1, x2)) := by
  have H2 := Lib.hid h2
  clear h2
  have S2 := Lib.hid s2
  clear s2
  go_enter Tryd.func154, Tryd.ntmps154
  go_wp2_with fail
  have hb : Below w.heap.size w (((w.alloc (.cells #[.int .i64 a0, .int .i64 a1, v2] 205)).alloc (.cells #[.int .i64 0, .int .i64 0, .slice none 0 0] 83)).alloc (.cells #[.int .i64 a0, .int .i64 a1, .slice none 0 0] 83)) := (((Below.refl _ w).alloc (Nat.le_refl _) _).alloc (by simp) _).alloc (by simp; omega) _
  have g2 : (((w.alloc (.cells #[.int .i64 a0, .int .i64 a1, v2] 205)).alloc (.cells #[.int .i64 0, .int .i64 0, .slice none 0 0] 83)).alloc (.cells #[.int .i64 a0, .int .i64 a1, .slice none 0 0] 83)).heap[w.heap.size + 1 + 1]? = some (.cells #[.int .i64 a0, .int .i64 a1, .slice none 0 0] 83 (0, 0)) := by
    have := heap_alloc_new ((w.alloc (.cells #[.int .i64 a0, .int .i64 a1, v2] 205)).alloc (.cells #[.int .i64 0, .int .i64 0, .slice none 0 0] 83)) (.cells #[.int .i64 a0, .int .i64 a1, .slice none 0 0] 83)
    simpa only [World.size_alloc] using this
  have g1 : (((w.alloc (.cells #[.int .i64 a0, .int .i64 a1, v2] 205)).alloc (.cells #[.int .i64 0, .int .i64 0, .slice none 0 0] 83)).alloc (.cells #[.int .i64 a0, .int .i64 a1, .slice none 0 0] 83)).heap[w.heap.size + 1]? = some (.cells #[.int .i64 0, .int .i64 0, .slice none 0 0] 83 (0, 0)) := by
    have := heap_alloc_new (w.alloc (.cells #[.int .i64 a0, .int .i64 a1, v2] 205)) (.cells #[.int .i64 0, .int .i64 0, .slice none 0 0] 83)
    rw [Below.heap_alloc _ _ _ (by simp)]
    simpa only [World.size_alloc] using this
  have g0 : (((w.alloc (.cells #[.int .i64 a0, .int .i64 a1, v2] 205)).alloc (.cells #[.int .i64 0, .int .i64 0, .slice none 0 0] 83)).alloc (.cells #[.int .i64 a0, .int .i64 a1, .slice none 0 0] 83)).heap[w.heap.size]? = some (.cells #[.int .i64 a0, .int .i64 a1, v2] 205 (0, 0)) := by
    rw [Below.heap_alloc _ _ _ (by simp; omega), Below.heap_alloc _ _ _ (by simp)]
    exact heap_alloc_new w _
  have hz : w.heap.size + 2 < (((w.alloc (.cells #[.int .i64 a0, .int .i64 a1, v2] 205)).alloc (.cells #[.int .i64 0, .int .i64 0, .slice none 0 0] 83)).alloc (.cells #[.int .i64 a0, .int .i64 a1, .slice none 0 0] 83)).heap.size := by simp [World.size_alloc]
  generalize (((w.alloc (.cells #[.int .i64 a0, .int .i64 a1, v2] 205)).alloc (.cells #[.int .i64 0, .int .i64 0, .slice none 0 0] 83)).alloc (.cells #[.int .i64 a0, .int .i64 a1, .slice none 0 0] 83)) = W at *
  refine (toIntS_S v2 x2 W (slR_below tInt_law H2.out hb) S2.out).mono ?_
  rintro e w1 ⟨u2, rfl, o2, b1⟩
  obtain ⟨ua2, uc2, rfl⟩ := slO_len o2
  replace o2 := slO_mono (slO_lt tInt_law o2) (F' := fun b => W.heap.size ≤ b ∧ b < w1.heap.size) (fun b h => h)
  replace g0 := (b1.block _ (by omega)).trans g0
  replace g1 := (b1.block _ (by omega)).trans g1
  replace g2 := (b1.block _ (by omega)).trans g2
  have zz1 := b1.size
  replace hb := hb.trans (b1.mono (by omega))
  clear b1
  have c2_0 := (cell_of_row w1 _ 0 _ _ _ g2).trans (show _ = some (Value.int .i64 a0) from rfl)
  have f2_0 := frozen_of_row w1 _ 0 _ _ g2
  have c2_1 := (cell_of_row w1 _ 1 _ _ _ g2).trans (show _ = some (Value.int .i64 a1) from rfl)
  have f2_1 := frozen_of_row w1 _ 1 _ _ g2
  have c2_2 := (cell_of_row w1 _ 2 _ _ _ g2).trans (show _ = some (Value.slice none 0 0) from rfl)
  have f2_2 := frozen_of_row w1 _ 2 _ _ g2
  have ne1 : ¬ w.heap.size = w.heap.size + 1 + 1 := by omega
  have ne2 : ¬ w.heap.size + 1 = w.heap.size + 1 + 1 := by omega
  have ne3 : ¬ w.heap.size + 1 + 1 = w.heap.size + 1 := by omega
  have c1_0 := (cell_of_row w1 _ 0 _ _ _ g1).trans (show _ = some (Value.int .i64 0) from rfl)
  have f1_0 := frozen_of_row w1 _ 0 _ _ g1
  have c1_1 := (cell_of_row w1 _ 1 _ _ _ g1).trans (show _ = some (Value.int .i64 0) from rfl)
  have f1_1 := frozen_of_row w1 _ 1 _ _ g1
  have c1_2 := (cell_of_row w1 _ 2 _ _ _ g1).trans (show _ = some (Value.slice none 0 0) from rfl)
  have f1_2 := frozen_of_row w1 _ 2 _ _ g1
  go_wp2
  clear c2_0 f2_0 c2_1 f2_1 c2_2 f2_2 ne1 ne2 ne3 c1_0 f1_0 c1_1 f1_1 c1_2 f1_2
  have hw : Turn (fun b => b = w.heap.size + 1 ∨ b = w.heap.size + 1 + 1) w1 ((((w1.setCell ⟨w.heap.size + 1 + 1, 2, none⟩ (.slice ua2 x2.length uc2)).setCell ⟨w.heap.size + 1, 0, none⟩ (.int .i64 a0)).setCell ⟨w.heap.size + 1, 1, none⟩ (.int .i64 a1)).setCell ⟨w.heap.size + 1, 2, none⟩ (.slice ua2 x2.length uc2)) := by
    first | exact (((((Turn.refl _ _).trans (turn_set (g := w.heap.size + 1 + 1) (j := 2) (u := .slice ua2 x2.length uc2) (Or.inr rfl))).trans (turn_set (g := w.heap.size + 1) (j := 0) (u := .int .i64 a0) (Or.inl rfl))).trans (turn_set (g := w.heap.size + 1) (j := 1) (u := .int .i64 a1) (Or.inl rfl))).trans (turn_set (g := w.heap.size + 1) (j := 2) (u := .slice ua2 x2.length uc2) (Or.inl rfl))) | skip
  have r := (heap_setCell_same _ (w.heap.size + 1) 2 _ _ (.slice ua2 x2.length uc2) (heap_setCell_same _ (w.heap.size + 1) 1 _ _ (.int .i64 a1) (heap_setCell_same _ (w.heap.size + 1) 0 _ _ (.int .i64 a0) ((heap_setCell_other _ ⟨w.heap.size + 1 + 1, 2, none⟩ (w.heap.size + 1) (.slice ua2 x2.length uc2) (by simp)).trans g1))))
  have e0 := cell_of_row _ _ 0 _ _ _ r
  have e1 := cell_of_row _ _ 1 _ _ _ r
  have e2 := cell_of_row _ _ 2 _ _ _ r
  simp at e0 e1 e2
  replace o2 := slO_turn tInt_law o2 hw (fun b h1 h2 => by have := h1.1; omega)
  replace hb := below_turn hb hw (fun b h => by omega) (by omega)
  refine bodyPost_ret (v := .agg #[.int .i64 a0, .int .i64 a1, .slice ua2 x2.length uc2]) ?_ rfl ?_
  · simp [results, Tryd.f154, go_sem, e0, e1, e2]
  · exact ⟨[.int .i64 a0, .int .i64 a1, .slice ua2 x2.length uc2], rfl, tSpan_mkO o2 (fun b h => by show w.heap.size ≤ b; have := h.1; omega) , hb⟩
set_option maxHeartbeats 8000000 in
set_option maxRecDepth 100000 in
theorem eqSpan_T (a0 a1 : Int) (v2 : Value) (x2 : List Int) (u2 : Value) (w : World) (h2 : SlR tInt w v2 x2) (g2 : SlR tInt w u2 x2) (s2 : zL tInt x2 ≤ 1048576) :
    Calls Tryd.prog 156 #[.agg #[.int .i64 a0, .int .i64 a1, v2], .agg #[.int .i64 a0, .int .i64 a1, u2]] w fun e w' => e = .returned (.bool true) ∧ Below w.heap.size w w' := by
  have H2 := Lib.hid h2; have G2 := Lib.hid g2; have S2 := Lib.hid s2
  clear h2 g2 s2
  have e0 : (a0 != a0) = false := by simp
  have e1 : (a1 != a1) = false := by simp
  go_enter Tryd.func156, Tryd.ntmps156
  go_wp2_with fail
  have hb : Below w.heap.size w ((w.alloc (.cells #[.int .i64 a0, .int .i64 a1, v2] 83)).alloc (.cells #[.int .i64 a0, .int .i64 a1, u2] 83)) := ((Below.refl _ w).alloc (Nat.le_refl _) _).alloc (by simp) _
  have g1 : ((w.alloc (.cells #[.int .i64 a0, .int .i64 a1, v2] 83)).alloc (.cells #[.int .i64 a0, .int .i64 a1, u2] 83)).heap[w.heap.size + 1]? = some (.cells #[.int .i64 a0, .int .i64 a1, u2] 83 (0, 0)) := by
    have := heap_alloc_new (w.alloc (.cells #[.int .i64 a0, .int .i64 a1, v2] 83)) (.cells #[.int .i64 a0, .int .i64 a1, u2] 83)
    simpa only [World.size_alloc] using this
  have g0 : ((w.alloc (.cells #[.int .i64 a0, .int .i64 a1, v2] 83)).alloc (.cells #[.int .i64 a0, .int .i64 a1, u2] 83)).heap[w.heap.size]? = some (.cells #[.int .i64 a0, .int .i64 a1, v2] 83 (0, 0)) := by
    rw [Below.heap_alloc _ _ _ (by simp)]
    exact heap_alloc_new w _
  have hz : w.heap.size + 1 < ((w.alloc (.cells #[.int .i64 a0, .int .i64 a1, v2] 83)).alloc (.cells #[.int .i64 a0, .int .i64 a1, u2] 83)).heap.size := by simp [World.size_alloc]
  generalize ((w.alloc (.cells #[.int .i64 a0, .int .i64 a1, v2] 83)).alloc (.cells #[.int .i64 a0, .int .i64 a1, u2] 83)) = W at *
  refine (eqIntS_S v2 u2 x2 W (slR_below tInt_law H2.out hb) (slR_below tInt_law G2.out hb) S2.out).mono ?_
  rintro e w1 ⟨rfl, b1⟩
  replace g0 := (b1.block _ (by omega)).trans g0
  replace g1 := (b1.block _ (by omega)).trans g1
  have zz0 := b1.size
  replace hb := hb.trans (b1.mono (by omega))
  clear b1
  go_wp2
  go_ret
  exact ⟨rfl, hb⟩
end Go.Proofs.YtidhmgboknffkaaDoor
namespace Go.Proofs.YtidhmgboknffkaaDoor
open Go.RowKit
set_option linter.unusedVariables false
set_option linter.unusedSimpArgs false
abbrev tSpanS : Ty (List (Int × Int × List Int)) := tSl 83 tSpan
theorem tSpanS_law : tSpanS.Law := tSl_law tSpan_law (by decide)
set_option maxHeartbeats 8000000 in
set_option maxRecDepth 100000 in
theorem szSpanS_Y (v : Value) (xs : List (Int × Int × List Int)) (k0 : Int) (w : World) (h : SlR tSpan w v xs) (hs : ((zL tSpan xs : Nat) : Int) ≤ k0) (hk : k0 ≤ 1048576) :
    Calls Tryd.prog 123 #[v, .int .i64 k0] w fun e w' => e = .returned (.int .i64 (k0 - ((zL tSpan xs : Nat) : Int))) ∧ Below w.heap.size w w' := by
  have H := Lib.hid h
  obtain ⟨a, cap, rfl⟩ := slR_len h
  clear h
  have h00 := zTo_le (T := tSpan) (xs := xs) (Nat.zero_le _)
  rw [zTo_zero] at h00
  have HS := Lib.hid hs
  go_enter Tryd.func123, Tryd.ntmps123
  have hneg : ¬ k0 - (xs.length : Int) < 0 := by omega
  go_wp2
  clear hneg
  go_loopw [1, 5] (fun l i wr => ∃ k : Nat, k ≤ xs.length ∧ i = .int .i64 k ∧ l = .int .i64 (k0 - (zTo tSpan xs k : Int)) ∧ Below w.heap.size w wr) (fun _ i _ => xs.length - (intOf i).toNat)
  case atStart => exact ⟨0, Nat.zero_le _, rfl, by rw [zTo_zero], Below.refl _ _⟩
  case round =>
    obtain ⟨k, hk', rfl, rfl, hbel⟩ := hrel
    by_cases hlt : k < xs.length
    · have HST := Lib.hid (zTo_step (T := tSpan) hlt)
      have HLE := Lib.hid (zTo_le (T := tSpan) (xs := xs) (k := k + 1) (by omega))
      have i1 : (0 : Int) ≤ (k : Int) := by omega
      have i2 : (k : Int) < (xs.length : Int) := by omega
      obtain ⟨b, off, cap', cs, hv, hbl, hcs, hR⟩ := slR_at (slR_below tSpan_law H.out hbel) hlt
      simp only [Value.slice.injEq] at hv
      obtain ⟨rfl, _, rfl⟩ := hv
      generalize xs.getD k tSpan.d = x at *
      obtain ⟨a0, a1, x2⟩ := x
      obtain ⟨v2, hR'⟩ := tSpan_R hR
      obtain ⟨rfl, h2⟩ := hR'
      have p0 : wr.cell? ⟨b, off + k * 3, none⟩ = some (Value.int .i64 a0) := hcs 0 (by decide)
      have p1 : wr.cell? ⟨b, off + k * 3 + 1, none⟩ = some (Value.int .i64 a1) := hcs 1 (by decide)
      have p2 : wr.cell? ⟨b, off + k * 3 + 2, none⟩ = some (v2) := hcs 2 (by decide)
      clear hcs
      have HQ : Hid (tSpan.sz (a0, a1, x2) = zL tInt x2) := Lib.hid tSpan_sz
      have hx1 : ((zL tInt x2 : Nat) : Int) ≤ k0 - (zTo tSpan xs k : Int) := by have := HST.out; have := HLE.out; have := HQ.out; omega
      have hx2 : k0 - (zTo tSpan xs k : Int) ≤ 1048576 := by omega
      have hneg : ¬ k0 - (zTo tSpan xs k : Int) - ((zL tInt x2 : Nat) : Int) < 0 := by omega
      have HC := Lib.hid (fun W b => szSpan_Y a0 a1 v2 x2 (k0 - (zTo tSpan xs k : Int)) W (slR_below tInt_law h2 b) hx1 hx2)
      go_wp2_with fail
      refine (HC.out _ (Below.refl _ _)).mono ?_
      rintro e w1 ⟨rfl, b1⟩
      have b2 := hbel.trans (b1.mono hbel.size)
      go_wp2
      go_roundw
      case rel => exact ⟨k + 1, by omega, by go_num, by rw [HST.out, HQ.out]; go_num, b2⟩
      case measure => simp [intOf]; omega
    · obtain rfl : k = xs.length := by omega
      go_wp2
      go_ret
      exact ⟨rfl, hbel⟩
set_option maxHeartbeats 8000000 in
set_option maxRecDepth 100000 in
theorem szSpanS_N (v : Value) (xs : List (Int × Int × List Int)) (k0 : Int) (w : World) (h : SlR tSpan w v xs) (hs : k0 < ((zL tSpan xs : Nat) : Int)) (hk : k0 ≤ 1048576) (hp : 0 ≤ k0) (ho : tSpanS.ok xs) :
    Calls Tryd.prog 123 #[v, .int .i64 k0] w fun e w' => e = .returned (.int .i64 (-1)) ∧ Below w.heap.size w w' := by
  have H := Lib.hid h
  have HX := Lib.hid ho.2
  have hn := ho.1
  have HS := Lib.hid hs
  obtain ⟨a, cap, rfl⟩ := slR_len h
  clear h ho hs
  by_cases h1 : k0 < (xs.length : Int)
  · have hneg : k0 - (xs.length : Int) < 0 := by omega
    go_enter Tryd.func123, Tryd.ntmps123
    go_wp2
    go_ret
    exact ⟨rfl, Below.refl _ _⟩
  · go_enter Tryd.func123, Tryd.ntmps123
    have hneg : ¬ k0 - (xs.length : Int) < 0 := by omega
    go_wp2
    clear hneg
    go_loopw [1, 5] (fun l i wr => ∃ k : Nat, k ≤ xs.length ∧ i = .int .i64 k ∧ l = .int .i64 (k0 - (zTo tSpan xs k : Int)) ∧ (zTo tSpan xs k : Int) ≤ k0 ∧ Below w.heap.size w wr) (fun _ i _ => xs.length - (intOf i).toNat)
    case atStart => exact ⟨0, Nat.zero_le _, rfl, by rw [zTo_zero], by rw [zTo_zero]; omega, Below.refl _ _⟩
    case round =>
      obtain ⟨k, hk', rfl, rfl, hle, hbel⟩ := hrel
      by_cases hlt : k < xs.length
      · have HST := Lib.hid (zTo_step (T := tSpan) hlt)
        have hx := HX.out k hlt
        have i1 : (0 : Int) ≤ (k : Int) := by omega
        have i2 : (k : Int) < (xs.length : Int) := by omega
        obtain ⟨b, off, cap', cs, hv, hbl, hcs, hR⟩ := slR_at (slR_below tSpan_law H.out hbel) hlt
        simp only [Value.slice.injEq] at hv
        obtain ⟨rfl, _, rfl⟩ := hv
        generalize xs.getD k tSpan.d = x at *
        obtain ⟨a0, a1, x2⟩ := x
        obtain ⟨v2, hR'⟩ := tSpan_R hR
        obtain ⟨rfl, h2⟩ := hR'
        have p0 : wr.cell? ⟨b, off + k * 3, none⟩ = some (Value.int .i64 a0) := hcs 0 (by decide)
        have p1 : wr.cell? ⟨b, off + k * 3 + 1, none⟩ = some (Value.int .i64 a1) := hcs 1 (by decide)
        have p2 : wr.cell? ⟨b, off + k * 3 + 2, none⟩ = some (v2) := hcs 2 (by decide)
        clear hcs
        have HQ : Hid (tSpan.sz (a0, a1, x2) = zL tInt x2) := Lib.hid tSpan_sz
        obtain ⟨_, ⟨_, o2⟩⟩ := hx
        have hz0 : (0 : Int) ≤ (zTo tSpan xs k : Int) := by omega
        by_cases hg : ((zL tInt x2 : Nat) : Int) ≤ k0 - (zTo tSpan xs k : Int)
        · have hx2 : k0 - (zTo tSpan xs k : Int) ≤ 1048576 := by omega
          have hneg : ¬ k0 - (zTo tSpan xs k : Int) - ((zL tInt x2 : Nat) : Int) < 0 := by omega
          have HC := Lib.hid (fun W b => szSpan_Y a0 a1 v2 x2 (k0 - (zTo tSpan xs k : Int)) W (slR_below tInt_law h2 b) hg hx2)
          go_wp2_with fail
          refine (HC.out _ (Below.refl _ _)).mono ?_
          rintro e w1 ⟨rfl, b1⟩
          have b2 := hbel.trans (b1.mono hbel.size)
          go_wp2
          go_roundw
          case rel => exact ⟨k + 1, by omega, by go_num, by rw [HST.out, HQ.out]; go_num, by rw [HST.out, HQ.out]; omega, b2⟩
          case measure => simp [intOf]; omega
        · have hx1 : k0 - (zTo tSpan xs k : Int) < ((zL tInt x2 : Nat) : Int) := by omega
          have hx0 : 0 ≤ k0 - (zTo tSpan xs k : Int) := by omega
          have hx2 : k0 - (zTo tSpan xs k : Int) ≤ 1048576 := by omega
          have HC := Lib.hid (fun W b => szSpan_N a0 a1 v2 x2 (k0 - (zTo tSpan xs k : Int)) W (slR_below tInt_law h2 b) hx1 hx2 hx0 o2)
          clear hg
          go_wp2_with fail
          refine (HC.out _ (Below.refl _ _)).mono ?_
          rintro e w1 ⟨rfl, b1⟩
          have b2 := hbel.trans (b1.mono hbel.size)
          go_wp2
          go_ret
          exact ⟨rfl, b2⟩
      · obtain rfl : k = xs.length := by omega
        exact absurd HS.out (by show ¬ k0 < ((zTo tSpan xs xs.length : Nat) : Int); omega)
theorem Tryd.info_Span : (Tryd.prog.info? 83).map (fun i => (i.zero, i.size)) = some (some (.agg #[.int .i64 0, .int .i64 0, .slice none 0 0]), 3) := by kernel_rfl
theorem Tryd.bytes_Span : ((Tryd.prog.info? 83).map (fun i => decide (i.bytes ≤ 512))) = some true := by kernel_rfl
theorem tSpan_zero (w : World) : tSpan.O w (fun _ => False) #[.int .i64 0, .int .i64 0, .slice none 0 0].toList tSpan.d := tSpan_mkO (slO_nil _ _ _ (fun _ => False)) (fun b h => h) 
set_option maxHeartbeats 8000000 in
set_option maxRecDepth 100000 in
theorem toSpanS_S (v : Value) (xs : List (Int × Int × List Int)) (w : World) (h : SlR tSpan w v xs) (hs : zL tSpan xs ≤ 1048576) :
    Calls Tryd.prog 125 #[v] w (FreshS 83 tSpan w xs) := by
  obtain ⟨i0, hi, hz0, hz1⟩ : ∃ i0, Tryd.prog.info? 83 = some i0 ∧ i0.zero = some (.agg #[.int .i64 0, .int .i64 0, .slice none 0 0]) ∧ i0.size = 3 := by
    have h0 := Tryd.info_Span
    cases q : Tryd.prog.info? 83 with
    | none => rw [q] at h0; simp at h0
    | some i => rw [q] at h0; simp only [Option.map_some, Option.some.injEq, Prod.mk.injEq] at h0; exact ⟨i, rfl, h0.1, h0.2⟩
  have hz2 : i0.bytes ≤ 512 := by
    have h0 := Tryd.bytes_Span
    rw [hi] at h0
    simpa using h0
  have HI := Lib.hid hi; have HZ0 := Lib.hid hz0; have HZ1 := Lib.hid hz1; have HZ2 := Lib.hid hz2
  clear hi hz0 hz1 hz2
  have H := Lib.hid h
  have hlen := zL_len hs
  have HS := Lib.hid hs
  obtain ⟨a, cap, rfl⟩ := slR_len h
  clear h hs
  go_enter Tryd.func125, Tryd.ntmps125
  go_wp2_with (at_make; refine wpList_make_full _ rfl (.tmp 6) (.tmp 6) 77 rfl w.heap.size 83 i0 (.agg #[.int .i64 0, .int .i64 0, .slice none 0 0]) 3 Tryd.underlying77 HI.out HZ0.out HZ1.out _ _ _ _ xs.length rfl rfl rfl rfl (by have h9 := Nat.mul_le_mul HZ2.out hlen; have h8 := Nat.mul_le_mul hlen HZ2.out; omega) (by unfold maxLen; omega) (Nat.le_refl _) ?_)
  intro w1 hown0 hg0
  have hown1 : SlO 83 tSpan w1 (since w) (.slice (some ⟨w.heap.size, 0, none⟩) xs.length xs.length) (List.replicate xs.length tSpan.d) := slO_made (z := #[.int .i64 0, .int .i64 0, .slice none 0 0]) tSpan_law rfl (tSpan_zero w1) (Nat.le_refl _) hown0
  have hbel1 := (Below.refl w.heap.size w).grown hg0 (Nat.le_refl _) (fun k hk => by cases hk)
  clear hown0 hg0
  go_wp2
  go_loopw [4] (fun i wr => ∃ k : Nat, k ≤ xs.length ∧ i = .int .i64 k ∧ SlO 83 tSpan wr (since w) (.slice (some ⟨w.heap.size, 0, none⟩) xs.length xs.length) (xs.take k ++ List.replicate (xs.length - k) tSpan.d) ∧ Below w.heap.size w wr) (fun i _ => xs.length - (intOf i).toNat)
  case atStart => exact ⟨0, Nat.zero_le _, rfl, by simpa using hown1, hbel1⟩
  case round =>
    obtain ⟨k, hk, rfl, hown, hbel⟩ := hrel
    by_cases hlt : k < xs.length
    · have HSET := Lib.hid (cTo_step (d := tSpan.d) hlt)
      have HKL : Hid (k < (xs.take k ++ List.replicate (xs.length - k) tSpan.d).length) := Lib.hid (by rw [cTo_len hk]; exact hlt)
      have HLL := Lib.hid (cTo_len (d := tSpan.d) hk)
      have i1 : (0 : Int) ≤ (k : Int) := by omega
      have i2 : (k : Int) < (xs.length : Int) := by omega
      have hzx := zL_at HS.out hlt
      obtain ⟨b, off, cap', cs, hv, hbl, hcs, hR⟩ := slR_at (slR_below tSpan_law H.out hbel) hlt
      simp only [Value.slice.injEq] at hv
      obtain ⟨rfl, _, rfl⟩ := hv
      obtain ⟨hme, hFg, hgl, cj, Fj, Lc, hrow, hLc, hO, hFj, hput⟩ := slO_open tSpan_law hown HKL.out
      clear hme
      clear hown1 hbel1
      generalize xs.getD k tSpan.d = x at *
      generalize xs.take k ++ List.replicate (xs.length - k) tSpan.d = ys at *
      obtain ⟨a0, a1, x2⟩ := x
      obtain ⟨v2, hR'⟩ := tSpan_R hR
      obtain ⟨rfl, h2⟩ := hR'
      have p0 : wr.cell? ⟨b, off + k * 3, none⟩ = some (Value.int .i64 a0) := hcs 0 (by decide)
      have p1 : wr.cell? ⟨b, off + k * 3 + 1, none⟩ = some (Value.int .i64 a1) := hcs 1 (by decide)
      have p2 : wr.cell? ⟨b, off + k * 3 + 2, none⟩ = some (v2) := hcs 2 (by decide)
      rw [tSpan_sz] at hzx
      have S2 := Lib.hid (show zL tInt x2 ≤ 1048576 by omega)
      have HC := Lib.hid (fun w g2 => toSpan_T a0 a1 v2 x2 w g2 S2.out)
      have G2 := Lib.hid h2
      clear hcs hzx h2
      go_wp2_with fail
      refine (HC.out _ G2.out).mono ?_
      rintro e w2 ⟨cv, rfl, ow, b2⟩
      replace ow := tSpan_law.lt ow
      have ow2 := ow
      obtain ⟨u2, K2, rfl, o2, _⟩ := tSpan_O ow2
      obtain ⟨ua2, uc2, rfl⟩ := slO_len o2
      clear o2
      have r0 := row_turn (G := fun _ => False) hrow (turn_below b2) (fun _ _ => not_false)
      rw [HLL.out] at r0
      have q0 : ∃ x, w2.cell? ⟨w.heap.size, k * 3, none⟩ = some x := ⟨_, (World.ownsRow.cellAt r0 (k * 3) (by have := HKL.out; rw [HLL.out] at this; show _ < xs.length * 3; omega)).trans (List.getElem?_eq_getElem (by have h1 : Lc.length = xs.length * 3 := r0.1; omega))⟩
      obtain ⟨y0, q0⟩ := q0
      have f0 := World.ownsRow.frozenAt r0 (k * 3)
      have q1 : ∃ x, w2.cell? ⟨w.heap.size, k * 3 + 1, none⟩ = some x := ⟨_, (World.ownsRow.cellAt r0 (k * 3 + 1) (by have := HKL.out; rw [HLL.out] at this; show _ < xs.length * 3; omega)).trans (List.getElem?_eq_getElem (by have h1 : Lc.length = xs.length * 3 := r0.1; omega))⟩
      obtain ⟨y1, q1⟩ := q1
      have f1 := World.ownsRow.frozenAt r0 (k * 3 + 1)
      have q2 : ∃ x, w2.cell? ⟨w.heap.size, k * 3 + 2, none⟩ = some x := ⟨_, (World.ownsRow.cellAt r0 (k * 3 + 2) (by have := HKL.out; rw [HLL.out] at this; show _ < xs.length * 3; omega)).trans (List.getElem?_eq_getElem (by have h1 : Lc.length = xs.length * 3 := r0.1; omega))⟩
      obtain ⟨y2, q2⟩ := q2
      have f2 := World.ownsRow.frozenAt r0 (k * 3 + 2)
      have b3 := hbel.trans (b2.mono hbel.size)
      have B3 := Lib.hid (((b3.setCell (p := ⟨w.heap.size, k * 3, none⟩) (Nat.le_refl _) (.int .i64 a0)).setCell (p := ⟨w.heap.size, k * 3 + 1, none⟩) (Nat.le_refl _) (.int .i64 a1)).setCell (p := ⟨w.heap.size, k * 3 + 2, none⟩) (Nat.le_refl _) (.slice ua2 x2.length uc2))
      have hT : Turn (fun b => b = w.heap.size ∨ Fj b ∨ wr.heap.size ≤ b) wr (((w2.setCell ⟨w.heap.size, k * 3, none⟩ (.int .i64 a0)).setCell ⟨w.heap.size, k * 3 + 1, none⟩ (.int .i64 a1)).setCell ⟨w.heap.size, k * 3 + 2, none⟩ (.slice ua2 x2.length uc2)) := ((((turn_below b2).trans (turn_set (j := k * 3) (u := .int .i64 a0) (Or.inl rfl))).trans (turn_set (j := k * 3 + 1) (u := .int .i64 a1) (Or.inl rfl))).trans (turn_set (j := k * 3 + 2) (u := .slice ua2 x2.length uc2) (Or.inl rfl)))
      have hT2 : Turn (fun b => b = w.heap.size) w2 (((w2.setCell ⟨w.heap.size, k * 3, none⟩ (.int .i64 a0)).setCell ⟨w.heap.size, k * 3 + 1, none⟩ (.int .i64 a1)).setCell ⟨w.heap.size, k * 3 + 2, none⟩ (.slice ua2 x2.length uc2)) := ((((Turn.refl (fun b => b = w.heap.size) _).trans (turn_set (G := fun b => b = w.heap.size) (j := k * 3) (u := .int .i64 a0) rfl)).trans (turn_set (G := fun b => b = w.heap.size) (j := k * 3 + 1) (u := .int .i64 a1) rfl)).trans (turn_set (G := fun b => b = w.heap.size) (j := k * 3 + 2) (u := .slice ua2 x2.length uc2) rfl))
      have hO2 := tSpan_law.turn ow hT2 (fun b h1 h2 => by have := h1.1; simp only [since] at this; omega)
      have r9 := (World.ownsRow.stored (World.ownsRow.stored (World.ownsRow.stored r0 (k * 3) (.int .i64 a0)).1 (k * 3 + 1) (.int .i64 a1)).1 (k * 3 + 2) (.slice ua2 x2.length uc2)).1
      have hLl : Lc.length = xs.length * 3 := r0.1
      have hst := Lib.hid (hput (((w2.setCell ⟨w.heap.size, k * 3, none⟩ (.int .i64 a0)).setCell ⟨w.heap.size, k * 3 + 1, none⟩ (.int .i64 a1)).setCell ⟨w.heap.size, k * 3 + 2, none⟩ (.slice ua2 x2.length uc2)) (((Lc.set (k * 3) (.int .i64 a0)).set (k * 3 + 1) (.int .i64 a1)).set (k * 3 + 2) (.slice ua2 x2.length uc2)) [.int .i64 a0, .int .i64 a1, .slice ua2 x2.length uc2] _ (a0, a1, x2) (by rw [HLL.out]; exact r9) (fun p hp => by have hp2 : p < k * 3 ∨ k * 3 + 3 ≤ p := hp; rw [List.getElem?_set_ne (by omega)]; rw [List.getElem?_set_ne (by omega)]; rw [List.getElem?_set_ne (by omega)]) (fun i hi => by have hi' : i < 3 := hi; match i, hi' with | 0, _ => (show ((((Lc.set (k * 3) (.int .i64 a0)).set (k * 3 + 1) (.int .i64 a1)).set (k * 3 + 2) (.slice ua2 x2.length uc2)))[k * 3]? = _; rw [List.getElem?_set_ne (by omega)]; rw [List.getElem?_set_ne (by omega)]; rw [List.getElem?_set_self (by first | omega | (simp only [List.length_set]; omega))]; rfl) | 1, _ => (show ((((Lc.set (k * 3) (.int .i64 a0)).set (k * 3 + 1) (.int .i64 a1)).set (k * 3 + 2) (.slice ua2 x2.length uc2)))[k * 3 + 1]? = _; rw [List.getElem?_set_ne (by omega)]; rw [List.getElem?_set_self (by first | omega | (simp only [List.length_set]; omega))]; rfl) | 2, _ => (show ((((Lc.set (k * 3) (.int .i64 a0)).set (k * 3 + 1) (.int .i64 a1)).set (k * 3 + 2) (.slice ua2 x2.length uc2)))[k * 3 + 2]? = _; rw [List.getElem?_set_self (by first | omega | (simp only [List.length_set]; omega))]; rfl)) hO2 (fun b hb => ⟨Nat.le_trans hbel.size hb.1, Or.inr hb.1⟩) hT)
      have hst2 : SlO 83 tSpan (((w2.setCell ⟨w.heap.size, k * 3, none⟩ (.int .i64 a0)).setCell ⟨w.heap.size, k * 3 + 1, none⟩ (.int .i64 a1)).setCell ⟨w.heap.size, k * 3 + 2, none⟩ (.slice ua2 x2.length uc2)) (since w) (.slice (some ⟨w.heap.size, 0, none⟩) xs.length xs.length) (xs.take (k + 1) ++ List.replicate (xs.length - (k + 1)) tSpan.d) := by have := hst.out; rw [HSET.out] at this; exact this
      have HST := Lib.hid hst2
      clear hst hst2 hT hT2 hO2 r9 r0 hrow hO hput hown hbel b2 ow b3 hLl hLc hFj
      go_wp2
      go_roundw
      case rel => exact ⟨k + 1, by omega, by go_num, HST.out, B3.out⟩
      case measure => simp [intOf]; omega
    · obtain rfl : k = xs.length := by omega
      have HE : Hid (xs.take xs.length ++ List.replicate (xs.length - xs.length) tSpan.d = xs) := Lib.hid (by simp)
      rw [HE.out] at hown
      go_wp2
      go_ret
      exact ⟨_, rfl, hown, hbel⟩
set_option maxHeartbeats 8000000 in
set_option maxRecDepth 100000 in
theorem eqSpanS_S (v u : Value) (xs : List (Int × Int × List Int)) (w : World) (h : SlR tSpan w v xs) (g : SlR tSpan w u xs) (hs : zL tSpan xs ≤ 1048576) :
    Calls Tryd.prog 127 #[v, u] w fun e w' => e = .returned (.bool true) ∧ Below w.heap.size w w' := by
  have H := Lib.hid h
  have G := Lib.hid g
  have HS := Lib.hid hs
  have hlen := zL_len hs
  obtain ⟨a, cap, rfl⟩ := slR_len h
  obtain ⟨a2, cap2, rfl⟩ := slR_len g
  clear h g hs
  go_enter Tryd.func127, Tryd.ntmps127
  go_wp2
  go_loopw [5] (fun i wr => ∃ k : Nat, k ≤ xs.length ∧ i = .int .i64 k ∧ Below w.heap.size w wr) (fun i _ => xs.length - (intOf i).toNat)
  case atStart => exact ⟨0, Nat.zero_le _, rfl, Below.refl _ _⟩
  case round =>
    obtain ⟨k, hk, rfl, hbel⟩ := hrel
    by_cases hlt : k < xs.length
    · obtain ⟨b, off, cap', cs, hv, hbl, hcs, hR⟩ := slR_at (slR_below tSpan_law H.out hbel) hlt
      simp only [Value.slice.injEq] at hv
      obtain ⟨rfl, _, rfl⟩ := hv
      obtain ⟨b2, off2, cap2', ds, hv2, hbl2, hds, hQ⟩ := slR_at (slR_below tSpan_law G.out hbel) hlt
      simp only [Value.slice.injEq] at hv2
      obtain ⟨rfl, _, rfl⟩ := hv2
      have hzx := zL_at HS.out hlt
      have i1 : (0 : Int) ≤ (k : Int) := by omega
      have i2 : (k : Int) < (xs.length : Int) := by omega
      generalize xs.getD k tSpan.d = x at *
      obtain ⟨a0, a1, x2⟩ := x
      obtain ⟨v2, hR'⟩ := tSpan_R hR
      obtain ⟨rfl, h2⟩ := hR'
      obtain ⟨u2, hQ'⟩ := tSpan_R hQ
      obtain ⟨rfl, g2⟩ := hQ'
      rw [tSpan_sz] at hzx
      have S2 := Lib.hid (show zL tInt x2 ≤ 1048576 by omega)
      have p0 : wr.cell? ⟨b, off + k * 3, none⟩ = some (Value.int .i64 a0) := hcs 0 (by decide)
      have q0 : wr.cell? ⟨b2, off2 + k * 3, none⟩ = some (Value.int .i64 a0) := hds 0 (by decide)
      have p1 : wr.cell? ⟨b, off + k * 3 + 1, none⟩ = some (Value.int .i64 a1) := hcs 1 (by decide)
      have q1 : wr.cell? ⟨b2, off2 + k * 3 + 1, none⟩ = some (Value.int .i64 a1) := hds 1 (by decide)
      have p2 : wr.cell? ⟨b, off + k * 3 + 2, none⟩ = some (v2) := hcs 2 (by decide)
      have q2 : wr.cell? ⟨b2, off2 + k * 3 + 2, none⟩ = some (u2) := hds 2 (by decide)
      clear hcs hds hzx
      go_wp2
      go_region_with (first | (go_at_call 156; refine (eqSpan_T a0 a1 v2 x2 u2 _ (by exact slR_same tInt_law h2 rfl rfl rfl rfl) (by exact slR_same tInt_law g2 rfl rfl rfl rfl) S2.out).mono ?_; rintro e w8 ⟨rfl, b9⟩; have b10 : Below wr.heap.size wr w8 := ⟨b9.os, b9.tape, b9.output, b9.size, b9.block⟩))
      all_goals
        have b11 := hbel.trans (b10.mono hbel.size)
        go_wp2
        go_roundw
        case rel => exact ⟨k + 1, by omega, by go_num, b11⟩
        case measure => simp [intOf]; omega
    · go_wp2
      go_ret
      exact ⟨rfl, hbel⟩
set_option maxHeartbeats 8000000 in
set_option maxRecDepth 100000 in
theorem markSpanS_S (v : Value) (xs : List (Int × Int × List Int)) (F : Nat → Prop) (k : Int) (w : World) (h : SlO 83 tSpan w F v xs) (hs : zL tSpan xs ≤ 1048576) (k0 : 0 ≤ k) (k1 : k ≤ 1006632960) :
    Calls Tryd.prog 129 #[v, .int .i64 k] w fun e w' => e = .returned (.int .i64 (k + (ndL tSpan xs : Int))) ∧ SlO 83 tSpan w' F v (mAll tSpan xs k) ∧ Turn F w w' := by
  rw [← kAt_all]
  have HS := Lib.hid hs
  have hlen := zL_len hs
  rcases slO_form h with ⟨rfl, rfl⟩ | ⟨g, cap, rfl, hFg, hgw⟩
  · have H := Lib.hid h
    clear h hs
    go_enter Tryd.func129, Tryd.ntmps129
    go_wp2
    go_loop [1, 5] (fun m i => i = .int .i64 0 ∧ m = .int .i64 k) (fun _ _ => 0)
    case atStart => exact ⟨rfl, rfl⟩
    case round =>
      obtain ⟨rfl, rfl⟩ := hrel
      go_wp2
      go_ret
      exact ⟨by simp [kAt, sumN], by rw [show mAll tSpan [] k = [] from rfl]; exact H.out, Turn.refl _ _⟩
  · have H := Lib.hid h
    clear h hs
    go_enter Tryd.func129, Tryd.ntmps129
    go_wp2
    go_loopw [1, 5] (fun m i wr => ∃ j : Nat, j ≤ xs.length ∧ i = .int .i64 j ∧ m = .int .i64 (kAt tSpan xs k j) ∧ SlO 83 tSpan wr (fun b => F b ∧ b < w.heap.size) (.slice (some ⟨g, 0, none⟩) xs.length cap) (mTo tSpan xs k j) ∧ Turn F w wr) (fun _ i _ => xs.length - (intOf i).toNat)
    case atStart => exact ⟨0, Nat.zero_le _, rfl, by rw [kAt_zero], by rw [mTo_zero]; exact slO_lt tSpan_law H.out, Turn.refl _ _⟩
    case round =>
      obtain ⟨j, hj, rfl, rfl, hown, hon⟩ := hrel
      by_cases hlt : j < xs.length
      · have i1 : (0 : Int) ≤ (j : Int) := by omega
        have i2 : (j : Int) < (xs.length : Int) := by omega
        have hjl : j < (mTo tSpan xs k j).length := by rw [mTo_len hj]; exact hlt
        have HLL := Lib.hid (mTo_len (T := tSpan) (k := k) hj)
        obtain ⟨r1, r2⟩ := kAt_range tSpan_law (by decide) (k := k) HS.out hj
        obtain ⟨r3, r4⟩ := kAt_range tSpan_law (by decide) (k := k) (j := j + 1) HS.out (by omega)
        have hzx := zL_at HS.out hlt
        have hstep := kAt_step (T := tSpan) (k := k) hlt
        have hset := mTo_step (T := tSpan) (k := k) hlt
        have hsz := hon.size
        obtain ⟨hme, hFg2, hgl, cj, Fj, Lc, hrow, hLc, hO, hFj, hput⟩ := slO_open tSpan_law hown hjl
        clear hme hFg2
        rw [mTo_at hlt] at hO
        have HM : Hid (∃ m', kAt tSpan xs k (j + 1) = m') := Lib.hid ⟨_, rfl⟩
        obtain ⟨m', hm'⟩ := HM.out
        rw [hm'] at hstep r3 r4
        have HM' := Lib.hid hm'
        clear hm' HM H hown hjl
        generalize kAt tSpan xs k j = m at *
        generalize xs.getD j tSpan.d = x at *
        rw [HLL.out] at hrow hput
        obtain ⟨a0, a1, x2⟩ := x
        rw [tSpan_md] at hset
        rw [tSpan_nd] at hstep
        rw [tSpan_sz] at hzx
        obtain ⟨v2, K2, rfl, o2, q2⟩ := tSpan_O hO
        have S2 := Lib.hid (show zL tInt x2 ≤ 1048576 by omega)
        have N2 := ndL_le tInt_law (by decide) x2
        have R2 : Hid (0 ≤ m + 1 + 1 ∧ m + 1 + 1 ≤ 1073741824) := Lib.hid (by omega)
        have hmm : m + 1 + 1 + (ndL tInt x2 : Int) = m' := by omega
        have HMM := Lib.hid hmm
        have hm0 : 0 ≤ m := by omega
        have hm1 : m ≤ 1073741824 := by omega
        clear hmm hstep hzx N2
        have hLl : Lc.length = xs.length * 3 := hrow.1
        have HSET := Lib.hid hset
        clear hset
        have tt : Turn (fun b => b = g ∨ Fj b ∨ wr.heap.size ≤ b) wr wr := Turn.refl _ _
        have rr := hrow
        have c0 : ∃ x, wr.cell? ⟨g, j * 3, none⟩ = some x := ⟨_, (World.ownsRow.cellAt rr (j * 3) (by show j * 3 < xs.length * 3; omega)).trans (List.getElem?_eq_getElem (by have h9 := rr.1; have h8 : xs.length * tSpan.n = xs.length * 3 := rfl; omega))⟩
        obtain ⟨y0, c0⟩ := c0
        have f0 := World.ownsRow.frozenAt rr (j * 3)
        have c1 : ∃ x, wr.cell? ⟨g, j * 3 + 1, none⟩ = some x := ⟨_, (World.ownsRow.cellAt rr (j * 3 + 1) (by show j * 3 + 1 < xs.length * 3; omega)).trans (List.getElem?_eq_getElem (by have h9 := rr.1; have h8 : xs.length * tSpan.n = xs.length * 3 := rfl; omega))⟩
        obtain ⟨y1, c1⟩ := c1
        have f1 := World.ownsRow.frozenAt rr (j * 3 + 1)
        have cv2 : wr.cell? ⟨g, j * 3 + 2, none⟩ = some v2 := (World.ownsRow.cellAt rr (j * 3 + 2) (by show j * 3 + 2 < xs.length * 3; omega)).trans (by exact hLc 2 (by decide))
        go_wp2_with fail
        clear c0 f0 c1 f1 cv2
        have ts : Turn (fun b => b = g) wr ((wr.setCell ⟨g, j * 3, none⟩ (.int .i64 (m))).setCell ⟨g, j * 3 + 1, none⟩ (.int .i64 (m + 1))) := (((Turn.refl (fun b => b = g) _).trans (turn_set (G := fun b => b = g) (g := g) (j := j * 3) (u := .int .i64 (m)) rfl)).trans (turn_set (G := fun b => b = g) (g := g) (j := j * 3 + 1) (u := .int .i64 (m + 1)) rfl))
        replace rr := (World.ownsRow.stored (World.ownsRow.stored rr (j * 3) (.int .i64 (m))).1 (j * 3 + 1) (.int .i64 (m + 1))).1
        replace o2 := slO_turn tInt_law o2 ts (fun b h1 h2 => (hFj b (q2 b h1)).2.1 h2)
        replace tt := tt.trans (ts.mono (fun b h => Or.inl h))
        clear ts
        generalize ((wr.setCell ⟨g, j * 3, none⟩ (.int .i64 (m))).setCell ⟨g, j * 3 + 1, none⟩ (.int .i64 (m + 1))) = W0 at *
        refine (markIntS_S v2 x2 _ (m + 1 + 1) W0 o2 S2.out R2.out.1 (by have := R2.out.2; omega)).mono ?_
        rintro e w1 ⟨rfl, m2, t1⟩
        replace rr := row_turn rr t1 (fun b hb h => by simp [Value.ownBlock] at hb; exact (hFj b (q2 b h)).2.1 hb.symm)
        replace o2 := m2
        replace tt := tt.trans (t1.mono (fun b h => Or.inr (Or.inl (q2 b h))))
        clear t1
        have hO2 := tSpan_mkO (F := Fj) (a0 := m) (a1 := m + 1) o2 q2 
        have hst := hput w1 ((Lc.set (j * 3) (.int .i64 (m))).set (j * 3 + 1) (.int .i64 (m + 1))) [.int .i64 (m), .int .i64 (m + 1), v2] Fj _ rr (fun p hp => by have hp2 : p < j * 3 ∨ j * 3 + 3 ≤ p := hp; rw [List.getElem?_set_ne (by omega)]; rw [List.getElem?_set_ne (by omega)]) (fun i hi => by have hi' : i < 3 := hi; match i, hi' with | 0, _ => (show (((Lc.set (j * 3) (.int .i64 (m))).set (j * 3 + 1) (.int .i64 (m + 1))))[j * 3]? = _; rw [List.getElem?_set_ne (by omega)]; rw [List.getElem?_set_self (by first | omega | (simp only [List.length_set]; omega))]; rfl) | 1, _ => (show (((Lc.set (j * 3) (.int .i64 (m))).set (j * 3 + 1) (.int .i64 (m + 1))))[j * 3 + 1]? = _; rw [List.getElem?_set_self (by first | omega | (simp only [List.length_set]; omega))]; rfl) | 2, _ => (show (((Lc.set (j * 3) (.int .i64 (m))).set (j * 3 + 1) (.int .i64 (m + 1))))[j * 3 + 2]? = _; rw [List.getElem?_set_ne (by omega)]; rw [List.getElem?_set_ne (by omega)]; exact hLc 2 (by decide))) hO2 (fun b hb => ⟨(hFj b hb).1, Or.inl hb⟩) tt
        rw [HSET.out] at hst
        have HST := Lib.hid hst
        have hon2 := hon.trans (Turn.mono (G := fun b => F b ∧ b < w.heap.size) (G' := F) ⟨tt.os, tt.tape, tt.output, tt.size, fun b hb hn => tt.block b hb (fun h => hn (h.elim (fun h => by rw [h]; exact ⟨hFg, hgw⟩) (fun h => h.elim (fun h => (hFj b h).1) (fun h => absurd hb (Nat.not_lt.2 h)))))⟩ (fun b h => h.1))
        clear hst hput tt rr hO2 hon hFj hLc hLl o2
        rw [HMM.out]
        go_wp2
        go_roundw
        case rel => exact ⟨j + 1, by omega, by go_num, by rw [HM'.out], HST.out, hon2⟩
        case measure => simp [intOf]; omega
      · obtain rfl : j = xs.length := by omega
        rw [mTo_all] at hown
        go_wp2
        go_ret
        exact ⟨rfl, slO_mono hown (fun b h => h.1), hon⟩
end Go.Proofs.YtidhmgboknffkaaDoor
namespace Go.Proofs.YtidhmgboknffkaaDoor
open Go.RowKit
set_option linter.unusedVariables false
set_option linter.unusedSimpArgs false
abbrev tSpanSS : Ty (List (List (Int × Int × List Int))) := tSl 77 tSpanS
theorem tSpanSS_law : tSpanSS.Law := tSl_law tSpanS_law (by decide)
set_option maxHeartbeats 8000000 in
set_option maxRecDepth 100000 in
theorem szSpanSS_Y (v : Value) (xs : List (List (Int × Int × List Int))) (k0 : Int) (w : World) (h : SlR tSpanS w v xs) (hs : ((zL tSpanS xs : Nat) : Int) ≤ k0) (hk : k0 ≤ 1048576) :
    Calls Tryd.prog 76 #[v, .int .i64 k0] w fun e w' => e = .returned (.int .i64 (k0 - ((zL tSpanS xs : Nat) : Int))) ∧ Below w.heap.size w w' := by
  have H := Lib.hid h
  obtain ⟨a, cap, rfl⟩ := slR_len h
  clear h
  have h00 := zTo_le (T := tSpanS) (xs := xs) (Nat.zero_le _)
  rw [zTo_zero] at h00
  have HS := Lib.hid hs
  go_enter Tryd.func76, Tryd.ntmps76
  have hneg : ¬ k0 - (xs.length : Int) < 0 := by omega
  go_wp2
  clear hneg
  go_loopw [1, 5] (fun l i wr => ∃ k : Nat, k ≤ xs.length ∧ i = .int .i64 k ∧ l = .int .i64 (k0 - (zTo tSpanS xs k : Int)) ∧ Below w.heap.size w wr) (fun _ i _ => xs.length - (intOf i).toNat)
  case atStart => exact ⟨0, Nat.zero_le _, rfl, by rw [zTo_zero], Below.refl _ _⟩
  case round =>
    obtain ⟨k, hk', rfl, rfl, hbel⟩ := hrel
    by_cases hlt : k < xs.length
    · have HST := Lib.hid (zTo_step (T := tSpanS) hlt)
      have HLE := Lib.hid (zTo_le (T := tSpanS) (xs := xs) (k := k + 1) (by omega))
      have i1 : (0 : Int) ≤ (k : Int) := by omega
      have i2 : (k : Int) < (xs.length : Int) := by omega
      obtain ⟨b, off, cap', cs, hv, hbl, hcs, hR⟩ := slR_at (slR_below tSpanS_law H.out hbel) hlt
      simp only [Value.slice.injEq] at hv
      obtain ⟨rfl, _, rfl⟩ := hv
      generalize xs.getD k tSpanS.d = x at *
      obtain ⟨u, rfl, hR'⟩ := hR
      have p0 : wr.cell? ⟨b, off + k, none⟩ = some u := by have := hcs 0 Nat.one_pos; rw [show tSpanS.n = 1 from rfl, Nat.mul_one, Nat.add_zero] at this; exact this
      clear hcs
      have HQ : Hid (tSpanS.sz x = zL tSpan x) := Lib.hid rfl
      have hx1 : ((zL tSpan x : Nat) : Int) ≤ k0 - (zTo tSpanS xs k : Int) := by have := HST.out; have := HLE.out; have := HQ.out; omega
      have hx2 : k0 - (zTo tSpanS xs k : Int) ≤ 1048576 := by omega
      have hneg : ¬ k0 - (zTo tSpanS xs k : Int) - ((zL tSpan x : Nat) : Int) < 0 := by omega
      have HC := Lib.hid (fun W b => szSpanS_Y u x (k0 - (zTo tSpanS xs k : Int)) W (slR_below tSpan_law hR' b) hx1 hx2)
      go_wp2_with fail
      refine (HC.out _ (Below.refl _ _)).mono ?_
      rintro e w1 ⟨rfl, b1⟩
      have b2 := hbel.trans (b1.mono hbel.size)
      go_wp2
      go_roundw
      case rel => exact ⟨k + 1, by omega, by go_num, by rw [HST.out, HQ.out]; go_num, b2⟩
      case measure => simp [intOf]; omega
    · obtain rfl : k = xs.length := by omega
      go_wp2
      go_ret
      exact ⟨rfl, hbel⟩
set_option maxHeartbeats 8000000 in
set_option maxRecDepth 100000 in
theorem szSpanSS_N (v : Value) (xs : List (List (Int × Int × List Int))) (k0 : Int) (w : World) (h : SlR tSpanS w v xs) (hs : k0 < ((zL tSpanS xs : Nat) : Int)) (hk : k0 ≤ 1048576) (hp : 0 ≤ k0) (ho : tSpanSS.ok xs) :
    Calls Tryd.prog 76 #[v, .int .i64 k0] w fun e w' => e = .returned (.int .i64 (-1)) ∧ Below w.heap.size w w' := by
  have H := Lib.hid h
  have HX := Lib.hid ho.2
  have hn := ho.1
  have HS := Lib.hid hs
  obtain ⟨a, cap, rfl⟩ := slR_len h
  clear h ho hs
  by_cases h1 : k0 < (xs.length : Int)
  · have hneg : k0 - (xs.length : Int) < 0 := by omega
    go_enter Tryd.func76, Tryd.ntmps76
    go_wp2
    go_ret
    exact ⟨rfl, Below.refl _ _⟩
  · go_enter Tryd.func76, Tryd.ntmps76
    have hneg : ¬ k0 - (xs.length : Int) < 0 := by omega
    go_wp2
    clear hneg
    go_loopw [1, 5] (fun l i wr => ∃ k : Nat, k ≤ xs.length ∧ i = .int .i64 k ∧ l = .int .i64 (k0 - (zTo tSpanS xs k : Int)) ∧ (zTo tSpanS xs k : Int) ≤ k0 ∧ Below w.heap.size w wr) (fun _ i _ => xs.length - (intOf i).toNat)
    case atStart => exact ⟨0, Nat.zero_le _, rfl, by rw [zTo_zero], by rw [zTo_zero]; omega, Below.refl _ _⟩
    case round =>
      obtain ⟨k, hk', rfl, rfl, hle, hbel⟩ := hrel
      by_cases hlt : k < xs.length
      · have HST := Lib.hid (zTo_step (T := tSpanS) hlt)
        have hx := HX.out k hlt
        have i1 : (0 : Int) ≤ (k : Int) := by omega
        have i2 : (k : Int) < (xs.length : Int) := by omega
        obtain ⟨b, off, cap', cs, hv, hbl, hcs, hR⟩ := slR_at (slR_below tSpanS_law H.out hbel) hlt
        simp only [Value.slice.injEq] at hv
        obtain ⟨rfl, _, rfl⟩ := hv
        generalize xs.getD k tSpanS.d = x at *
        obtain ⟨u, rfl, hR'⟩ := hR
        have p0 : wr.cell? ⟨b, off + k, none⟩ = some u := by have := hcs 0 Nat.one_pos; rw [show tSpanS.n = 1 from rfl, Nat.mul_one, Nat.add_zero] at this; exact this
        clear hcs
        have HQ : Hid (tSpanS.sz x = zL tSpan x) := Lib.hid rfl
        have hz0 : (0 : Int) ≤ (zTo tSpanS xs k : Int) := by omega
        by_cases hg : ((zL tSpan x : Nat) : Int) ≤ k0 - (zTo tSpanS xs k : Int)
        · have hx2 : k0 - (zTo tSpanS xs k : Int) ≤ 1048576 := by omega
          have hneg : ¬ k0 - (zTo tSpanS xs k : Int) - ((zL tSpan x : Nat) : Int) < 0 := by omega
          have HC := Lib.hid (fun W b => szSpanS_Y u x (k0 - (zTo tSpanS xs k : Int)) W (slR_below tSpan_law hR' b) hg hx2)
          go_wp2_with fail
          refine (HC.out _ (Below.refl _ _)).mono ?_
          rintro e w1 ⟨rfl, b1⟩
          have b2 := hbel.trans (b1.mono hbel.size)
          go_wp2
          go_roundw
          case rel => exact ⟨k + 1, by omega, by go_num, by rw [HST.out, HQ.out]; go_num, by rw [HST.out, HQ.out]; omega, b2⟩
          case measure => simp [intOf]; omega
        · have hx1 : k0 - (zTo tSpanS xs k : Int) < ((zL tSpan x : Nat) : Int) := by omega
          have hx0 : 0 ≤ k0 - (zTo tSpanS xs k : Int) := by omega
          have hx2 : k0 - (zTo tSpanS xs k : Int) ≤ 1048576 := by omega
          have HC := Lib.hid (fun W b => szSpanS_N u x (k0 - (zTo tSpanS xs k : Int)) W (slR_below tSpan_law hR' b) hx1 hx2 hx0 hx)
          clear hg
          go_wp2_with fail
          refine (HC.out _ (Below.refl _ _)).mono ?_
          rintro e w1 ⟨rfl, b1⟩
          have b2 := hbel.trans (b1.mono hbel.size)
          go_wp2
          go_ret
          exact ⟨rfl, b2⟩
      · obtain rfl : k = xs.length := by omega
        exact absurd HS.out (by show ¬ k0 < ((zTo tSpanS xs xs.length : Nat) : Int); omega)
theorem Tryd.info_SpanS : (Tryd.prog.info? 77).map (fun i => (i.zero, i.size)) = some (some (.slice none 0 0), 1) := by kernel_rfl
theorem Tryd.bytes_SpanS : ((Tryd.prog.info? 77).map (fun i => decide (i.bytes ≤ 512))) = some true := by kernel_rfl
theorem tSpanS_zero (w : World) : tSpanS.O w (fun _ => False) #[.slice none 0 0].toList tSpanS.d := ⟨_, rfl, slO_nil _ _ _ _⟩
set_option maxHeartbeats 8000000 in
set_option maxRecDepth 100000 in
theorem toSpanSS_S (v : Value) (xs : List (List (Int × Int × List Int))) (w : World) (h : SlR tSpanS w v xs) (hs : zL tSpanS xs ≤ 1048576) :
    Calls Tryd.prog 79 #[v] w (FreshS 77 tSpanS w xs) := by
  obtain ⟨i0, hi, hz0, hz1⟩ : ∃ i0, Tryd.prog.info? 77 = some i0 ∧ i0.zero = some (.slice none 0 0) ∧ i0.size = 1 := by
    have h0 := Tryd.info_SpanS
    cases q : Tryd.prog.info? 77 with
    | none => rw [q] at h0; simp at h0
    | some i => rw [q] at h0; simp only [Option.map_some, Option.some.injEq, Prod.mk.injEq] at h0; exact ⟨i, rfl, h0.1, h0.2⟩
  have hz2 : i0.bytes ≤ 512 := by
    have h0 := Tryd.bytes_SpanS
    rw [hi] at h0
    simpa using h0
  have HI := Lib.hid hi; have HZ0 := Lib.hid hz0; have HZ1 := Lib.hid hz1; have HZ2 := Lib.hid hz2
  clear hi hz0 hz1 hz2
  have H := Lib.hid h
  have hlen := zL_len hs
  have HS := Lib.hid hs
  obtain ⟨a, cap, rfl⟩ := slR_len h
  clear h hs
  go_enter Tryd.func79, Tryd.ntmps79
  go_wp2_with (at_make; refine wpList_make_full _ rfl (.tmp 6) (.tmp 6) 25 rfl w.heap.size 77 i0 (.slice none 0 0) 1 Tryd.underlying25 HI.out HZ0.out HZ1.out _ _ _ _ xs.length rfl rfl rfl rfl (by have h9 := Nat.mul_le_mul HZ2.out hlen; have h8 := Nat.mul_le_mul hlen HZ2.out; omega) (by unfold maxLen; omega) (Nat.le_refl _) ?_)
  intro w1 hown0 hg0
  have hown1 : SlO 77 tSpanS w1 (since w) (.slice (some ⟨w.heap.size, 0, none⟩) xs.length xs.length) (List.replicate xs.length tSpanS.d) := slO_made (z := #[.slice none 0 0]) tSpanS_law rfl (tSpanS_zero w1) (Nat.le_refl _) (by rw [show xs.length * tSpanS.n = xs.length from Nat.mul_one _]; exact hown0)
  have hbel1 := (Below.refl w.heap.size w).grown hg0 (Nat.le_refl _) (fun k hk => by cases hk)
  clear hown0 hg0
  go_wp2
  go_loopw [4] (fun i wr => ∃ k : Nat, k ≤ xs.length ∧ i = .int .i64 k ∧ SlO 77 tSpanS wr (since w) (.slice (some ⟨w.heap.size, 0, none⟩) xs.length xs.length) (xs.take k ++ List.replicate (xs.length - k) tSpanS.d) ∧ Below w.heap.size w wr) (fun i _ => xs.length - (intOf i).toNat)
  case atStart => exact ⟨0, Nat.zero_le _, rfl, by simpa using hown1, hbel1⟩
  case round =>
    obtain ⟨k, hk, rfl, hown, hbel⟩ := hrel
    by_cases hlt : k < xs.length
    · have HSET := Lib.hid (cTo_step (d := tSpanS.d) hlt)
      have HKL : Hid (k < (xs.take k ++ List.replicate (xs.length - k) tSpanS.d).length) := Lib.hid (by rw [cTo_len hk]; exact hlt)
      have HLL := Lib.hid (cTo_len (d := tSpanS.d) hk)
      have i1 : (0 : Int) ≤ (k : Int) := by omega
      have i2 : (k : Int) < (xs.length : Int) := by omega
      have hzx := zL_at HS.out hlt
      obtain ⟨b, off, cap', cs, hv, hbl, hcs, hR⟩ := slR_at (slR_below tSpanS_law H.out hbel) hlt
      simp only [Value.slice.injEq] at hv
      obtain ⟨rfl, _, rfl⟩ := hv
      obtain ⟨hme, hFg, hgl, cj, Fj, Lc, hrow, hLc, hO, hFj, hput⟩ := slO_open tSpanS_law hown HKL.out
      clear hme
      clear hown1 hbel1
      generalize xs.getD k tSpanS.d = x at *
      generalize xs.take k ++ List.replicate (xs.length - k) tSpanS.d = ys at *
      obtain ⟨u, rfl, h0⟩ := hR
      have p0 : wr.cell? ⟨b, off + k, none⟩ = some u := by have := hcs 0 Nat.one_pos; rw [show tSpanS.n = 1 from rfl, Nat.mul_one, Nat.add_zero] at this; exact this
      have HC := Lib.hid (fun w g => toSpanS_S u x w g hzx)
      have G0 := Lib.hid h0
      clear hcs h0
      go_wp2_with fail
      refine (HC.out _ G0.out).mono ?_
      rintro e w2 ⟨u2, rfl, ow0, b2⟩
      replace ow0 := slO_lt tSpan_law ow0
      obtain ⟨ua, uc, rfl⟩ := slO_len ow0
      have ow : tSpanS.O w2 (fun b => since wr b ∧ b < w2.heap.size) [.slice ua x.length uc] x := ⟨_, rfl, ow0⟩
      have r0 := row_turn (G := fun _ => False) hrow (turn_below b2) (fun _ _ => not_false)
      rw [HLL.out] at r0
      have q0 : ∃ x, w2.cell? ⟨w.heap.size, k, none⟩ = some x := ⟨_, (World.ownsRow.cellAt r0 (k) (by have := HKL.out; rw [HLL.out] at this; show _ < xs.length * 1; omega)).trans (List.getElem?_eq_getElem (by have h1 : Lc.length = xs.length * 1 := r0.1; omega))⟩
      obtain ⟨y0, q0⟩ := q0
      have f0 := World.ownsRow.frozenAt r0 (k)
      have b3 := hbel.trans (b2.mono hbel.size)
      have B3 := Lib.hid (b3.setCell (p := ⟨w.heap.size, k, none⟩) (Nat.le_refl _) (.slice ua x.length uc))
      have hT : Turn (fun b => b = w.heap.size ∨ Fj b ∨ wr.heap.size ≤ b) wr (w2.setCell ⟨w.heap.size, k, none⟩ (.slice ua x.length uc)) := ((turn_below b2).trans (turn_set (j := k) (u := .slice ua x.length uc) (Or.inl rfl)))
      have hT2 : Turn (fun b => b = w.heap.size) w2 (w2.setCell ⟨w.heap.size, k, none⟩ (.slice ua x.length uc)) := ((Turn.refl (fun b => b = w.heap.size) _).trans (turn_set (G := fun b => b = w.heap.size) (j := k) (u := .slice ua x.length uc) rfl))
      have hO2 := tSpanS_law.turn ow hT2 (fun b h1 h2 => by have := h1.1; simp only [since] at this; omega)
      have r9 := (World.ownsRow.stored r0 (k) (.slice ua x.length uc)).1
      have hLl : Lc.length = xs.length * 1 := r0.1
      have hst := Lib.hid (hput (w2.setCell ⟨w.heap.size, k, none⟩ (.slice ua x.length uc)) (Lc.set (k) (.slice ua x.length uc)) [.slice ua x.length uc] _ x (by rw [HLL.out]; exact r9) (fun p hp => by have hp2 : p < k * 1 ∨ k * 1 + 1 ≤ p := hp; rw [List.getElem?_set_ne (by omega)]) (fun i hi => by have hi2 : i < 1 := hi; obtain rfl : i = 0 := (by omega); have e0 : k * tSpanS.n + 0 = k := (by show k * 1 + 0 = k; omega); rw [e0]; exact List.getElem?_set_self (by omega)) hO2 (fun b hb => ⟨Nat.le_trans hbel.size hb.1, Or.inr hb.1⟩) hT)
      have hst2 : SlO 77 tSpanS (w2.setCell ⟨w.heap.size, k, none⟩ (.slice ua x.length uc)) (since w) (.slice (some ⟨w.heap.size, 0, none⟩) xs.length xs.length) (xs.take (k + 1) ++ List.replicate (xs.length - (k + 1)) tSpanS.d) := by have := hst.out; rw [HSET.out] at this; exact this
      have HST := Lib.hid hst2
      clear hst hst2 hT hT2 hO2 r9 r0 hrow hO hput hown hbel b2 ow b3 hLl hLc hFj
      go_wp2
      go_roundw
      case rel => exact ⟨k + 1, by omega, by go_num, HST.out, B3.out⟩
      case measure => simp [intOf]; omega
    · obtain rfl : k = xs.length := by omega
      have HE : Hid (xs.take xs.length ++ List.replicate (xs.length - xs.length) tSpanS.d = xs) := Lib.hid (by simp)
      rw [HE.out] at hown
      go_wp2
      go_ret
      exact ⟨_, rfl, hown, hbel⟩
set_option maxHeartbeats 8000000 in
set_option maxRecDepth 100000 in
theorem eqSpanSS_S (v u : Value) (xs : List (List (Int × Int × List Int))) (w : World) (h : SlR tSpanS w v xs) (g : SlR tSpanS w u xs) (hs : zL tSpanS xs ≤ 1048576) :
    Calls Tryd.prog 81 #[v, u] w fun e w' => e = .returned (.bool true) ∧ Below w.heap.size w w' := by
  have H := Lib.hid h
  have G := Lib.hid g
  have HS := Lib.hid hs
  have hlen := zL_len hs
  obtain ⟨a, cap, rfl⟩ := slR_len h
  obtain ⟨a2, cap2, rfl⟩ := slR_len g
  clear h g hs
  go_enter Tryd.func81, Tryd.ntmps81
  go_wp2
  go_loopw [5] (fun i wr => ∃ k : Nat, k ≤ xs.length ∧ i = .int .i64 k ∧ Below w.heap.size w wr) (fun i _ => xs.length - (intOf i).toNat)
  case atStart => exact ⟨0, Nat.zero_le _, rfl, Below.refl _ _⟩
  case round =>
    obtain ⟨k, hk, rfl, hbel⟩ := hrel
    by_cases hlt : k < xs.length
    · obtain ⟨b, off, cap', cs, hv, hbl, hcs, hR⟩ := slR_at (slR_below tSpanS_law H.out hbel) hlt
      simp only [Value.slice.injEq] at hv
      obtain ⟨rfl, _, rfl⟩ := hv
      obtain ⟨b2, off2, cap2', ds, hv2, hbl2, hds, hQ⟩ := slR_at (slR_below tSpanS_law G.out hbel) hlt
      simp only [Value.slice.injEq] at hv2
      obtain ⟨rfl, _, rfl⟩ := hv2
      have hzx := zL_at HS.out hlt
      have i1 : (0 : Int) ≤ (k : Int) := by omega
      have i2 : (k : Int) < (xs.length : Int) := by omega
      generalize xs.getD k tSpanS.d = x at *
      obtain ⟨u1, rfl, h0⟩ := hR
      obtain ⟨u2, rfl, g0⟩ := hQ
      have p0 : wr.cell? ⟨b, off + k, none⟩ = some u1 := by have := hcs 0 Nat.one_pos; rw [show tSpanS.n = 1 from rfl, Nat.mul_one, Nat.add_zero] at this; exact this
      have q0 : wr.cell? ⟨b2, off2 + k, none⟩ = some u2 := by have := hds 0 Nat.one_pos; rw [show tSpanS.n = 1 from rfl, Nat.mul_one, Nat.add_zero] at this; exact this
      have S0 := Lib.hid hzx
      clear hcs hds hzx
      go_wp2
      go_region_with (first | (go_at_call 127; refine (eqSpanS_S u1 u2 x _ (by exact slR_same tSpan_law h0 rfl rfl rfl rfl) (by exact slR_same tSpan_law g0 rfl rfl rfl rfl) S0.out).mono ?_; rintro e w8 ⟨rfl, b9⟩; have b10 : Below wr.heap.size wr w8 := ⟨b9.os, b9.tape, b9.output, b9.size, b9.block⟩))
      all_goals
        have b11 := hbel.trans (b10.mono hbel.size)
        go_wp2
        go_roundw
        case rel => exact ⟨k + 1, by omega, by go_num, b11⟩
        case measure => simp [intOf]; omega
    · go_wp2
      go_ret
      exact ⟨rfl, hbel⟩
set_option maxHeartbeats 8000000 in
set_option maxRecDepth 100000 in
theorem markSpanSS_S (v : Value) (xs : List (List (Int × Int × List Int))) (F : Nat → Prop) (k : Int) (w : World) (h : SlO 77 tSpanS w F v xs) (hs : zL tSpanS xs ≤ 1048576) (k0 : 0 ≤ k) (k1 : k ≤ 939524096) :
    Calls Tryd.prog 83 #[v, .int .i64 k] w fun e w' => e = .returned (.int .i64 (k + (ndL tSpanS xs : Int))) ∧ SlO 77 tSpanS w' F v (mAll tSpanS xs k) ∧ Turn F w w' := by
  rw [← kAt_all]
  have HS := Lib.hid hs
  have hlen := zL_len hs
  rcases slO_form h with ⟨rfl, rfl⟩ | ⟨g, cap, rfl, hFg, hgw⟩
  · have H := Lib.hid h
    clear h hs
    go_enter Tryd.func83, Tryd.ntmps83
    go_wp2
    go_loop [1, 5] (fun m i => i = .int .i64 0 ∧ m = .int .i64 k) (fun _ _ => 0)
    case atStart => exact ⟨rfl, rfl⟩
    case round =>
      obtain ⟨rfl, rfl⟩ := hrel
      go_wp2
      go_ret
      exact ⟨by simp [kAt, sumN], by rw [show mAll tSpanS [] k = [] from rfl]; exact H.out, Turn.refl _ _⟩
  · have H := Lib.hid h
    clear h hs
    go_enter Tryd.func83, Tryd.ntmps83
    go_wp2
    go_loopw [1, 5] (fun m i wr => ∃ j : Nat, j ≤ xs.length ∧ i = .int .i64 j ∧ m = .int .i64 (kAt tSpanS xs k j) ∧ SlO 77 tSpanS wr (fun b => F b ∧ b < w.heap.size) (.slice (some ⟨g, 0, none⟩) xs.length cap) (mTo tSpanS xs k j) ∧ Turn F w wr) (fun _ i _ => xs.length - (intOf i).toNat)
    case atStart => exact ⟨0, Nat.zero_le _, rfl, by rw [kAt_zero], by rw [mTo_zero]; exact slO_lt tSpanS_law H.out, Turn.refl _ _⟩
    case round =>
      obtain ⟨j, hj, rfl, rfl, hown, hon⟩ := hrel
      by_cases hlt : j < xs.length
      · have i1 : (0 : Int) ≤ (j : Int) := by omega
        have i2 : (j : Int) < (xs.length : Int) := by omega
        have hjl : j < (mTo tSpanS xs k j).length := by rw [mTo_len hj]; exact hlt
        have HLL := Lib.hid (mTo_len (T := tSpanS) (k := k) hj)
        obtain ⟨r1, r2⟩ := kAt_range tSpanS_law (by decide) (k := k) HS.out hj
        obtain ⟨r3, r4⟩ := kAt_range tSpanS_law (by decide) (k := k) (j := j + 1) HS.out (by omega)
        have hzx := zL_at HS.out hlt
        have hstep := kAt_step (T := tSpanS) (k := k) hlt
        have hset := mTo_step (T := tSpanS) (k := k) hlt
        have hsz := hon.size
        obtain ⟨hme, hFg2, hgl, cj, Fj, Lc, hrow, hLc, hO, hFj, hput⟩ := slO_open tSpanS_law hown hjl
        clear hme hFg2
        rw [mTo_at hlt] at hO
        have HM : Hid (∃ m', kAt tSpanS xs k (j + 1) = m') := Lib.hid ⟨_, rfl⟩
        obtain ⟨m', hm'⟩ := HM.out
        rw [hm'] at hstep r3 r4
        have HM' := Lib.hid hm'
        clear hm' HM H hown hjl
        generalize kAt tSpanS xs k j = m at *
        generalize xs.getD j tSpanS.d = x at *
        rw [HLL.out] at hrow hput
        have hmm : m + (ndL tSpan x : Int) = m' := hstep.symm
        have HMM := Lib.hid hmm
        have HSET := Lib.hid hset
        have S0 := Lib.hid hzx
        clear hmm hstep hset hzx
        obtain ⟨u, rfl, o0⟩ := hO
        have cv : wr.cell? ⟨g, j, none⟩ = some u := (World.ownsRow.cellAt hrow j (by show j < xs.length * 1; omega)).trans (by have := hLc 0 Nat.one_pos; rw [show tSpanS.n = 1 from rfl, Nat.mul_one, Nat.add_zero] at this; exact this)
        go_wp2_with fail
        clear cv
        refine (markSpanS_S u x _ m wr o0 S0.out (by omega) (by omega)).mono ?_
        rintro e w1 ⟨rfl, m0, t1⟩
        have rr := row_turn hrow t1 (fun b hb h => by simp [Value.ownBlock] at hb; exact (hFj b h).2.1 hb.symm)
        have hst := hput w1 Lc [u] Fj _ rr (fun p hp => rfl) hLc ⟨u, rfl, m0⟩ (fun b hb => ⟨(hFj b hb).1, Or.inl hb⟩) (t1.mono (fun b h => Or.inr (Or.inl h)))
        have HE : Hid (tSpanS.md x m = mAll tSpan x m) := Lib.hid rfl
        rw [← HE.out, HSET.out] at hst
        have HST := Lib.hid hst
        have hon2 := hon.trans (t1.mono (fun b h => (hFj b h).1.1))
        rw [HMM.out]
        clear hst hput rr m0 t1 hon hFj hLc o0 hrow
        go_wp2
        go_roundw
        case rel => exact ⟨j + 1, by omega, by go_num, by rw [HM'.out], HST.out, hon2⟩
        case measure => simp [intOf]; omega
      · obtain rfl : j = xs.length := by omega
        rw [mTo_all] at hown
        go_wp2
        go_ret
        exact ⟨rfl, slO_mono hown (fun b h => h.1), hon⟩
end Go.Proofs.YtidhmgboknffkaaDoor
namespace Go.Proofs.YtidhmgboknffkaaDoor
open Go.RowKit
set_option linter.unusedVariables false
set_option linter.unusedSimpArgs false
def tCond : Ty (Int × Int × Int) := tPair tInt (tPair tInt tInt)
theorem tCond_law : tCond.Law := tPair_law tInt_law (tPair_law tInt_law tInt_law)
theorem tCond_R {w : World} {cs : List Value} {a0 : Int} {a1 : Int} {a2 : Int} (h : tCond.R w cs (a0, a1, a2)) : cs = [.int .i64 a0, .int .i64 a1, .int .i64 a2] := by
  obtain ⟨_, _, rfl, rfl, ⟨_, _, rfl, rfl, rfl⟩⟩ := h
  rfl
theorem tCond_nd {a0 : Int} {a1 : Int} {a2 : Int} : tCond.nd (a0, a1, a2) = 3 := by
  simp only [tCond, tPair_sz, tPair_nd, tPair_nv, tInt_sz, tInt_nd, tInt_nv, tSl_sz, tSl_nd, tSl_nv]
  try omega
theorem tCond_md {a0 : Int} {a1 : Int} {a2 : Int} {k : Int} : tCond.md (a0, a1, a2) k = ((k), (k + 1), (k + 1 + 1)) := by
  simp only [tCond, tPair_md, tPair_mv, tPair_nd, tPair_nv, tInt_md, tInt_mv, tInt_nd, tInt_nv, tSl_md, tSl_mv, tSl_nd, tSl_nv, Int.natCast_add, Int.natCast_zero, Int.natCast_one, Int.add_zero, Int.zero_add, Int.add_assoc]
theorem tCond_O {w : World} {F : Nat → Prop} {cs : List Value} {a0 : Int} {a1 : Int} {a2 : Int} (h : tCond.O w F cs (a0, a1, a2)) : cs = [.int .i64 a0, .int .i64 a1, .int .i64 a2] := by
  obtain ⟨_, _, F0_1, F0_2, rfl, rfl, ⟨_, _, F1_1, F1_2, rfl, rfl, rfl, s1_1, s1_2, d1⟩, s0_1, s0_2, d0⟩ := h
  rfl
theorem tCond_mkO {w : World} {F : Nat → Prop} {a0 : Int} {a1 : Int} {a2 : Int}    : tCond.O w F [.int .i64 a0, .int .i64 a1, .int .i64 a2] (a0, a1, a2) := ⟨[.int .i64 a0], [.int .i64 a1, .int .i64 a2], fun _ => False, fun _ => False, rfl, rfl, ⟨[.int .i64 a1], [.int .i64 a2], fun _ => False, fun _ => False, rfl, rfl, rfl, (fun b h => (False.elim h)), (fun b h => (False.elim h)), (fun b h g => (False.elim h))⟩, (fun b h => (False.elim h)), (fun b h => (False.elim h)), (fun b h g => (False.elim h))⟩
set_option maxHeartbeats 8000000 in
set_option maxRecDepth 100000 in
theorem toCond_T (a0 a1 a2 : Int) (w : World)   :
    Calls Tryd.prog 165 #[.agg #[.int .i64 a0, .int .i64 a1, .int .i64 a2]] w (FreshT tCond (fun cs => .agg cs.toArray) w (a0, a1, a2)) := by
  go_enter Tryd.func165, Tryd.ntmps165
  go_wp2
  exact bodyPost_ret (v := .agg #[.int .i64 a0, .int .i64 a1, .int .i64 a2]) (by simp [results, Tryd.f165, go_sem]) rfl ⟨[.int .i64 a0, .int .i64 a1, .int .i64 a2], rfl, tCond_mkO, (((Below.refl _ w).alloc (Nat.le_refl _) _).alloc (by simp) _).alloc (by simp; omega) _⟩
set_option maxHeartbeats 8000000 in
set_option maxRecDepth 100000 in
theorem eqCond_T (a0 a1 a2 : Int) (w : World) :
    Calls Tryd.prog 166 #[.agg #[.int .i64 a0, .int .i64 a1, .int .i64 a2], .agg #[.int .i64 a0, .int .i64 a1, .int .i64 a2]] w fun e w' => e = .returned (.bool true) ∧ Below w.heap.size w w' := by
  have e0 : (a0 != a0) = false := by simp
  have e1 : (a1 != a1) = false := by simp
  have e2 : (a2 != a2) = false := by simp
  go_enter Tryd.func166, Tryd.ntmps166
  go_wp2
  go_ret
  exact ⟨rfl, ((Below.refl _ w).alloc (Nat.le_refl _) _).alloc (by simp) _⟩
end Go.Proofs.YtidhmgboknffkaaDoor
namespace Go.Proofs.YtidhmgboknffkaaDoor
open Go.RowKit
set_option linter.unusedVariables false
set_option linter.unusedSimpArgs false
abbrev tCondS : Ty (List (Int × Int × Int)) := tSl 115 tCond
theorem tCondS_law : tCondS.Law := tSl_law tCond_law (by decide)
set_option maxHeartbeats 8000000 in
set_option maxRecDepth 100000 in
theorem szCondS_Y (v : Value) (xs : List (Int × Int × Int)) (k0 : Int) (w : World) (h : SlR tCond w v xs) (hs : ((zL tCond xs : Nat) : Int) ≤ k0) (hk : k0 ≤ 1048576) :
    Calls Tryd.prog 151 #[v, .int .i64 k0] w fun e w' => e = .returned (.int .i64 (k0 - ((zL tCond xs : Nat) : Int))) ∧ Below w.heap.size w w' := by
  have hz : zL tCond xs = xs.length := zL_flat (fun _ => rfl) xs
  rw [hz] at hs ⊢
  obtain ⟨a, cap, rfl⟩ := slR_len h
  clear h hz
  have h0 : ¬ k0 - (xs.length : Int) < 0 := by omega
  go_enter Tryd.func151, Tryd.ntmps151
  go_wp2
  go_ret
  exact ⟨rfl, Below.refl _ _⟩
set_option maxHeartbeats 8000000 in
set_option maxRecDepth 100000 in
theorem szCondS_N (v : Value) (xs : List (Int × Int × Int)) (k0 : Int) (w : World) (h : SlR tCond w v xs) (hs : k0 < ((zL tCond xs : Nat) : Int)) (hk : k0 ≤ 1048576) (hp : 0 ≤ k0) (ho : tCondS.ok xs) :
    Calls Tryd.prog 151 #[v, .int .i64 k0] w fun e w' => e = .returned (.int .i64 (-1)) ∧ Below w.heap.size w w' := by
  have hz : zL tCond xs = xs.length := zL_flat (fun _ => rfl) xs
  rw [hz] at hs
  obtain ⟨a, cap, rfl⟩ := slR_len h
  have hn := ho.1
  clear h hz ho
  have h0 : k0 - (xs.length : Int) < 0 := by omega
  go_enter Tryd.func151, Tryd.ntmps151
  go_wp2
  go_ret
  exact ⟨rfl, Below.refl _ _⟩
theorem Tryd.info_Cond : (Tryd.prog.info? 115).map (fun i => (i.zero, i.size)) = some (some (.agg #[.int .i64 0, .int .i64 0, .int .i64 0]), 3) := by kernel_rfl
theorem Tryd.bytes_Cond : ((Tryd.prog.info? 115).map (fun i => decide (i.bytes ≤ 512))) = some true := by kernel_rfl
theorem tCond_zero (w : World) : tCond.O w (fun _ => False) #[.int .i64 0, .int .i64 0, .int .i64 0].toList tCond.d := tCond_mkO   
set_option maxHeartbeats 8000000 in
set_option maxRecDepth 100000 in
theorem toCondS_S (v : Value) (xs : List (Int × Int × Int)) (w : World) (h : SlR tCond w v xs) (hs : zL tCond xs ≤ 1048576) :
    Calls Tryd.prog 153 #[v] w (FreshS 115 tCond w xs) := by
  obtain ⟨i0, hi, hz0, hz1⟩ : ∃ i0, Tryd.prog.info? 115 = some i0 ∧ i0.zero = some (.agg #[.int .i64 0, .int .i64 0, .int .i64 0]) ∧ i0.size = 3 := by
    have h0 := Tryd.info_Cond
    cases q : Tryd.prog.info? 115 with
    | none => rw [q] at h0; simp at h0
    | some i => rw [q] at h0; simp only [Option.map_some, Option.some.injEq, Prod.mk.injEq] at h0; exact ⟨i, rfl, h0.1, h0.2⟩
  have hz2 : i0.bytes ≤ 512 := by
    have h0 := Tryd.bytes_Cond
    rw [hi] at h0
    simpa using h0
  have HI := Lib.hid hi; have HZ0 := Lib.hid hz0; have HZ1 := Lib.hid hz1; have HZ2 := Lib.hid hz2
  clear hi hz0 hz1 hz2
  have H := Lib.hid h
  have hlen := zL_len hs
  have HS := Lib.hid hs
  obtain ⟨a, cap, rfl⟩ := slR_len h
  clear h hs
  go_enter Tryd.func153, Tryd.ntmps153
  go_wp2_with (at_make; refine wpList_make_full _ rfl (.tmp 6) (.tmp 6) 42 rfl w.heap.size 115 i0 (.agg #[.int .i64 0, .int .i64 0, .int .i64 0]) 3 Tryd.underlying42 HI.out HZ0.out HZ1.out _ _ _ _ xs.length rfl rfl rfl rfl (by have h9 := Nat.mul_le_mul HZ2.out hlen; have h8 := Nat.mul_le_mul hlen HZ2.out; omega) (by unfold maxLen; omega) (Nat.le_refl _) ?_)
  intro w1 hown0 hg0
  have hown1 : SlO 115 tCond w1 (since w) (.slice (some ⟨w.heap.size, 0, none⟩) xs.length xs.length) (List.replicate xs.length tCond.d) := slO_made (z := #[.int .i64 0, .int .i64 0, .int .i64 0]) tCond_law rfl (tCond_zero w1) (Nat.le_refl _) hown0
  have hbel1 := (Below.refl w.heap.size w).grown hg0 (Nat.le_refl _) (fun k hk => by cases hk)
  clear hown0 hg0
  go_wp2
  go_loopw [4] (fun i wr => ∃ k : Nat, k ≤ xs.length ∧ i = .int .i64 k ∧ SlO 115 tCond wr (since w) (.slice (some ⟨w.heap.size, 0, none⟩) xs.length xs.length) (xs.take k ++ List.replicate (xs.length - k) tCond.d) ∧ Below w.heap.size w wr) (fun i _ => xs.length - (intOf i).toNat)
  case atStart => exact ⟨0, Nat.zero_le _, rfl, by simpa using hown1, hbel1⟩
  case round =>
    obtain ⟨k, hk, rfl, hown, hbel⟩ := hrel
    by_cases hlt : k < xs.length
    · have HSET := Lib.hid (cTo_step (d := tCond.d) hlt)
      have HKL : Hid (k < (xs.take k ++ List.replicate (xs.length - k) tCond.d).length) := Lib.hid (by rw [cTo_len hk]; exact hlt)
      have HLL := Lib.hid (cTo_len (d := tCond.d) hk)
      have i1 : (0 : Int) ≤ (k : Int) := by omega
      have i2 : (k : Int) < (xs.length : Int) := by omega
      have hzx := zL_at HS.out hlt
      obtain ⟨b, off, cap', cs, hv, hbl, hcs, hR⟩ := slR_at (slR_below tCond_law H.out hbel) hlt
      simp only [Value.slice.injEq] at hv
      obtain ⟨rfl, _, rfl⟩ := hv
      obtain ⟨hme, hFg, hgl, cj, Fj, Lc, hrow, hLc, hO, hFj, hput⟩ := slO_open tCond_law hown HKL.out
      clear hme
      clear hown1 hbel1
      generalize xs.getD k tCond.d = x at *
      generalize xs.take k ++ List.replicate (xs.length - k) tCond.d = ys at *
      obtain ⟨a0, a1, a2⟩ := x
      obtain rfl := tCond_R hR
      have p0 : wr.cell? ⟨b, off + k * 3, none⟩ = some (Value.int .i64 a0) := hcs 0 (by decide)
      have p1 : wr.cell? ⟨b, off + k * 3 + 1, none⟩ = some (Value.int .i64 a1) := hcs 1 (by decide)
      have p2 : wr.cell? ⟨b, off + k * 3 + 2, none⟩ = some (Value.int .i64 a2) := hcs 2 (by decide)
      have HC := Lib.hid (fun w => toCond_T a0 a1 a2 w  )
      clear hcs hzx
      go_wp2_with fail
      refine (HC.out _).mono ?_
      rintro e w2 ⟨cv, rfl, ow, b2⟩
      replace ow := tCond_law.lt ow
      obtain rfl := tCond_O ow
      have r0 := row_turn (G := fun _ => False) hrow (turn_below b2) (fun _ _ => not_false)
      rw [HLL.out] at r0
      have q0 : ∃ x, w2.cell? ⟨w.heap.size, k * 3, none⟩ = some x := ⟨_, (World.ownsRow.cellAt r0 (k * 3) (by have := HKL.out; rw [HLL.out] at this; show _ < xs.length * 3; omega)).trans (List.getElem?_eq_getElem (by have h1 : Lc.length = xs.length * 3 := r0.1; omega))⟩
      obtain ⟨y0, q0⟩ := q0
      have f0 := World.ownsRow.frozenAt r0 (k * 3)
      have q1 : ∃ x, w2.cell? ⟨w.heap.size, k * 3 + 1, none⟩ = some x := ⟨_, (World.ownsRow.cellAt r0 (k * 3 + 1) (by have := HKL.out; rw [HLL.out] at this; show _ < xs.length * 3; omega)).trans (List.getElem?_eq_getElem (by have h1 : Lc.length = xs.length * 3 := r0.1; omega))⟩
      obtain ⟨y1, q1⟩ := q1
      have f1 := World.ownsRow.frozenAt r0 (k * 3 + 1)
      have q2 : ∃ x, w2.cell? ⟨w.heap.size, k * 3 + 2, none⟩ = some x := ⟨_, (World.ownsRow.cellAt r0 (k * 3 + 2) (by have := HKL.out; rw [HLL.out] at this; show _ < xs.length * 3; omega)).trans (List.getElem?_eq_getElem (by have h1 : Lc.length = xs.length * 3 := r0.1; omega))⟩
      obtain ⟨y2, q2⟩ := q2
      have f2 := World.ownsRow.frozenAt r0 (k * 3 + 2)
      have b3 := hbel.trans (b2.mono hbel.size)
      have B3 := Lib.hid (((b3.setCell (p := ⟨w.heap.size, k * 3, none⟩) (Nat.le_refl _) (.int .i64 a0)).setCell (p := ⟨w.heap.size, k * 3 + 1, none⟩) (Nat.le_refl _) (.int .i64 a1)).setCell (p := ⟨w.heap.size, k * 3 + 2, none⟩) (Nat.le_refl _) (.int .i64 a2))
      have hT : Turn (fun b => b = w.heap.size ∨ Fj b ∨ wr.heap.size ≤ b) wr (((w2.setCell ⟨w.heap.size, k * 3, none⟩ (.int .i64 a0)).setCell ⟨w.heap.size, k * 3 + 1, none⟩ (.int .i64 a1)).setCell ⟨w.heap.size, k * 3 + 2, none⟩ (.int .i64 a2)) := ((((turn_below b2).trans (turn_set (j := k * 3) (u := .int .i64 a0) (Or.inl rfl))).trans (turn_set (j := k * 3 + 1) (u := .int .i64 a1) (Or.inl rfl))).trans (turn_set (j := k * 3 + 2) (u := .int .i64 a2) (Or.inl rfl)))
      have hT2 : Turn (fun b => b = w.heap.size) w2 (((w2.setCell ⟨w.heap.size, k * 3, none⟩ (.int .i64 a0)).setCell ⟨w.heap.size, k * 3 + 1, none⟩ (.int .i64 a1)).setCell ⟨w.heap.size, k * 3 + 2, none⟩ (.int .i64 a2)) := ((((Turn.refl (fun b => b = w.heap.size) _).trans (turn_set (G := fun b => b = w.heap.size) (j := k * 3) (u := .int .i64 a0) rfl)).trans (turn_set (G := fun b => b = w.heap.size) (j := k * 3 + 1) (u := .int .i64 a1) rfl)).trans (turn_set (G := fun b => b = w.heap.size) (j := k * 3 + 2) (u := .int .i64 a2) rfl))
      have hO2 := tCond_law.turn ow hT2 (fun b h1 h2 => by have := h1.1; simp only [since] at this; omega)
      have r9 := (World.ownsRow.stored (World.ownsRow.stored (World.ownsRow.stored r0 (k * 3) (.int .i64 a0)).1 (k * 3 + 1) (.int .i64 a1)).1 (k * 3 + 2) (.int .i64 a2)).1
      have hLl : Lc.length = xs.length * 3 := r0.1
      have hst := Lib.hid (hput (((w2.setCell ⟨w.heap.size, k * 3, none⟩ (.int .i64 a0)).setCell ⟨w.heap.size, k * 3 + 1, none⟩ (.int .i64 a1)).setCell ⟨w.heap.size, k * 3 + 2, none⟩ (.int .i64 a2)) (((Lc.set (k * 3) (.int .i64 a0)).set (k * 3 + 1) (.int .i64 a1)).set (k * 3 + 2) (.int .i64 a2)) [.int .i64 a0, .int .i64 a1, .int .i64 a2] _ (a0, a1, a2) (by rw [HLL.out]; exact r9) (fun p hp => by have hp2 : p < k * 3 ∨ k * 3 + 3 ≤ p := hp; rw [List.getElem?_set_ne (by omega)]; rw [List.getElem?_set_ne (by omega)]; rw [List.getElem?_set_ne (by omega)]) (fun i hi => by have hi' : i < 3 := hi; match i, hi' with | 0, _ => (show ((((Lc.set (k * 3) (.int .i64 a0)).set (k * 3 + 1) (.int .i64 a1)).set (k * 3 + 2) (.int .i64 a2)))[k * 3]? = _; rw [List.getElem?_set_ne (by omega)]; rw [List.getElem?_set_ne (by omega)]; rw [List.getElem?_set_self (by first | omega | (simp only [List.length_set]; omega))]; rfl) | 1, _ => (show ((((Lc.set (k * 3) (.int .i64 a0)).set (k * 3 + 1) (.int .i64 a1)).set (k * 3 + 2) (.int .i64 a2)))[k * 3 + 1]? = _; rw [List.getElem?_set_ne (by omega)]; rw [List.getElem?_set_self (by first | omega | (simp only [List.length_set]; omega))]; rfl) | 2, _ => (show ((((Lc.set (k * 3) (.int .i64 a0)).set (k * 3 + 1) (.int .i64 a1)).set (k * 3 + 2) (.int .i64 a2)))[k * 3 + 2]? = _; rw [List.getElem?_set_self (by first | omega | (simp only [List.length_set]; omega))]; rfl)) hO2 (fun b hb => ⟨Nat.le_trans hbel.size hb.1, Or.inr hb.1⟩) hT)
      have hst2 : SlO 115 tCond (((w2.setCell ⟨w.heap.size, k * 3, none⟩ (.int .i64 a0)).setCell ⟨w.heap.size, k * 3 + 1, none⟩ (.int .i64 a1)).setCell ⟨w.heap.size, k * 3 + 2, none⟩ (.int .i64 a2)) (since w) (.slice (some ⟨w.heap.size, 0, none⟩) xs.length xs.length) (xs.take (k + 1) ++ List.replicate (xs.length - (k + 1)) tCond.d) := by have := hst.out; rw [HSET.out] at this; exact this
      have HST := Lib.hid hst2
      clear hst hst2 hT hT2 hO2 r9 r0 hrow hO hput hown hbel b2 ow b3 hLl hLc hFj
      go_wp2
      go_roundw
      case rel => exact ⟨k + 1, by omega, by go_num, HST.out, B3.out⟩
      case measure => simp [intOf]; omega
    · obtain rfl : k = xs.length := by omega
      have HE : Hid (xs.take xs.length ++ List.replicate (xs.length - xs.length) tCond.d = xs) := Lib.hid (by simp)
      rw [HE.out] at hown
      go_wp2
      go_ret
      exact ⟨_, rfl, hown, hbel⟩
set_option maxHeartbeats 8000000 in
set_option maxRecDepth 100000 in
theorem eqCondS_S (v u : Value) (xs : List (Int × Int × Int)) (w : World) (h : SlR tCond w v xs) (g : SlR tCond w u xs) (hs : zL tCond xs ≤ 1048576) :
    Calls Tryd.prog 155 #[v, u] w fun e w' => e = .returned (.bool true) ∧ Below w.heap.size w w' := by
  have H := Lib.hid h
  have G := Lib.hid g
  have HS := Lib.hid hs
  have hlen := zL_len hs
  obtain ⟨a, cap, rfl⟩ := slR_len h
  obtain ⟨a2, cap2, rfl⟩ := slR_len g
  clear h g hs
  go_enter Tryd.func155, Tryd.ntmps155
  go_wp2
  go_loopw [5] (fun i wr => ∃ k : Nat, k ≤ xs.length ∧ i = .int .i64 k ∧ Below w.heap.size w wr) (fun i _ => xs.length - (intOf i).toNat)
  case atStart => exact ⟨0, Nat.zero_le _, rfl, Below.refl _ _⟩
  case round =>
    obtain ⟨k, hk, rfl, hbel⟩ := hrel
    by_cases hlt : k < xs.length
    · obtain ⟨b, off, cap', cs, hv, hbl, hcs, hR⟩ := slR_at (slR_below tCond_law H.out hbel) hlt
      simp only [Value.slice.injEq] at hv
      obtain ⟨rfl, _, rfl⟩ := hv
      obtain ⟨b2, off2, cap2', ds, hv2, hbl2, hds, hQ⟩ := slR_at (slR_below tCond_law G.out hbel) hlt
      simp only [Value.slice.injEq] at hv2
      obtain ⟨rfl, _, rfl⟩ := hv2
      have hzx := zL_at HS.out hlt
      have i1 : (0 : Int) ≤ (k : Int) := by omega
      have i2 : (k : Int) < (xs.length : Int) := by omega
      generalize xs.getD k tCond.d = x at *
      obtain ⟨a0, a1, a2⟩ := x
      obtain rfl := tCond_R hR
      obtain rfl := tCond_R hQ
      have p0 : wr.cell? ⟨b, off + k * 3, none⟩ = some (Value.int .i64 a0) := hcs 0 (by decide)
      have q0 : wr.cell? ⟨b2, off2 + k * 3, none⟩ = some (Value.int .i64 a0) := hds 0 (by decide)
      have p1 : wr.cell? ⟨b, off + k * 3 + 1, none⟩ = some (Value.int .i64 a1) := hcs 1 (by decide)
      have q1 : wr.cell? ⟨b2, off2 + k * 3 + 1, none⟩ = some (Value.int .i64 a1) := hds 1 (by decide)
      have p2 : wr.cell? ⟨b, off + k * 3 + 2, none⟩ = some (Value.int .i64 a2) := hcs 2 (by decide)
      have q2 : wr.cell? ⟨b2, off2 + k * 3 + 2, none⟩ = some (Value.int .i64 a2) := hds 2 (by decide)
      clear hcs hds hzx
      go_wp2
      go_region_with (first | (go_at_call 166; refine (eqCond_T a0 a1 a2 _).mono ?_; rintro e w8 ⟨rfl, b9⟩; have b10 : Below wr.heap.size wr w8 := ⟨b9.os, b9.tape, b9.output, b9.size, b9.block⟩))
      all_goals
        have b11 := hbel.trans (b10.mono hbel.size)
        go_wp2
        go_roundw
        case rel => exact ⟨k + 1, by omega, by go_num, b11⟩
        case measure => simp [intOf]; omega
    · go_wp2
      go_ret
      exact ⟨rfl, hbel⟩
set_option maxHeartbeats 8000000 in
set_option maxRecDepth 100000 in
theorem markCondS_S (v : Value) (xs : List (Int × Int × Int)) (F : Nat → Prop) (k : Int) (w : World) (h : SlO 115 tCond w F v xs) (hs : zL tCond xs ≤ 1048576) (k0 : 0 ≤ k) (k1 : k ≤ 1006632960) :
    Calls Tryd.prog 128 #[v, .int .i64 k] w fun e w' => e = .returned (.int .i64 (k + (ndL tCond xs : Int))) ∧ SlO 115 tCond w' F v (mAll tCond xs k) ∧ Turn F w w' := by
  rw [← kAt_all]
  have HS := Lib.hid hs
  have hlen := zL_len hs
  rcases slO_form h with ⟨rfl, rfl⟩ | ⟨g, cap, rfl, hFg, hgw⟩
  · have H := Lib.hid h
    clear h hs
    go_enter Tryd.func128, Tryd.ntmps128
    go_wp2
    go_loop [1, 5] (fun m i => i = .int .i64 0 ∧ m = .int .i64 k) (fun _ _ => 0)
    case atStart => exact ⟨rfl, rfl⟩
    case round =>
      obtain ⟨rfl, rfl⟩ := hrel
      go_wp2
      go_ret
      exact ⟨by simp [kAt, sumN], by rw [show mAll tCond [] k = [] from rfl]; exact H.out, Turn.refl _ _⟩
  · have H := Lib.hid h
    clear h hs
    go_enter Tryd.func128, Tryd.ntmps128
    go_wp2
    go_loopw [1, 5] (fun m i wr => ∃ j : Nat, j ≤ xs.length ∧ i = .int .i64 j ∧ m = .int .i64 (kAt tCond xs k j) ∧ SlO 115 tCond wr (fun b => F b ∧ b < w.heap.size) (.slice (some ⟨g, 0, none⟩) xs.length cap) (mTo tCond xs k j) ∧ Turn F w wr) (fun _ i _ => xs.length - (intOf i).toNat)
    case atStart => exact ⟨0, Nat.zero_le _, rfl, by rw [kAt_zero], by rw [mTo_zero]; exact slO_lt tCond_law H.out, Turn.refl _ _⟩
    case round =>
      obtain ⟨j, hj, rfl, rfl, hown, hon⟩ := hrel
      by_cases hlt : j < xs.length
      · have i1 : (0 : Int) ≤ (j : Int) := by omega
        have i2 : (j : Int) < (xs.length : Int) := by omega
        have hjl : j < (mTo tCond xs k j).length := by rw [mTo_len hj]; exact hlt
        have HLL := Lib.hid (mTo_len (T := tCond) (k := k) hj)
        obtain ⟨r1, r2⟩ := kAt_range tCond_law (by decide) (k := k) HS.out hj
        obtain ⟨r3, r4⟩ := kAt_range tCond_law (by decide) (k := k) (j := j + 1) HS.out (by omega)
        have hzx := zL_at HS.out hlt
        have hstep := kAt_step (T := tCond) (k := k) hlt
        have hset := mTo_step (T := tCond) (k := k) hlt
        have hsz := hon.size
        obtain ⟨hme, hFg2, hgl, cj, Fj, Lc, hrow, hLc, hO, hFj, hput⟩ := slO_open tCond_law hown hjl
        clear hme hFg2
        rw [mTo_at hlt] at hO
        have HM : Hid (∃ m', kAt tCond xs k (j + 1) = m') := Lib.hid ⟨_, rfl⟩
        obtain ⟨m', hm'⟩ := HM.out
        rw [hm'] at hstep r3 r4
        have HM' := Lib.hid hm'
        clear hm' HM H hown hjl
        generalize kAt tCond xs k j = m at *
        generalize xs.getD j tCond.d = x at *
        rw [HLL.out] at hrow hput
        obtain ⟨a0, a1, a2⟩ := x
        rw [tCond_md] at hset
        rw [tCond_nd] at hstep
        obtain rfl := tCond_O hO
        have hmm : m + 1 + 1 + 1 = m' := by omega
        have HMM := Lib.hid hmm
        have hm0 : 0 ≤ m := by omega
        have hm1 : m ≤ 1073741824 := by omega
        clear hmm hstep hzx 
        have hLl : Lc.length = xs.length * 3 := hrow.1
        have HSET := Lib.hid hset
        clear hset
        have tt : Turn (fun b => b = g ∨ Fj b ∨ wr.heap.size ≤ b) wr wr := Turn.refl _ _
        have rr := hrow
        have c0 : ∃ x, wr.cell? ⟨g, j * 3, none⟩ = some x := ⟨_, (World.ownsRow.cellAt rr (j * 3) (by show j * 3 < xs.length * 3; omega)).trans (List.getElem?_eq_getElem (by have h9 := rr.1; have h8 : xs.length * tCond.n = xs.length * 3 := rfl; omega))⟩
        obtain ⟨y0, c0⟩ := c0
        have f0 := World.ownsRow.frozenAt rr (j * 3)
        have c1 : ∃ x, wr.cell? ⟨g, j * 3 + 1, none⟩ = some x := ⟨_, (World.ownsRow.cellAt rr (j * 3 + 1) (by show j * 3 + 1 < xs.length * 3; omega)).trans (List.getElem?_eq_getElem (by have h9 := rr.1; have h8 : xs.length * tCond.n = xs.length * 3 := rfl; omega))⟩
        obtain ⟨y1, c1⟩ := c1
        have f1 := World.ownsRow.frozenAt rr (j * 3 + 1)
        have c2 : ∃ x, wr.cell? ⟨g, j * 3 + 2, none⟩ = some x := ⟨_, (World.ownsRow.cellAt rr (j * 3 + 2) (by show j * 3 + 2 < xs.length * 3; omega)).trans (List.getElem?_eq_getElem (by have h9 := rr.1; have h8 : xs.length * tCond.n = xs.length * 3 := rfl; omega))⟩
        obtain ⟨y2, c2⟩ := c2
        have f2 := World.ownsRow.frozenAt rr (j * 3 + 2)
        go_wp2
        clear c0 f0 c1 f1 c2 f2
        have ts : Turn (fun b => b = g) wr (((wr.setCell ⟨g, j * 3, none⟩ (.int .i64 (m))).setCell ⟨g, j * 3 + 1, none⟩ (.int .i64 (m + 1))).setCell ⟨g, j * 3 + 2, none⟩ (.int .i64 (m + 1 + 1))) := ((((Turn.refl (fun b => b = g) _).trans (turn_set (G := fun b => b = g) (g := g) (j := j * 3) (u := .int .i64 (m)) rfl)).trans (turn_set (G := fun b => b = g) (g := g) (j := j * 3 + 1) (u := .int .i64 (m + 1)) rfl)).trans (turn_set (G := fun b => b = g) (g := g) (j := j * 3 + 2) (u := .int .i64 (m + 1 + 1)) rfl))
        replace rr := (World.ownsRow.stored (World.ownsRow.stored (World.ownsRow.stored rr (j * 3) (.int .i64 (m))).1 (j * 3 + 1) (.int .i64 (m + 1))).1 (j * 3 + 2) (.int .i64 (m + 1 + 1))).1
        replace tt := tt.trans (ts.mono (fun b h => Or.inl h))
        clear ts
        have hO2 : tCond.O (((wr.setCell ⟨g, j * 3, none⟩ (.int .i64 (m))).setCell ⟨g, j * 3 + 1, none⟩ (.int .i64 (m + 1))).setCell ⟨g, j * 3 + 2, none⟩ (.int .i64 (m + 1 + 1))) Fj [.int .i64 (m), .int .i64 (m + 1), .int .i64 (m + 1 + 1)] ((m), (m + 1), (m + 1 + 1)) := tCond_mkO
        have hst := hput (((wr.setCell ⟨g, j * 3, none⟩ (.int .i64 (m))).setCell ⟨g, j * 3 + 1, none⟩ (.int .i64 (m + 1))).setCell ⟨g, j * 3 + 2, none⟩ (.int .i64 (m + 1 + 1))) (((Lc.set (j * 3) (.int .i64 (m))).set (j * 3 + 1) (.int .i64 (m + 1))).set (j * 3 + 2) (.int .i64 (m + 1 + 1))) [.int .i64 (m), .int .i64 (m + 1), .int .i64 (m + 1 + 1)] Fj _ rr (fun p hp => by have hp2 : p < j * 3 ∨ j * 3 + 3 ≤ p := hp; rw [List.getElem?_set_ne (by omega)]; rw [List.getElem?_set_ne (by omega)]; rw [List.getElem?_set_ne (by omega)]) (fun i hi => by have hi' : i < 3 := hi; match i, hi' with | 0, _ => (show ((((Lc.set (j * 3) (.int .i64 (m))).set (j * 3 + 1) (.int .i64 (m + 1))).set (j * 3 + 2) (.int .i64 (m + 1 + 1))))[j * 3]? = _; rw [List.getElem?_set_ne (by omega)]; rw [List.getElem?_set_ne (by omega)]; rw [List.getElem?_set_self (by first | omega | (simp only [List.length_set]; omega))]; rfl) | 1, _ => (show ((((Lc.set (j * 3) (.int .i64 (m))).set (j * 3 + 1) (.int .i64 (m + 1))).set (j * 3 + 2) (.int .i64 (m + 1 + 1))))[j * 3 + 1]? = _; rw [List.getElem?_set_ne (by omega)]; rw [List.getElem?_set_self (by first | omega | (simp only [List.length_set]; omega))]; rfl) | 2, _ => (show ((((Lc.set (j * 3) (.int .i64 (m))).set (j * 3 + 1) (.int .i64 (m + 1))).set (j * 3 + 2) (.int .i64 (m + 1 + 1))))[j * 3 + 2]? = _; rw [List.getElem?_set_self (by first | omega | (simp only [List.length_set]; omega))]; rfl)) hO2 (fun b hb => ⟨(hFj b hb).1, Or.inl hb⟩) tt
        rw [HSET.out] at hst
        have HST := Lib.hid hst
        have hon2 := hon.trans (Turn.mono (G := fun b => F b ∧ b < w.heap.size) (G' := F) ⟨tt.os, tt.tape, tt.output, tt.size, fun b hb hn => tt.block b hb (fun h => hn (h.elim (fun h => by rw [h]; exact ⟨hFg, hgw⟩) (fun h => h.elim (fun h => (hFj b h).1) (fun h => absurd hb (Nat.not_lt.2 h)))))⟩ (fun b h => h.1))
        clear hst hput tt rr hO2 hon hFj hLc hLl
        go_roundw
        case rel => exact ⟨j + 1, by omega, by go_num, by rw [HMM.out]; rw [HM'.out], HST.out, hon2⟩
        case measure => simp [intOf]; omega
      · obtain rfl : j = xs.length := by omega
        rw [mTo_all] at hown
        go_wp2
        go_ret
        exact ⟨rfl, slO_mono hown (fun b h => h.1), hon⟩
end Go.Proofs.YtidhmgboknffkaaDoor
