/-
 Texts of the proof, merged: FindSpec, QuerySpec, QuerySl, QueryOwn.
-/
import Derived.Test.YtededfficggkaaaDoorI2
import Derived.Test.YtededfficggkaaaDoorI4
namespace Go.Proofs.YtededfficggkaaaDoor
open Go.RowKit
set_option linter.unusedVariables false
set_option linter.unusedSimpArgs false
def hitB (v : Int) (r : SpanD) : Bool := decide (r.1 ≤ v ∧ v ≤ r.2.1)
/-- The set of the first span that contains the value. -/
def findL (rs : List SpanD) (v : Int) : List Int := ((rs.find? (hitB v)).getD p0D).2.2
theorem find_none {rs : List SpanD} {v : Int} (h : ∀ j, j < rs.length → hitB v (rs.getD j p0D) = false) : findL rs v = [] := by
 unfold findL
 have : rs.find? (hitB v) = none := by
  rw [List.find?_eq_none]
  intro r hr
  obtain ⟨j, hj, rfl⟩ := List.getElem_of_mem hr
  have := h j hj
  have e : rs.getD j p0D = rs[j] := by simp [List.getD, hj]
  rw [e] at this; simp [this]
 rw [this]; rfl
theorem find_at {rs : List SpanD} {v : Int} {k : Nat} (hk : k < rs.length) (h : ∀ j, j < k → hitB v (rs.getD j p0D) = false) (hh : hitB v (rs.getD k p0D) = true) : findL rs v = (rs.getD k p0D).2.2 := by
 unfold findL
 have e : rs.getD k p0D = rs[k] := by simp [List.getD, hk]
 have : rs.find? (hitB v) = some rs[k] := by
  rw [List.find?_eq_some_iff_getElem]
  refine ⟨by rw [← e]; exact hh, k, hk, rfl, fun j hj => ?_⟩
  have h2 := h j hj
  have e2 : rs.getD j p0D = rs[j] := by simp [List.getD, Nat.lt_trans hj hk]
  rw [e2] at h2; simp [h2]
 rw [this, e]; rfl
theorem wpl_app_ints {w : World} {ops : Array Oper} {rest : List Oper} {o : Oper} {a : Act} {Q : Exit → Act → World → Prop} (hgd : o.guard = none) (s x : Operand)
  (ho : o.op = .call { callee := .builtin .append, args := #[s, x], argTypes := #[24, 24] })
  (B : Nat) (v u : Value) (xs ys : List Int) (hs : a.eval s = v) (hx : a.eval x = u) (hown : OwnsN w B v xs) (hu : Ints w u ys) (hB : B ≤ w.heap.size) (h63 : xs.length + ys.length ≤ 17592186044416)
  (h : ∀ v' w', OwnsN w' B v' (xs ++ ys) → Below B w w' → wpList Tryd.prog ops Q rest (a.put o.dst v') w') : wpList Tryd.prog ops Q (o :: rest) a w := by
 refine wpList_plain hgd fun K hK => ?_
 obtain ⟨v', w', hr, h2, h3⟩ := run_append_ints o.type hown hu hB h63
 unfold Oper.wp
 simp [execOp, ho, resolve, invoke, builtin, hs, hx, hr, Result.andThen]
 exact hK _ _ (h v' w' h2 h3)
set_option maxHeartbeats 16000000 in
set_option maxRecDepth 100000 in
theorem specFindSpan (va : Value) (rs : List SpanD) (v : Int) (w : World) (h : SpansR w va rs) (hx : ∀ j, j < rs.length → (rs.getD j p0D).2.2.length ≤ 1048576) (hn : rs.length ≤ 1048576) :
  Calls Tryd.prog 124 #[va, .int .i64 v] w (FreshInts w (findL rs v)) := by
 have H := Lib.hid h
 have HX := Lib.hid hx
 obtain ⟨a, cap, rfl⟩ := spansR_len h
 clear h hx
 go_enter Tryd.func124, Tryd.ntmps124
 go_wp2
 go_loopw [5] (fun i wr => ∃ k : Nat, k ≤ rs.length ∧ i = .int .i64 k ∧ Hid (∀ j, j < k → hitB v (rs.getD j p0D) = false) ∧ Below w.heap.size w wr) (fun i _ => rs.length - (intOf i).toNat)
 case atStart => exact ⟨0, Nat.zero_le _, rfl, Lib.hid (fun j hj => by omega), Below.refl _ _⟩
 case round =>
  obtain ⟨k, hk, rfl, hall, hbel⟩ := hrel
  by_cases hlt : k < rs.length
  ·
   obtain ⟨b, off, cap', vv, hv, hbl, hc1, hc2, hc3, hI⟩ := spansR_at (spansR_below H.out hbel) hlt
   simp only [Value.slice.injEq] at hv
   obtain ⟨rfl, _, rfl⟩ := hv
   obtain ⟨ua, uc, rfl⟩ := ints_len hI
   have hxl := HX.out k hlt
   have i1 : (0 : Int) ≤ (k : Int) := by omega
   have i2 : (k : Int) < (rs.length : Int) := by omega
   have HHIT := Lib.hid (fun e => find_at (v := v) hlt hall.out e)
   have HALL : Hid (hitB v (rs.getD k p0D) = false → ∀ j, j < k + 1 → hitB v (rs.getD j p0D) = false) := Lib.hid (fun he j hj => by
    by_cases e : j = k
    ·
     exact e ▸ he
    ·
     exact hall.out j (by omega))
   clear hall
   generalize rs.getD k p0D = r at *
   obtain ⟨sf, st, xs⟩ := r
   simp only at hc1 hc2 hc3 hI hxl HHIT
   have HII := Lib.hid hI
   have HXL := Lib.hid hxl
   clear hI hxl
   go_wp2
   by_cases hin : sf ≤ v ∧ v ≤ st
   ·
    have HF := Lib.hid (HHIT.out (by unfold hitB; exact decide_eq_true hin))
    have HIN := Lib.hid (fun w => in_yes v sf st w hin.1 hin.2)
    clear hin HALL HHIT
    refine wp_region_held_drew (S := fun w' => w'.cell? ⟨b, off + k * 3, none⟩ = some (.int .i64 sf) ∧ w'.cell? ⟨b, off + k * 3 + 1, none⟩ = some (.int .i64 st) ∧ w'.cell? ⟨b, off + k * 3 + 2, none⟩ = some (.slice ua xs.length uc)) (by kernel_rfl) ⟨hc1, hc2, hc3⟩ (fun hHeld => ?_)
    refine tR (i := 0) (v := ?_) ?_ ?_; rotate_left
    ·
     intro w hSw; (try dsimp only at hSw); go_simp; try (with_reducible rfl)
    try simp only [Act.put, lA, lB, lC]
    refine tR (i := 1) (v := ?_) ?_ ?_; rotate_left
    ·
     intro w hSw; (try dsimp only at hSw); go_simp; try (with_reducible rfl)
    try simp only [Act.put, lA, lB, lC]
    refine tR (i := 2) (v := ?_) ?_ ?_; rotate_left
    ·
     intro w hSw; (try dsimp only at hSw); go_simp; try (with_reducible rfl)
    try simp only [Act.put, lA, lB, lC]
    refine tR (i := 3) (v := ?_) ?_ ?_; rotate_left
    ·
     intro w hSw; (try dsimp only at hSw); go_simp; try (with_reducible rfl)
    try simp only [Act.put, lA, lB, lC]
    refine tR (i := 4) (v := ?_) ?_ ?_; rotate_left
    ·
     intro w hSw; (try dsimp only at hSw); go_simp; try (with_reducible rfl)
    try simp only [Act.put, lA, lB, lC]
    refine tR (i := 5) (v := ?_) ?_ ?_; rotate_left
    ·
     intro w hSw; (try dsimp only at hSw); go_simp; try (with_reducible rfl)
    try simp only [Act.put, lA, lB, lC]
    refine tR (i := 6) (v := ?_) ?_ ?_; rotate_left
    ·
     intro w hSw; (try dsimp only at hSw); go_simp; try (with_reducible rfl)
    try simp only [Act.put, lA, lB, lC]
    refine tR (i := 7) (v := ?_) ?_ ?_; rotate_left
    ·
     intro w hSw; (try dsimp only at hSw); go_simp; try (with_reducible rfl)
    try simp only [Act.put, lA, lB, lC]
    refine tR (i := 8) (v := ?_) ?_ ?_; rotate_left
    ·
     intro w hSw; (try dsimp only at hSw); go_simp; try (with_reducible rfl)
    try simp only [Act.put, lA, lB, lC]
    refine tR (i := 9) (v := ?_) ?_ ?_; rotate_left
    ·
     intro w hSw; (try dsimp only at hSw); go_simp; try (with_reducible rfl)
    try simp only [Act.put, lA, lB, lC]
    refine tR (i := 10) (v := ?_) ?_ ?_; rotate_left
    ·
     intro w hSw; (try dsimp only at hSw); go_simp; try (with_reducible rfl)
    try simp only [Act.put, lA, lB, lC]
    refine wpAnyH_ready (rs := [11]) (by kernel_rfl) (by simp) ?_
    refine AllReadyH.cons (o := _) (by simp only [hA, hB, hC]; rfl) (fun K hK => ?_) AllReadyH.nil
    go_simp
    refine (HIN.out _).mono ?_
    rintro e w8 ⟨rfl, rfl⟩
    refine hK.out _ _ ⟨hc1, hc2, hc3⟩ (fun hHeld => ?_)
    clear hK K
    try simp only [Act.put, lA, lB, lC]
    refine wpAnyH_done (by kernel_rfl) ?_ _
    have b11 : Below w.heap.size w wr.drew := below_drew hbel
    have I11 : Ints wr.drew (.slice ua xs.length uc) xs := by exact ints_heap HII.out rfl
    have hc3b : wr.drew.cell? ⟨b, off + k * 3 + 2, none⟩ = some (.slice ua xs.length uc) := hc3
    clear hHeld hc1 hc2 hc3
    generalize wr.drew = W1 at *
    have hc3c : (W1.alloc (.cells #[] 3)).cell? ⟨b, off + k * 3 + 2, none⟩ = some (.slice ua xs.length uc) := (((Below.refl W1.heap.size W1).alloc (Nat.le_refl _) (.cells #[] 3)).cell (p := ⟨b, off + k * 3 + 2, none⟩) (World.block_lt_of_cell? W1 _ hc3b)).trans hc3b
    go_wp2_with (at_builtin; refine wpl_app_ints rfl (.tmp 24) (.tmp 29) rfl W1.heap.size _ _ [] xs rfl rfl (ownsN_lit W1 W1.heap.size (Nat.le_refl _) #[] 0 [] rfl rfl (by unfold maxLen; omega)) (ints_below I11 ((Below.refl W1.heap.size W1).alloc (Nat.le_refl _) _)) (by simp [World.size_alloc]) (by have := HXL.out; simp; omega) ?_)
    intro u W3 oB bB
    obtain ⟨pa, pc, rfl⟩ := ints_len (ownsN_ints oB)
    go_wp2
    go_ret
    rw [HF.out]
    exact ⟨_, rfl, ownsN_up oB b11.size, b11.trans ((((Below.refl W1.heap.size W1).alloc (Nat.le_refl _) _).trans bB).mono b11.size)⟩
   ·
    have HA := Lib.hid (HALL.out (by unfold hitB; exact decide_eq_false hin))
    have HIN := Lib.hid (fun w => in_no v sf st w hin)
    clear hin HALL HHIT
    refine wp_region_held_drew (S := fun w' => w'.cell? ⟨b, off + k * 3, none⟩ = some (.int .i64 sf) ∧ w'.cell? ⟨b, off + k * 3 + 1, none⟩ = some (.int .i64 st) ∧ w'.cell? ⟨b, off + k * 3 + 2, none⟩ = some (.slice ua xs.length uc)) (by kernel_rfl) ⟨hc1, hc2, hc3⟩ (fun hHeld => ?_)
    refine tR (i := 0) (v := ?_) ?_ ?_; rotate_left
    ·
     intro w hSw; (try dsimp only at hSw); go_simp; try (with_reducible rfl)
    try simp only [Act.put, lA, lB, lC]
    refine tR (i := 1) (v := ?_) ?_ ?_; rotate_left
    ·
     intro w hSw; (try dsimp only at hSw); go_simp; try (with_reducible rfl)
    try simp only [Act.put, lA, lB, lC]
    refine tR (i := 2) (v := ?_) ?_ ?_; rotate_left
    ·
     intro w hSw; (try dsimp only at hSw); go_simp; try (with_reducible rfl)
    try simp only [Act.put, lA, lB, lC]
    refine tR (i := 3) (v := ?_) ?_ ?_; rotate_left
    ·
     intro w hSw; (try dsimp only at hSw); go_simp; try (with_reducible rfl)
    try simp only [Act.put, lA, lB, lC]
    refine tR (i := 4) (v := ?_) ?_ ?_; rotate_left
    ·
     intro w hSw; (try dsimp only at hSw); go_simp; try (with_reducible rfl)
    try simp only [Act.put, lA, lB, lC]
    refine tR (i := 5) (v := ?_) ?_ ?_; rotate_left
    ·
     intro w hSw; (try dsimp only at hSw); go_simp; try (with_reducible rfl)
    try simp only [Act.put, lA, lB, lC]
    refine tR (i := 6) (v := ?_) ?_ ?_; rotate_left
    ·
     intro w hSw; (try dsimp only at hSw); go_simp; try (with_reducible rfl)
    try simp only [Act.put, lA, lB, lC]
    refine tR (i := 7) (v := ?_) ?_ ?_; rotate_left
    ·
     intro w hSw; (try dsimp only at hSw); go_simp; try (with_reducible rfl)
    try simp only [Act.put, lA, lB, lC]
    refine tR (i := 8) (v := ?_) ?_ ?_; rotate_left
    ·
     intro w hSw; (try dsimp only at hSw); go_simp; try (with_reducible rfl)
    try simp only [Act.put, lA, lB, lC]
    refine tR (i := 9) (v := ?_) ?_ ?_; rotate_left
    ·
     intro w hSw; (try dsimp only at hSw); go_simp; try (with_reducible rfl)
    try simp only [Act.put, lA, lB, lC]
    refine tR (i := 10) (v := ?_) ?_ ?_; rotate_left
    ·
     intro w hSw; (try dsimp only at hSw); go_simp; try (with_reducible rfl)
    try simp only [Act.put, lA, lB, lC]
    refine wpAnyH_ready (rs := [11]) (by kernel_rfl) (by simp) ?_
    refine AllReadyH.cons (o := _) (by simp only [hA, hB, hC]; rfl) (fun K hK => ?_) AllReadyH.nil
    go_simp
    refine (HIN.out _).mono ?_
    rintro e w8 ⟨rfl, rfl⟩
    refine hK.out _ _ ⟨hc1, hc2, hc3⟩ (fun hHeld => ?_)
    clear hK K
    try simp only [Act.put, lA, lB, lC]
    refine wpAnyH_done (by kernel_rfl) ?_ _
    have b11 : Below w.heap.size w wr.drew := below_drew hbel
    have I11 : Ints wr.drew (.slice ua xs.length uc) xs := by exact ints_heap HII.out rfl
    have hc3b : wr.drew.cell? ⟨b, off + k * 3 + 2, none⟩ = some (.slice ua xs.length uc) := hc3
    clear hHeld hc1 hc2 hc3
    generalize wr.drew = W1 at *
    go_wp2
    go_roundw
    case rel => exact ⟨k + 1, by omega, by go_num, HA, b11⟩
    case measure => simp [intOf]; omega
  ·
   obtain rfl : k = rs.length := by omega
   have HF := Lib.hid (find_none hall.out)
   clear hall
   go_wp2
   go_ret
   rw [HF.out]
   exact ⟨_, rfl, ownsN_up (ownsN_lit _ _ (Nat.le_refl _) #[] 0 [] rfl rfl (by decide)) hbel.size, hbel.alloc hbel.size _⟩
abbrev c0D : CondD := (0, 0, 0)
/-- As far as k the conditions are conditions, in ascending order of their fields. -/
def CondsTo (cs : List CondD) (k : Nat) : Prop := ∀ i, i < k → condB (cs.getD i c0D) = true ∧ (0 < i → (cs.getD (i - 1) c0D).1 < (cs.getD i c0D).1)
def condsB (cs : List CondD) : Bool := (List.range cs.length).all (fun i => condB (cs.getD i c0D) && (decide (i = 0) || decide ((cs.getD (i - 1) c0D).1 < (cs.getD i c0D).1)))
def fieldsB (os : List Int) : Bool := os.all (fun x => decide (0 ≤ x ∧ x ≤ 2)) && decide (1 ≤ os.length ∧ os.length ≤ 3)
def queryB (id tn : Int) (cs : List CondD) (os : List Int) : Bool := condsB cs && (decide (0 ≤ id ∧ id ≤ 23) && (decide (0 ≤ tn ∧ tn ≤ 3) && (decide (cs.length ≤ 3) && fieldsB os)))
theorem condsB_all {cs : List CondD} (h : CondsTo cs cs.length) : condsB cs = true := by
 unfold condsB
 rw [List.all_eq_true]
 intro i hi
 rw [List.mem_range] at hi
 obtain ⟨h1, h2⟩ := h i hi
 rw [h1]
 by_cases e : i = 0
 ·
  simp [e]
 ·
  rw [decide_eq_true (h2 (by omega))]; simp
theorem condsB_bad {cs : List CondD} {k : Nat} (hk : k < cs.length) (h : condB (cs.getD k c0D) = false ∨ (0 < k ∧ ¬ (cs.getD (k - 1) c0D).1 < (cs.getD k c0D).1)) : condsB cs = false := by
 unfold condsB
 rw [Bool.eq_false_iff]
 intro g
 rw [List.all_eq_true] at g
 have := g k (List.mem_range.2 hk)
 rw [Bool.and_eq_true, Bool.or_eq_true, decide_eq_true_eq, decide_eq_true_eq] at this
 rcases h with h | ⟨h1, h2⟩
 ·
  rw [h] at this; exact Bool.noConfusion this.1
 ·
  rcases this.2 with e | e
  ·
   omega
  ·
   exact h2 e
theorem condsTo_step {cs : List CondD} {k : Nat} (h : CondsTo cs k) (h1 : condB (cs.getD k c0D) = true) (h2 : 0 < k → (cs.getD (k - 1) c0D).1 < (cs.getD k c0D).1) : CondsTo cs (k + 1) := fun i hi => by
 by_cases e : i = k
 ·
  subst e; exact ⟨h1, h2⟩
 ·
  exact h i (by omega)
theorem fieldsB_bad {os : List Int} {k : Nat} (hk : k < os.length) (h : ¬ (0 ≤ os.getD k 0 ∧ os.getD k 0 ≤ 2)) : fieldsB os = false := by
 have e : os.getD k 0 = os[k] := by simp [List.getD, hk]
 rw [e] at h
 have : (os.all fun x => decide (0 ≤ x ∧ x ≤ 2)) = false := by
  rw [Bool.eq_false_iff]
  intro g
  rw [List.all_eq_true] at g
  exact h (of_decide_eq_true (g _ (List.getElem_mem hk)))
 unfold fieldsB
 rw [this]; rfl
theorem fieldsB_all {os : List Int} (h : ∀ k, k < os.length → 0 ≤ os.getD k 0 ∧ os.getD k 0 ≤ 2) : fieldsB os = decide (1 ≤ os.length ∧ os.length ≤ 3) := by
 have : (os.all fun x => decide (0 ≤ x ∧ x ≤ 2)) = true := by
  rw [List.all_eq_true]
  intro x hx
  obtain ⟨k, hk, rfl⟩ := List.getElem_of_mem hx
  have := h k hk
  have e : os.getD k 0 = os[k] := by simp [List.getD, hk]
  rw [e] at this
  exact decide_eq_true this
 unfold fieldsB
 rw [this]; rfl
set_option maxHeartbeats 4000000 in
set_option maxRecDepth 100000 in
theorem specFields (v : Value) (os : List Int) (w : World) (h : Ints w v os) (hn : os.length ≤ 1048576) :
  Calls Tryd.prog 116 #[v] w fun e w' => e = .returned (.bool (fieldsB os)) ∧ w' = w := by
 have H := Lib.hid h
 obtain ⟨a, cap, rfl⟩ := ints_len h
 clear h
 go_enter Tryd.func116, Tryd.ntmps116
 go_wp2
 go_loopw [3] (fun i wr => ∃ k : Nat, k ≤ os.length ∧ i = .int .i64 k ∧ Hid (∀ j, j < k → 0 ≤ os.getD j 0 ∧ os.getD j 0 ≤ 2) ∧ wr = w) (fun i _ => os.length - (intOf i).toNat)
 case atStart => exact ⟨0, Nat.zero_le _, rfl, Lib.hid (fun j hj => by omega), rfl⟩
 case round =>
  obtain ⟨k, hk, rfl, hall, rfl⟩ := hrel
  by_cases hlt : k < os.length
  ·
   obtain ⟨b, off, cap', hv, hbl, hc⟩ := ints_cell H.out (by omega)
   simp only [Value.slice.injEq] at hv
   obtain ⟨rfl, _, rfl⟩ := hv
   have hcell := hc k hlt
   have i1 : (0 : Int) ≤ (k : Int) := by omega
   have i2 : (k : Int) < (os.length : Int) := by omega
   clear hc
   by_cases hi : 0 ≤ os.getD k 0 ∧ os.getD k 0 ≤ 2
   ·
    have HA : Hid (∀ j, j < k + 1 → 0 ≤ os.getD j 0 ∧ os.getD j 0 ≤ 2) := Lib.hid (fun j hj => by
     by_cases e : j = k
     ·
      subst e; exact hi
     ·
      exact hall.out j (by omega))
    have HI := Lib.hid (fun w => in_yes (os.getD k 0) 0 2 w hi.1 hi.2)
    clear hi hall
    generalize os.getD k 0 = x at *
    go_wp2_with fail
    refine (HI.out _).mono ?_
    rintro e w1 ⟨rfl, rfl⟩
    go_wp2
    go_roundw
    case rel => exact ⟨k + 1, by omega, by go_num, HA, by simp⟩
    case measure => simp [intOf]; omega
   ·
    have HF := Lib.hid (fieldsB_bad hlt hi)
    have HI := Lib.hid (fun w => in_no (os.getD k 0) 0 2 w hi)
    clear hi hall
    generalize os.getD k 0 = x at *
    go_wp2_with fail
    refine (HI.out _).mono ?_
    rintro e w1 ⟨rfl, rfl⟩
    go_wp2
    go_ret
    exact ⟨ret_b HF.out.symm, rfl⟩
  ·
   obtain rfl : k = os.length := by omega
   have HE := Lib.hid (fieldsB_all hall.out)
   clear hall
   by_cases hl : 1 ≤ os.length ∧ os.length ≤ 3
   ·
    have HT : Hid (fieldsB os = true) := Lib.hid (by rw [HE.out]; exact decide_eq_true hl)
    have HI := Lib.hid (fun w => in_yes (os.length : Int) 1 3 w (by omega) (by omega))
    clear hl HE
    go_wp2_with fail
    refine (HI.out _).mono ?_
    rintro e w1 ⟨rfl, rfl⟩
    go_wp2
    go_ret
    exact ⟨ret_b HT.out.symm, rfl⟩
   ·
    have HT : Hid (fieldsB os = false) := Lib.hid (by rw [HE.out]; exact decide_eq_false hl)
    have HI := Lib.hid (fun w => in_no (os.length : Int) 1 3 w (by omega))
    clear hl HE
    go_wp2_with fail
    refine (HI.out _).mono ?_
    rintro e w1 ⟨rfl, rfl⟩
    go_wp2
    go_ret
    exact ⟨ret_b HT.out.symm, rfl⟩
set_option maxHeartbeats 16000000 in
set_option maxRecDepth 100000 in
theorem specIsQuery (id tn : Int) (cv ov : Value) (cs : List CondD) (os : List Int) (w : World) (h : CondsR w cv cs) (hn : cs.length ≤ 1048576) (g : Ints w ov os) (hm : os.length ≤ 1048576) :
  Calls Tryd.prog 71 #[qV id tn cv ov] w fun e w' => e = .returned (.bool (queryB id tn cs os)) ∧ Below w.heap.size w w' := by
 obtain ⟨va, vcap, rfl⟩ := condsR_len h
 obtain ⟨oa, ocap, rfl⟩ := ints_len g
 have hb0 : Below w.heap.size w (w.alloc (.cells #[.int .i64 id, .int .i64 tn, .slice va cs.length vcap, .slice oa os.length ocap] 63)) := (Below.refl _ w).alloc (Nat.le_refl _) _
 have HB0 := Lib.hid hb0
 have HG0 := Lib.hid (heap_alloc_new w (.cells #[.int .i64 id, .int .i64 tn, .slice va cs.length vcap, .slice oa os.length ocap] 63))
 have HH := Lib.hid (condsR_below h hb0)
 have HO := Lib.hid (ints_below g hb0)
 have HFD := Lib.hid (fun w h => specFields (.slice oa os.length ocap) os w h hm)
 have HZ : Hid (w.heap.size < (w.alloc (.cells #[.int .i64 id, .int .i64 tn, .slice va cs.length vcap, .slice oa os.length ocap] 63)).heap.size) := Lib.hid (by simp)
 clear h g hm hb0
 go_enter Tryd.func71, Tryd.ntmps71
 go_wp2
 generalize w.alloc (.cells #[.int .i64 id, .int .i64 tn, .slice va cs.length vcap, .slice oa os.length ocap] 63) = W at *
 go_loopw [3] (fun i wr => ∃ k : Nat, k ≤ cs.length ∧ i = .int .i64 k ∧ Hid (CondsTo cs k) ∧ Below W.heap.size W wr) (fun i _ => cs.length - (intOf i).toNat)
 case atStart => exact ⟨0, Nat.zero_le _, rfl, Lib.hid (fun i hi => by omega), Below.refl _ _⟩
 case round =>
  obtain ⟨k, hk, rfl, hall, hbel⟩ := hrel
  have kb := (hbel.block w.heap.size HZ.out).trans HG0.out
  have hwl := (Array.getElem?_eq_some_iff.1 kb).1
  have p2 := (cell_of_row wr _ 2 _ _ _ kb).trans (show _ = some (Value.slice va cs.length vcap) from rfl)
  by_cases hlt : k < cs.length
  ·
   have H1 := Lib.hid (condsR_below HH.out hbel)
   obtain ⟨b, off, cap', hv, hbl, hc1, hc2, hc3⟩ := condsR_at H1.out hlt
   simp only [Value.slice.injEq] at hv
   obtain ⟨rfl, _, rfl⟩ := hv
   have HBAD := Lib.hid (condsB_bad (cs := cs) (k := k) hlt)
   have HSTEP := Lib.hid (condsTo_step hall.out)
   have HR := Lib.hid (fun w => specIsCond (cs.getD k c0D).1 (cs.getD k c0D).2.1 (cs.getD k c0D).2.2 w)
   have i1 : (0 : Int) ≤ (k : Int) := by omega
   have i2 : (k : Int) < (cs.length : Int) := by omega
   clear hall kb
   have er : (((cs.getD k c0D).1, (cs.getD k c0D).2.1, (cs.getD k c0D).2.2) : CondD) = cs.getD k c0D := rfl
   rw [er] at HR
   clear er
   cases hrb : condB (cs.getD k c0D) with
   | false =>
    have HF : Hid (queryB id tn cs os = false) := Lib.hid (by unfold queryB; rw [HBAD.out (Or.inl hrb)]; rfl)
    rw [hrb] at HR
    clear hrb HBAD HSTEP H1
    generalize cs.getD k c0D = c at *
    obtain ⟨f, l, hh⟩ := c
    simp only at hc1 hc2 hc3 HR
    go_wp2
    refine wp_region_held_drew (S := fun w' => w'.cell? ⟨w.heap.size, 2, none⟩ = some (.slice (some ⟨b, off, none⟩) cs.length vcap) ∧ w'.cell? ⟨b, off + k * 3, none⟩ = some (.int .i64 f) ∧ w'.cell? ⟨b, off + k * 3 + 1, none⟩ = some (.int .i64 l) ∧ w'.cell? ⟨b, off + k * 3 + 2, none⟩ = some (.int .i64 hh)) (by kernel_rfl) ⟨p2, hc1, hc2, hc3⟩ (fun hHeld => ?_)
    refine tR (i := 0) (v := ?_) ?_ ?_; rotate_left
    ·
     intro w hSw; (try dsimp only at hSw); go_simp; try (with_reducible rfl)
    try simp only [Act.put, lA, lB, lC]
    refine tR (i := 1) (v := ?_) ?_ ?_; rotate_left
    ·
     intro w hSw; (try dsimp only at hSw); go_simp; try (with_reducible rfl)
    try simp only [Act.put, lA, lB, lC]
    refine tR (i := 2) (v := ?_) ?_ ?_; rotate_left
    ·
     intro w hSw; (try dsimp only at hSw); go_simp; try (with_reducible rfl)
    try simp only [Act.put, lA, lB, lC]
    refine tR (i := 3) (v := ?_) ?_ ?_; rotate_left
    ·
     intro w hSw; (try dsimp only at hSw); go_simp; try (with_reducible rfl)
    try simp only [Act.put, lA, lB, lC]
    refine tR (i := 4) (v := ?_) ?_ ?_; rotate_left
    ·
     intro w hSw; (try dsimp only at hSw); go_simp; try (with_reducible rfl)
    try simp only [Act.put, lA, lB, lC]
    refine wpAnyH_ready (rs := [5]) (by kernel_rfl) (by simp) ?_
    refine AllReadyH.cons (o := _) (by simp only [hA, hB, hC]; rfl) (fun K hK => ?_) AllReadyH.nil
    go_simp
    refine (HR.out _).mono ?_
    rintro e w8 ⟨rfl, b9⟩
    have b10 : Below wr.heap.size wr w8 := ⟨b9.os, b9.tape, b9.output, b9.size, b9.block⟩
    have s0 := (b10.cell (p := ⟨w.heap.size, 2, none⟩) hwl).trans p2
    have s1 := (b10.cell (p := ⟨b, off + k * 3, none⟩) hbl).trans hc1
    have s2 := (b10.cell (p := ⟨b, off + k * 3 + 1, none⟩) hbl).trans hc2
    have s3 := (b10.cell (p := ⟨b, off + k * 3 + 2, none⟩) hbl).trans hc3
    refine hK.out _ _ ⟨s0, s1, s2, s3⟩ (fun hHeld => ?_)
    clear hK K
    try simp only [Act.put, lA, lB, lC]
    refine tR (i := 6) (v := ?_) ?_ ?_; rotate_left
    ·
     intro w hSw; (try dsimp only at hSw); go_simp; try (with_reducible rfl)
    try simp only [Act.put, lA, lB, lC]
    refine tR (i := 7) (v := ?_) ?_ ?_; rotate_left
    ·
     intro w hSw; (try dsimp only at hSw); go_simp; try (with_reducible rfl)
    try simp only [Act.put, lA, lB, lC]
    refine tO (i := 8) ?_
    try simp only [Act.put, lA, lB, lC]
    refine tO (i := 9) ?_
    try simp only [Act.put, lA, lB, lC]
    refine tO (i := 10) ?_
    try simp only [Act.put, lA, lB, lC]
    refine tO (i := 11) ?_
    try simp only [Act.put, lA, lB, lC]
    refine tO (i := 12) ?_
    try simp only [Act.put, lA, lB, lC]
    refine tO (i := 13) ?_
    try simp only [Act.put, lA, lB, lC]
    refine tO (i := 14) ?_
    try simp only [Act.put, lA, lB, lC]
    refine tO (i := 15) ?_
    try simp only [Act.put, lA, lB, lC]
    refine tO (i := 16) ?_
    try simp only [Act.put, lA, lB, lC]
    refine tO (i := 17) ?_
    try simp only [Act.put, lA, lB, lC]
    refine tO (i := 18) ?_
    try simp only [Act.put, lA, lB, lC]
    refine tO (i := 19) ?_
    try simp only [Act.put, lA, lB, lC]
    refine tO (i := 20) ?_
    try simp only [Act.put, lA, lB, lC]
    refine tO (i := 21) ?_
    try simp only [Act.put, lA, lB, lC]
    refine tO (i := 22) ?_
    try simp only [Act.put, lA, lB, lC]
    refine tO (i := 23) ?_
    try simp only [Act.put, lA, lB, lC]
    refine tO (i := 24) ?_
    try simp only [Act.put, lA, lB, lC]
    refine tO (i := 25) ?_
    try simp only [Act.put, lA, lB, lC]
    refine tR (i := 26) (v := ?_) ?_ ?_; rotate_left
    ·
     intro w hSw; (try dsimp only at hSw); go_simp; try (with_reducible rfl)
    try simp only [Act.put, lA, lB, lC]
    refine wpAnyH_done (by kernel_rfl) ?_ _
    have b11 := hbel.trans (b10.mono hbel.size)
    clear s0 s1 s2 s3 hHeld b9 b10
    try clear s4
    go_wp2
    go_ret
    exact ⟨ret_b HF.out.symm, HB0.out.trans (b11.mono HB0.out.size)⟩
   | true =>
    rw [hrb] at HR
    by_cases hz : k = 0
    ·
     have HA := Lib.hid (HSTEP.out hrb (fun g => absurd g (by omega)))
     have hg : decide ((0 : Int) < (k : Int)) = false := decide_eq_false (by omega)
     have hgn : decide (0 < k) = false := decide_eq_false (by omega)
     clear hrb HBAD HSTEP H1 hz
     generalize cs.getD k c0D = c at *
     obtain ⟨f, l, hh⟩ := c
     simp only at hc1 hc2 hc3 HR
     go_wp2
     refine wp_region_held_drew (S := fun w' => w'.cell? ⟨w.heap.size, 2, none⟩ = some (.slice (some ⟨b, off, none⟩) cs.length vcap) ∧ w'.cell? ⟨b, off + k * 3, none⟩ = some (.int .i64 f) ∧ w'.cell? ⟨b, off + k * 3 + 1, none⟩ = some (.int .i64 l) ∧ w'.cell? ⟨b, off + k * 3 + 2, none⟩ = some (.int .i64 hh)) (by kernel_rfl) ⟨p2, hc1, hc2, hc3⟩ (fun hHeld => ?_)
     refine tR (i := 0) (v := ?_) ?_ ?_; rotate_left
     ·
      intro w hSw; (try dsimp only at hSw); go_simp; try (with_reducible rfl)
     try simp only [Act.put, lA, lB, lC]
     refine tR (i := 1) (v := ?_) ?_ ?_; rotate_left
     ·
      intro w hSw; (try dsimp only at hSw); go_simp; try (with_reducible rfl)
     try simp only [Act.put, lA, lB, lC]
     refine tR (i := 2) (v := ?_) ?_ ?_; rotate_left
     ·
      intro w hSw; (try dsimp only at hSw); go_simp; try (with_reducible rfl)
     try simp only [Act.put, lA, lB, lC]
     refine tR (i := 3) (v := ?_) ?_ ?_; rotate_left
     ·
      intro w hSw; (try dsimp only at hSw); go_simp; try (with_reducible rfl)
     try simp only [Act.put, lA, lB, lC]
     refine tR (i := 4) (v := ?_) ?_ ?_; rotate_left
     ·
      intro w hSw; (try dsimp only at hSw); go_simp; try (with_reducible rfl)
     try simp only [Act.put, lA, lB, lC]
     refine wpAnyH_ready (rs := [5]) (by kernel_rfl) (by simp) ?_
     refine AllReadyH.cons (o := _) (by simp only [hA, hB, hC]; rfl) (fun K hK => ?_) AllReadyH.nil
     go_simp
     refine (HR.out _).mono ?_
     rintro e w8 ⟨rfl, b9⟩
     have b10 : Below wr.heap.size wr w8 := ⟨b9.os, b9.tape, b9.output, b9.size, b9.block⟩
     have s0 := (b10.cell (p := ⟨w.heap.size, 2, none⟩) hwl).trans p2
     have s1 := (b10.cell (p := ⟨b, off + k * 3, none⟩) hbl).trans hc1
     have s2 := (b10.cell (p := ⟨b, off + k * 3 + 1, none⟩) hbl).trans hc2
     have s3 := (b10.cell (p := ⟨b, off + k * 3 + 2, none⟩) hbl).trans hc3
     refine hK.out _ _ ⟨s0, s1, s2, s3⟩ (fun hHeld => ?_)
     clear hK K
     try simp only [Act.put, lA, lB, lC]
     refine tR (i := 6) (v := ?_) ?_ ?_; rotate_left
     ·
      intro w hSw; (try dsimp only at hSw); go_simp; try (with_reducible rfl)
     try simp only [Act.put, lA, lB, lC]
     refine tR (i := 7) (v := ?_) ?_ ?_; rotate_left
     ·
      intro w hSw; (try dsimp only at hSw); go_simp; try (with_reducible rfl)
     try simp only [Act.put, lA, lB, lC]
     refine tR (i := 8) (v := ?_) ?_ ?_; rotate_left
     ·
      intro w hSw; (try dsimp only at hSw); go_simp; try (with_reducible rfl)
     try simp only [Act.put, lA, lB, lC]
     refine tR (i := 9) (v := ?_) ?_ ?_; rotate_left
     ·
      intro w hSw; (try dsimp only at hSw); go_simp; try (with_reducible rfl)
     try simp only [Act.put, lA, lB, lC]
     refine tR (i := 10) (v := ?_) ?_ ?_; rotate_left
     ·
      intro w hSw; (try dsimp only at hSw); go_simp; try (with_reducible rfl)
     try simp only [Act.put, lA, lB, lC]
     refine tO (i := 11) ?_
     try simp only [Act.put, lA, lB, lC]
     refine tO (i := 12) ?_
     try simp only [Act.put, lA, lB, lC]
     refine tO (i := 13) ?_
     try simp only [Act.put, lA, lB, lC]
     refine tO (i := 14) ?_
     try simp only [Act.put, lA, lB, lC]
     refine tO (i := 15) ?_
     try simp only [Act.put, lA, lB, lC]
     refine tO (i := 16) ?_
     try simp only [Act.put, lA, lB, lC]
     refine tO (i := 17) ?_
     try simp only [Act.put, lA, lB, lC]
     refine tO (i := 18) ?_
     try simp only [Act.put, lA, lB, lC]
     refine tO (i := 19) ?_
     try simp only [Act.put, lA, lB, lC]
     refine tO (i := 20) ?_
     try simp only [Act.put, lA, lB, lC]
     refine tO (i := 21) ?_
     try simp only [Act.put, lA, lB, lC]
     refine tO (i := 22) ?_
     try simp only [Act.put, lA, lB, lC]
     refine tO (i := 23) ?_
     try simp only [Act.put, lA, lB, lC]
     refine tO (i := 24) ?_
     try simp only [Act.put, lA, lB, lC]
     refine tR (i := 25) (v := ?_) ?_ ?_; rotate_left
     ·
      intro w hSw; (try dsimp only at hSw); go_simp; try (with_reducible rfl)
     try simp only [Act.put, lA, lB, lC]
     refine tR (i := 26) (v := ?_) ?_ ?_; rotate_left
     ·
      intro w hSw; (try dsimp only at hSw); go_simp; try (with_reducible rfl)
     try simp only [Act.put, lA, lB, lC]
     refine wpAnyH_done (by kernel_rfl) ?_ _
     have b11 := hbel.trans (b10.mono hbel.size)
     clear s0 s1 s2 s3 hHeld b9 b10
     try clear s4
     go_wp2
     go_roundw
     case rel => exact ⟨k + 1, by omega, by go_num, HA, b11⟩
     case measure => simp [intOf]; omega
    ·
     obtain ⟨m, hkm⟩ : ∃ m, k = m + 1 := ⟨k - 1, by omega⟩
     have hml : m < cs.length := by omega
     obtain ⟨b', off', cap'', hv', _, hc0, _, _⟩ := condsR_at H1.out hml
     simp only [Value.slice.injEq, Option.some.injEq, Addr.mk.injEq] at hv'
     obtain ⟨⟨rfl, rfl, _⟩, _, rfl⟩ := hv'
     have hg : decide ((0 : Int) < (k : Int)) = true := decide_eq_true (by omega)
     have hgn : decide (0 < k) = true := decide_eq_true (by omega)
     have j1 : (0 : Int) ≤ (m : Int) := by omega
     have j2 : (m : Int) < (cs.length : Int) := by omega
     have hsub : IntKind.i64.wrap ((k : Int) - 1) = (m : Int) := by rw [IntWalk.i64_in _ (by omega)]; omega
     rw [show k - 1 = m by omega] at HBAD HSTEP
     by_cases hle : (cs.getD k c0D).1 ≤ (cs.getD m c0D).1
     ·
      have HF : Hid (queryB id tn cs os = false) := Lib.hid (by unfold queryB; rw [HBAD.out (Or.inr ⟨by omega, by omega⟩)]; rfl)
      have hd := decide_eq_true hle
      clear hrb HBAD HSTEP H1 hz hle hkm
      generalize (cs.getD m c0D).1 = fp at *
      generalize cs.getD k c0D = c at *
      obtain ⟨f, l, hh⟩ := c
      simp only at hc1 hc2 hc3 HR hd
      go_wp2
      refine wp_region_held_drew (S := fun w' => w'.cell? ⟨w.heap.size, 2, none⟩ = some (.slice (some ⟨b, off, none⟩) cs.length vcap) ∧ w'.cell? ⟨b, off + k * 3, none⟩ = some (.int .i64 f) ∧ w'.cell? ⟨b, off + k * 3 + 1, none⟩ = some (.int .i64 l) ∧ w'.cell? ⟨b, off + k * 3 + 2, none⟩ = some (.int .i64 hh) ∧ w'.cell? ⟨b, off + m * 3, none⟩ = some (.int .i64 fp)) (by kernel_rfl) ⟨p2, hc1, hc2, hc3, hc0⟩ (fun hHeld => ?_)
      refine tR (i := 0) (v := ?_) ?_ ?_; rotate_left
      ·
       intro w hSw; (try dsimp only at hSw); go_simp; try (with_reducible rfl)
      try simp only [Act.put, lA, lB, lC]
      refine tR (i := 1) (v := ?_) ?_ ?_; rotate_left
      ·
       intro w hSw; (try dsimp only at hSw); go_simp; try (with_reducible rfl)
      try simp only [Act.put, lA, lB, lC]
      refine tR (i := 2) (v := ?_) ?_ ?_; rotate_left
      ·
       intro w hSw; (try dsimp only at hSw); go_simp; try (with_reducible rfl)
      try simp only [Act.put, lA, lB, lC]
      refine tR (i := 3) (v := ?_) ?_ ?_; rotate_left
      ·
       intro w hSw; (try dsimp only at hSw); go_simp; try (with_reducible rfl)
      try simp only [Act.put, lA, lB, lC]
      refine tR (i := 4) (v := ?_) ?_ ?_; rotate_left
      ·
       intro w hSw; (try dsimp only at hSw); go_simp; try (with_reducible rfl)
      try simp only [Act.put, lA, lB, lC]
      refine wpAnyH_ready (rs := [5]) (by kernel_rfl) (by simp) ?_
      refine AllReadyH.cons (o := _) (by simp only [hA, hB, hC]; rfl) (fun K hK => ?_) AllReadyH.nil
      go_simp
      refine (HR.out _).mono ?_
      rintro e w8 ⟨rfl, b9⟩
      have b10 : Below wr.heap.size wr w8 := ⟨b9.os, b9.tape, b9.output, b9.size, b9.block⟩
      have s0 := (b10.cell (p := ⟨w.heap.size, 2, none⟩) hwl).trans p2
      have s1 := (b10.cell (p := ⟨b, off + k * 3, none⟩) hbl).trans hc1
      have s2 := (b10.cell (p := ⟨b, off + k * 3 + 1, none⟩) hbl).trans hc2
      have s3 := (b10.cell (p := ⟨b, off + k * 3 + 2, none⟩) hbl).trans hc3
      have s4 := (b10.cell (p := ⟨b, off + m * 3, none⟩) hbl).trans hc0
      refine hK.out _ _ ⟨s0, s1, s2, s3, s4⟩ (fun hHeld => ?_)
      clear hK K
      try simp only [Act.put, lA, lB, lC]
      refine tR (i := 6) (v := ?_) ?_ ?_; rotate_left
      ·
       intro w hSw; (try dsimp only at hSw); go_simp; try (with_reducible rfl)
      try simp only [Act.put, lA, lB, lC]
      refine tR (i := 7) (v := ?_) ?_ ?_; rotate_left
      ·
       intro w hSw; (try dsimp only at hSw); go_simp; try (with_reducible rfl)
      try simp only [Act.put, lA, lB, lC]
      refine tR (i := 8) (v := ?_) ?_ ?_; rotate_left
      ·
       intro w hSw; (try dsimp only at hSw); go_simp; try (with_reducible rfl)
      try simp only [Act.put, lA, lB, lC]
      refine tR (i := 9) (v := ?_) ?_ ?_; rotate_left
      ·
       intro w hSw; (try dsimp only at hSw); go_simp; try (with_reducible rfl)
      try simp only [Act.put, lA, lB, lC]
      refine tR (i := 10) (v := ?_) ?_ ?_; rotate_left
      ·
       intro w hSw; (try dsimp only at hSw); go_simp; try (with_reducible rfl)
      try simp only [Act.put, lA, lB, lC]
      refine tR (i := 11) (v := ?_) ?_ ?_; rotate_left
      ·
       intro w hSw; (try dsimp only at hSw); go_simp; try (with_reducible rfl)
      try simp only [Act.put, lA, lB, lC]
      refine tR (i := 12) (v := ?_) ?_ ?_; rotate_left
      ·
       intro w hSw; (try dsimp only at hSw); go_simp; try (with_reducible rfl)
      try simp only [Act.put, lA, lB, lC]
      refine tR (i := 13) (v := ?_) ?_ ?_; rotate_left
      ·
       intro w hSw; (try dsimp only at hSw); go_simp; try (with_reducible rfl)
      try simp only [Act.put, lA, lB, lC]
      refine tR (i := 14) (v := ?_) ?_ ?_; rotate_left
      ·
       intro w hSw; (try dsimp only at hSw); go_simp; try (with_reducible rfl)
      try simp only [Act.put, lA, lB, lC]
      refine tR (i := 15) (v := ?_) ?_ ?_; rotate_left
      ·
       intro w hSw; (try dsimp only at hSw); go_simp; try (with_reducible rfl)
      try simp only [Act.put, lA, lB, lC]
      refine tR (i := 16) (v := ?_) ?_ ?_; rotate_left
      ·
       intro w hSw; (try dsimp only at hSw); go_simp; try (with_reducible rfl)
      try simp only [Act.put, lA, lB, lC]
      refine tR (i := 17) (v := ?_) ?_ ?_; rotate_left
      ·
       intro w hSw; (try dsimp only at hSw); go_simp; try (with_reducible rfl)
      try simp only [Act.put, lA, lB, lC]
      refine tR (i := 18) (v := ?_) ?_ ?_; rotate_left
      ·
       intro w hSw; (try dsimp only at hSw); go_simp; try (with_reducible rfl)
      try simp only [Act.put, lA, lB, lC]
      refine tR (i := 19) (v := ?_) ?_ ?_; rotate_left
      ·
       intro w hSw; (try dsimp only at hSw); go_simp; try (with_reducible rfl)
      try simp only [Act.put, lA, lB, lC]
      refine tR (i := 20) (v := ?_) ?_ ?_; rotate_left
      ·
       intro w hSw; (try dsimp only at hSw); go_simp; try (with_reducible rfl)
      try simp only [Act.put, lA, lB, lC]
      refine tR (i := 21) (v := ?_) ?_ ?_; rotate_left
      ·
       intro w hSw; (try dsimp only at hSw); go_simp; try (with_reducible rfl)
      try simp only [Act.put, lA, lB, lC]
      refine tR (i := 22) (v := ?_) ?_ ?_; rotate_left
      ·
       intro w hSw; (try dsimp only at hSw); go_simp; try (with_reducible rfl)
      try simp only [Act.put, lA, lB, lC]
      refine tR (i := 23) (v := ?_) ?_ ?_; rotate_left
      ·
       intro w hSw; (try dsimp only at hSw); go_simp; try (with_reducible rfl)
      try simp only [Act.put, lA, lB, lC]
      refine tR (i := 24) (v := ?_) ?_ ?_; rotate_left
      ·
       intro w hSw; (try dsimp only at hSw); go_simp; try (with_reducible rfl)
      try simp only [Act.put, lA, lB, lC]
      refine tR (i := 25) (v := ?_) ?_ ?_; rotate_left
      ·
       intro w hSw; (try dsimp only at hSw); go_simp; try (with_reducible rfl)
      try simp only [Act.put, lA, lB, lC]
      refine tR (i := 26) (v := ?_) ?_ ?_; rotate_left
      ·
       intro w hSw; (try dsimp only at hSw); go_simp; try (with_reducible rfl)
      try simp only [Act.put, lA, lB, lC]
      refine wpAnyH_done (by kernel_rfl) ?_ _
      have b11 := hbel.trans (b10.mono hbel.size)
      clear s0 s1 s2 s3 hHeld b9 b10
      try clear s4
      go_wp2
      go_ret
      exact ⟨ret_b HF.out.symm, HB0.out.trans (b11.mono HB0.out.size)⟩
     ·
      have HA := Lib.hid (HSTEP.out hrb (fun _ => by omega))
      have hd := decide_eq_false hle
      clear hrb HBAD HSTEP H1 hz hle hkm
      generalize (cs.getD m c0D).1 = fp at *
      generalize cs.getD k c0D = c at *
      obtain ⟨f, l, hh⟩ := c
      simp only at hc1 hc2 hc3 HR hd
      go_wp2
      refine wp_region_held_drew (S := fun w' => w'.cell? ⟨w.heap.size, 2, none⟩ = some (.slice (some ⟨b, off, none⟩) cs.length vcap) ∧ w'.cell? ⟨b, off + k * 3, none⟩ = some (.int .i64 f) ∧ w'.cell? ⟨b, off + k * 3 + 1, none⟩ = some (.int .i64 l) ∧ w'.cell? ⟨b, off + k * 3 + 2, none⟩ = some (.int .i64 hh) ∧ w'.cell? ⟨b, off + m * 3, none⟩ = some (.int .i64 fp)) (by kernel_rfl) ⟨p2, hc1, hc2, hc3, hc0⟩ (fun hHeld => ?_)
      refine tR (i := 0) (v := ?_) ?_ ?_; rotate_left
      ·
       intro w hSw; (try dsimp only at hSw); go_simp; try (with_reducible rfl)
      try simp only [Act.put, lA, lB, lC]
      refine tR (i := 1) (v := ?_) ?_ ?_; rotate_left
      ·
       intro w hSw; (try dsimp only at hSw); go_simp; try (with_reducible rfl)
      try simp only [Act.put, lA, lB, lC]
      refine tR (i := 2) (v := ?_) ?_ ?_; rotate_left
      ·
       intro w hSw; (try dsimp only at hSw); go_simp; try (with_reducible rfl)
      try simp only [Act.put, lA, lB, lC]
      refine tR (i := 3) (v := ?_) ?_ ?_; rotate_left
      ·
       intro w hSw; (try dsimp only at hSw); go_simp; try (with_reducible rfl)
      try simp only [Act.put, lA, lB, lC]
      refine tR (i := 4) (v := ?_) ?_ ?_; rotate_left
      ·
       intro w hSw; (try dsimp only at hSw); go_simp; try (with_reducible rfl)
      try simp only [Act.put, lA, lB, lC]
      refine wpAnyH_ready (rs := [5]) (by kernel_rfl) (by simp) ?_
      refine AllReadyH.cons (o := _) (by simp only [hA, hB, hC]; rfl) (fun K hK => ?_) AllReadyH.nil
      go_simp
      refine (HR.out _).mono ?_
      rintro e w8 ⟨rfl, b9⟩
      have b10 : Below wr.heap.size wr w8 := ⟨b9.os, b9.tape, b9.output, b9.size, b9.block⟩
      have s0 := (b10.cell (p := ⟨w.heap.size, 2, none⟩) hwl).trans p2
      have s1 := (b10.cell (p := ⟨b, off + k * 3, none⟩) hbl).trans hc1
      have s2 := (b10.cell (p := ⟨b, off + k * 3 + 1, none⟩) hbl).trans hc2
      have s3 := (b10.cell (p := ⟨b, off + k * 3 + 2, none⟩) hbl).trans hc3
      have s4 := (b10.cell (p := ⟨b, off + m * 3, none⟩) hbl).trans hc0
      refine hK.out _ _ ⟨s0, s1, s2, s3, s4⟩ (fun hHeld => ?_)
      clear hK K
      try simp only [Act.put, lA, lB, lC]
      refine tR (i := 6) (v := ?_) ?_ ?_; rotate_left
      ·
       intro w hSw; (try dsimp only at hSw); go_simp; try (with_reducible rfl)
      try simp only [Act.put, lA, lB, lC]
      refine tR (i := 7) (v := ?_) ?_ ?_; rotate_left
      ·
       intro w hSw; (try dsimp only at hSw); go_simp; try (with_reducible rfl)
      try simp only [Act.put, lA, lB, lC]
      refine tR (i := 8) (v := ?_) ?_ ?_; rotate_left
      ·
       intro w hSw; (try dsimp only at hSw); go_simp; try (with_reducible rfl)
      try simp only [Act.put, lA, lB, lC]
      refine tR (i := 9) (v := ?_) ?_ ?_; rotate_left
      ·
       intro w hSw; (try dsimp only at hSw); go_simp; try (with_reducible rfl)
      try simp only [Act.put, lA, lB, lC]
      refine tR (i := 10) (v := ?_) ?_ ?_; rotate_left
      ·
       intro w hSw; (try dsimp only at hSw); go_simp; try (with_reducible rfl)
      try simp only [Act.put, lA, lB, lC]
      refine tR (i := 11) (v := ?_) ?_ ?_; rotate_left
      ·
       intro w hSw; (try dsimp only at hSw); go_simp; try (with_reducible rfl)
      try simp only [Act.put, lA, lB, lC]
      refine tR (i := 12) (v := ?_) ?_ ?_; rotate_left
      ·
       intro w hSw; (try dsimp only at hSw); go_simp; try (with_reducible rfl)
      try simp only [Act.put, lA, lB, lC]
      refine tR (i := 13) (v := ?_) ?_ ?_; rotate_left
      ·
       intro w hSw; (try dsimp only at hSw); go_simp; try (with_reducible rfl)
      try simp only [Act.put, lA, lB, lC]
      refine tR (i := 14) (v := ?_) ?_ ?_; rotate_left
      ·
       intro w hSw; (try dsimp only at hSw); go_simp; try (with_reducible rfl)
      try simp only [Act.put, lA, lB, lC]
      refine tR (i := 15) (v := ?_) ?_ ?_; rotate_left
      ·
       intro w hSw; (try dsimp only at hSw); go_simp; try (with_reducible rfl)
      try simp only [Act.put, lA, lB, lC]
      refine tR (i := 16) (v := ?_) ?_ ?_; rotate_left
      ·
       intro w hSw; (try dsimp only at hSw); go_simp; try (with_reducible rfl)
      try simp only [Act.put, lA, lB, lC]
      refine tR (i := 17) (v := ?_) ?_ ?_; rotate_left
      ·
       intro w hSw; (try dsimp only at hSw); go_simp; try (with_reducible rfl)
      try simp only [Act.put, lA, lB, lC]
      refine tR (i := 18) (v := ?_) ?_ ?_; rotate_left
      ·
       intro w hSw; (try dsimp only at hSw); go_simp; try (with_reducible rfl)
      try simp only [Act.put, lA, lB, lC]
      refine tR (i := 19) (v := ?_) ?_ ?_; rotate_left
      ·
       intro w hSw; (try dsimp only at hSw); go_simp; try (with_reducible rfl)
      try simp only [Act.put, lA, lB, lC]
      refine tR (i := 20) (v := ?_) ?_ ?_; rotate_left
      ·
       intro w hSw; (try dsimp only at hSw); go_simp; try (with_reducible rfl)
      try simp only [Act.put, lA, lB, lC]
      refine tR (i := 21) (v := ?_) ?_ ?_; rotate_left
      ·
       intro w hSw; (try dsimp only at hSw); go_simp; try (with_reducible rfl)
      try simp only [Act.put, lA, lB, lC]
      refine tR (i := 22) (v := ?_) ?_ ?_; rotate_left
      ·
       intro w hSw; (try dsimp only at hSw); go_simp; try (with_reducible rfl)
      try simp only [Act.put, lA, lB, lC]
      refine tR (i := 23) (v := ?_) ?_ ?_; rotate_left
      ·
       intro w hSw; (try dsimp only at hSw); go_simp; try (with_reducible rfl)
      try simp only [Act.put, lA, lB, lC]
      refine tR (i := 24) (v := ?_) ?_ ?_; rotate_left
      ·
       intro w hSw; (try dsimp only at hSw); go_simp; try (with_reducible rfl)
      try simp only [Act.put, lA, lB, lC]
      refine tR (i := 25) (v := ?_) ?_ ?_; rotate_left
      ·
       intro w hSw; (try dsimp only at hSw); go_simp; try (with_reducible rfl)
      try simp only [Act.put, lA, lB, lC]
      refine tR (i := 26) (v := ?_) ?_ ?_; rotate_left
      ·
       intro w hSw; (try dsimp only at hSw); go_simp; try (with_reducible rfl)
      try simp only [Act.put, lA, lB, lC]
      refine wpAnyH_done (by kernel_rfl) ?_ _
      have b11 := hbel.trans (b10.mono hbel.size)
      clear s0 s1 s2 s3 hHeld b9 b10
      try clear s4
      go_wp2
      go_roundw
      case rel => exact ⟨k + 1, by omega, by go_num, HA, b11⟩
      case measure => simp [intOf]; omega
  ·
   obtain rfl : k = cs.length := by omega
   have HCB := Lib.hid (condsB_all hall.out)
   have p0 := (cell_of_row wr _ 0 _ _ _ kb).trans (show _ = some (Value.int .i64 id) from rfl)
   have p1 := (cell_of_row wr _ 1 _ _ _ kb).trans (show _ = some (Value.int .i64 tn) from rfl)
   have p3 := (cell_of_row wr _ 3 _ _ _ kb).trans (show _ = some (Value.slice oa os.length ocap) from rfl)
   have b11 := HB0.out.trans (hbel.mono HB0.out.size)
   have IO := Lib.hid (ints_below HO.out hbel)
   clear hall kb hbel
   by_cases h1 : 0 ≤ id ∧ id ≤ 23
   ·
    have H1 := Lib.hid (fun w => in_yes id 0 23 w h1.1 h1.2)
    by_cases h2 : 0 ≤ tn ∧ tn ≤ 3
    ·
     have H2 := Lib.hid (fun w => in_yes tn 0 3 w h2.1 h2.2)
     by_cases h3 : cs.length ≤ 3
     ·
      have HQ : Hid (queryB id tn cs os = fieldsB os) := Lib.hid (by unfold queryB; rw [HCB.out, decide_eq_true h1, decide_eq_true h2, decide_eq_true h3]; simp)
      have h3i : (cs.length : Int) ≤ 3 := by omega
      clear h1 h2 h3
      generalize fieldsB os = r at *
      go_wp2_with fail
      refine (H1.out _).mono ?_
      rintro e w1 ⟨rfl, rfl⟩
      go_wp2_with fail
      refine (H2.out _).mono ?_
      rintro e w1 ⟨rfl, rfl⟩
      go_wp2_with fail
      refine (HFD.out _ IO.out).mono ?_
      rintro e w1 ⟨rfl, rfl⟩
      go_wp2
      go_ret
      exact ⟨ret_b HQ.out.symm, b11⟩
     ·
      have HQ : Hid (queryB id tn cs os = false) := Lib.hid (by unfold queryB; rw [decide_eq_false h3]; simp)
      have h3i : ¬ (cs.length : Int) ≤ 3 := by omega
      clear h1 h2 h3
      go_wp2_with fail
      refine (H1.out _).mono ?_
      rintro e w1 ⟨rfl, rfl⟩
      go_wp2_with fail
      refine (H2.out _).mono ?_
      rintro e w1 ⟨rfl, rfl⟩
      go_wp2
      go_ret
      exact ⟨ret_b HQ.out.symm, b11⟩
    ·
     have H2 := Lib.hid (fun w => in_no tn 0 3 w h2)
     have HQ : Hid (queryB id tn cs os = false) := Lib.hid (by unfold queryB; rw [decide_eq_false h2]; simp)
     clear h1 h2
     go_wp2_with fail
     refine (H1.out _).mono ?_
     rintro e w1 ⟨rfl, rfl⟩
     go_wp2_with fail
     refine (H2.out _).mono ?_
     rintro e w1 ⟨rfl, rfl⟩
     go_wp2
     go_ret
     exact ⟨ret_b HQ.out.symm, b11⟩
   ·
    have H1 := Lib.hid (fun w => in_no id 0 23 w h1)
    have HQ : Hid (queryB id tn cs os = false) := Lib.hid (by unfold queryB; rw [decide_eq_false h1]; simp)
    clear h1
    go_wp2_with fail
    refine (H1.out _).mono ?_
    rintro e w1 ⟨rfl, rfl⟩
    go_wp2
    go_ret
    exact ⟨ret_b HQ.out.symm, b11⟩
/-- A query's data: number, tenant, conditions, fields. -/
abbrev QD := Int × Int × List CondD × List Int
def q0D : QD := (0, 0, [], [])
/-- The slice v reads as the queries qs. -/
def QueriesR (w : World) (v : Value) (qs : List QD) : Prop :=
 (qs = [] ∧ ∃ a cap, v = .slice a 0 cap) ∨ ∃ (b off cap : Nat) (vs us : Nat → Value), v = .slice (some ⟨b, off, none⟩) qs.length cap ∧ qs.length ≤ cap ∧ b < w.heap.size ∧
  ∀ j, j < qs.length → w.cell? ⟨b, off + j * 4, none⟩ = some (.int .i64 (qs.getD j q0D).1) ∧ w.cell? ⟨b, off + j * 4 + 1, none⟩ = some (.int .i64 (qs.getD j q0D).2.1) ∧ w.cell? ⟨b, off + j * 4 + 2, none⟩ = some (vs j) ∧ w.cell? ⟨b, off + j * 4 + 3, none⟩ = some (us j) ∧
   CondsR w (vs j) (qs.getD j q0D).2.2.1 ∧ Ints w (us j) (qs.getD j q0D).2.2.2
theorem queriesR_len {w : World} {v : Value} {qs : List QD} (h : QueriesR w v qs) : ∃ a cap, v = .slice a qs.length cap := by
 rcases h with ⟨rfl, a, cap, rfl⟩ | ⟨b, off, cap, vs, us, rfl, _⟩
 ·
  exact ⟨a, cap, rfl⟩
 ·
  exact ⟨_, cap, rfl⟩
theorem queriesR_below {W w : World} {v : Value} {qs : List QD} (h : QueriesR W v qs) (hb : Below W.heap.size W w) : QueriesR w v qs := by
 rcases h with h | ⟨b, off, cap, vs, us, h1, h2, h3, h4⟩
 ·
  exact Or.inl h
 ·
  refine Or.inr ⟨b, off, cap, vs, us, h1, h2, Nat.lt_of_lt_of_le h3 hb.size, fun j hj => ?_⟩
  obtain ⟨g1, g2, g3, g4, g5, g6⟩ := h4 j hj
  exact ⟨(hb.cell (p := ⟨b, off + j * 4, none⟩) h3).trans g1, (hb.cell (p := ⟨b, off + j * 4 + 1, none⟩) h3).trans g2, (hb.cell (p := ⟨b, off + j * 4 + 2, none⟩) h3).trans g3, (hb.cell (p := ⟨b, off + j * 4 + 3, none⟩) h3).trans g4, condsR_below g5 hb, ints_below g6 hb⟩
theorem queriesR_at {w : World} {v : Value} {qs : List QD} (h : QueriesR w v qs) {k : Nat} (hk : k < qs.length) : ∃ (b off cap : Nat) (cv ov : Value), v = .slice (some ⟨b, off, none⟩) qs.length cap ∧ b < w.heap.size ∧
  w.cell? ⟨b, off + k * 4, none⟩ = some (.int .i64 (qs.getD k q0D).1) ∧ w.cell? ⟨b, off + k * 4 + 1, none⟩ = some (.int .i64 (qs.getD k q0D).2.1) ∧ w.cell? ⟨b, off + k * 4 + 2, none⟩ = some cv ∧ w.cell? ⟨b, off + k * 4 + 3, none⟩ = some ov ∧
  CondsR w cv (qs.getD k q0D).2.2.1 ∧ Ints w ov (qs.getD k q0D).2.2.2 := by
 rcases h with ⟨rfl, _⟩ | ⟨b, off, cap, vs, us, h1, h2, h3, h4⟩
 ·
  simp at hk
 ·
  obtain ⟨g1, g2, g3, g4, g5, g6⟩ := h4 k hk
  exact ⟨b, off, cap, vs k, us k, h1, h3, g1, g2, g3, g4, g5, g6⟩
/-- How many conditions, fields and elements the first k queries hold. -/
def szQTo (qs : List QD) (k : Nat) : Nat := qs.length + ((qs.take k).map fun q => q.2.2.1.length + q.2.2.2.length).sum
def szQL (qs : List QD) : Nat := szQTo qs qs.length
theorem szQTo_zero (qs : List QD) : szQTo qs 0 = qs.length := by simp [szQTo]
theorem szQTo_step {qs : List QD} {k : Nat} (hk : k < qs.length) : szQTo qs (k + 1) = szQTo qs k + ((qs.getD k q0D).2.2.1.length + (qs.getD k q0D).2.2.2.length) := by
 unfold szQTo
 have e : qs.getD k q0D = qs[k] := by simp [List.getD, hk]
 rw [e, List.take_succ_eq_append_getElem hk, List.map_append, List.sum_append]
 simp; omega
theorem szQTo_le {qs : List QD} {k : Nat} (hk : k ≤ qs.length) : szQTo qs k ≤ szQL qs := by
 unfold szQL szQTo
 have h2 : (qs.map fun q : QD => q.2.2.1.length + q.2.2.2.length).sum = ((qs.take k).map fun q => q.2.2.1.length + q.2.2.2.length).sum + ((qs.drop k).map fun q => q.2.2.1.length + q.2.2.2.length).sum := by
  rw [← List.sum_append, ← List.map_append, List.take_append_drop]
 rw [List.take_length, h2]
 omega
theorem szQL_at {qs : List QD} (hs : szQL qs ≤ 1048576) {k : Nat} (hk : k < qs.length) : (qs.getD k q0D).2.2.1.length ≤ 1048576 ∧ (qs.getD k q0D).2.2.2.length ≤ 1048576 := by
 have h1 := szQTo_step hk
 have h2 := szQTo_le (qs := qs) (k := k + 1) (by omega)
 omega
theorem szQL_len {qs : List QD} (hs : szQL qs ≤ 1048576) : qs.length ≤ 1048576 := by
 have := szQTo_le (qs := qs) (Nat.zero_le _); rw [szQTo_zero] at this; omega
theorem Tryd.infoQuery : (Tryd.prog.info? 63).map (fun i => (i.zero, i.size, i.bytes)) = some (some (.agg #[.int .i64 0, .int .i64 0, .slice none 0 0, .slice none 0 0]), 4, 64) := by kernel_rfl
/-- The slice v owns the queries qs, in blocks from B on, each block once: the conditions of query j lie in vs (2 j), its fields in vs (2 j + 1). -/
def OwnsQ (w : World) (B : Nat) (v : Value) (qs : List QD) : Prop :=
 ∃ (cs : List Value) (vs : Nat → Value), w.ownsRow B 63 4 v qs.length cs ∧
  (∀ j, j < qs.length → cs[j * 4]? = some (.int .i64 (qs.getD j q0D).1) ∧ cs[j * 4 + 1]? = some (.int .i64 (qs.getD j q0D).2.1) ∧ cs[j * 4 + 2]? = some (vs (2 * j)) ∧ cs[j * 4 + 3]? = some (vs (2 * j + 1)) ∧
   OwnsC w B (vs (2 * j)) (qs.getD j q0D).2.2.1 ∧ OwnsN w B (vs (2 * j + 1)) (qs.getD j q0D).2.2.2) ∧
  (∀ i, i < 2 * qs.length → ∀ b, (vs i).ownBlock = some b → v.ownBlock ≠ some b) ∧
  ∀ i j, i < 2 * qs.length → j < 2 * qs.length → i ≠ j → ∀ b, (vs i).ownBlock = some b → (vs j).ownBlock ≠ some b
end Go.Proofs.YtededfficggkaaaDoor
