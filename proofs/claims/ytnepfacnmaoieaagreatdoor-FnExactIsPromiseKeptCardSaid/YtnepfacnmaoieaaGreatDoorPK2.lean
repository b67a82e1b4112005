/-
 Texts of the proof, merged: SetMath, SetSpec, RowSpec, RowSl, RowOwn, RowLaw1, RowLaws, RowEq.
-/
import Derived.Test.YtnepfacnmaoieaaGreatDoorPK1
import Derived.WalkKit
import Derived.Deep.RegionHeld3
import Derived.IntWalk
import Derived.BigQuiet
import Derived.Deep.QuietTactic
namespace Go.Proofs.YtnepfacnmaoieaaGreatDoor
open Go.RowKit
set_option maxRecDepth 100000
set_option linter.unusedVariables false
set_option linter.unusedSimpArgs false
/-- Is the list a set? -/
def SetL (l : List Int) : Prop := (∀ i, i < l.length → 0 ≤ l.getD i 0 ∧ l.getD i 0 ≤ 23) ∧ ∀ i, i + 1 < l.length → l.getD i 0 < l.getD (i + 1) 0
/-- The same as a test. -/
def setB (l : List Int) : Bool := (List.range l.length).all fun i => decide (0 ≤ l.getD i 0) && decide (l.getD i 0 ≤ 23) && (decide (i = 0) || decide (l.getD (i - 1) 0 < l.getD i 0))
theorem setB_iff (l : List Int) : setB l = true ↔ SetL l := by
 unfold setB SetL
 rw [List.all_eq_true]
 simp only [List.mem_range, Bool.and_eq_true, Bool.or_eq_true, decide_eq_true_eq]
 constructor
 ·
  intro h
  refine ⟨fun i hi => (h i hi).1, fun i hi => ?_⟩
  rcases (h (i + 1) hi).2 with h1 | h1
  ·
   omega
  ·
   simpa using h1
 ·
  rintro ⟨h1, h2⟩ i hi
  refine ⟨h1 i hi, ?_⟩
  by_cases e : i = 0
  ·
   exact Or.inl e
  ·
   right
   have := h2 (i - 1) (by omega)
   rwa [show i - 1 + 1 = i by omega] at this
theorem setB_no {l : List Int} (h : ¬ SetL l) : setB l = false := by
 cases e : setB l with
 | false => rfl
 | true => exact absurd ((setB_iff l).1 e) h
/-- As far as k the list is a set. -/
def SetTo (l : List Int) (k : Nat) : Prop := (∀ i, i < k → 0 ≤ l.getD i 0 ∧ l.getD i 0 ≤ 23) ∧ ∀ i, i + 1 < k → l.getD i 0 < l.getD (i + 1) 0
theorem setTo_all (l : List Int) : SetTo l l.length ↔ SetL l := Iff.rfl
theorem setTo_step {l : List Int} {k : Nat} (h : SetTo l k) (h0 : 0 ≤ l.getD k 0) (h1 : l.getD k 0 ≤ 23) (h2 : 0 < k → l.getD (k - 1) 0 < l.getD k 0) : SetTo l (k + 1) := by
 refine ⟨fun i hi => ?_, fun i hi => ?_⟩
 ·
  by_cases e : i = k
  ·
   subst e; exact ⟨h0, h1⟩
  ·
   exact h.1 i (by omega)
 ·
  by_cases e : i + 1 = k
  ·
   subst e; have := h2 (by omega); simpa using this
  ·
   exact h.2 i (by omega)
theorem not_set_range {l : List Int} {k : Nat} (hk : k < l.length) (h : ¬ (0 ≤ l.getD k 0 ∧ l.getD k 0 ≤ 23)) : ¬ SetL l := fun g => h (g.1 k hk)
theorem not_set_order {l : List Int} {k : Nat} (hk : k < l.length) (h0 : 0 < k) (h : ¬ l.getD (k - 1) 0 < l.getD k 0) : ¬ SetL l := fun g => by
 have := g.2 (k - 1) (by omega)
 rw [show k - 1 + 1 = k by omega] at this
 exact h this
theorem member_iff (l : List Int) (x : Int) : x ∈ l ↔ ∃ i, i < l.length ∧ l.getD i 0 = x := by
 constructor
 ·
  intro h
  obtain ⟨i, hi, e⟩ := List.getElem_of_mem h
  exact ⟨i, hi, by simp [List.getD, hi, e]⟩
 ·
  rintro ⟨i, hi, e⟩
  have : l[i] = x := by simpa [List.getD, hi] using e
  rw [← this]; exact List.getElem_mem hi
theorem ret_b {b c : Bool} (h : b = c) : Ending.returned (.bool b) = .returned (.bool c) := by rw [h]
theorem in_yes (a l h : Int) (w : World) (h1 : l ≤ a) (h2 : a ≤ h) : Calls Tryz.prog 55 #[.int .i64 a, .int .i64 l, .int .i64 h] w fun e w' => e = .returned (.bool true) ∧ w' = w := by
 go_enter Tryz.func55, Tryz.ntmps55
 go_wp2
 go_ret
 exact ⟨rfl, rfl⟩
theorem in_no (a l h : Int) (w : World) (hh : ¬ (l ≤ a ∧ a ≤ h)) : Calls Tryz.prog 55 #[.int .i64 a, .int .i64 l, .int .i64 h] w fun e w' => e = .returned (.bool false) ∧ w' = w := by
 by_cases h1 : l ≤ a
 ·
  have h2 : ¬ a ≤ h := by omega
  clear hh
  go_enter Tryz.func55, Tryz.ntmps55
  go_wp2
  go_ret
  exact ⟨rfl, rfl⟩
 ·
  clear hh
  go_enter Tryz.func55, Tryz.ntmps55
  go_wp2
  go_ret
  exact ⟨rfl, rfl⟩
/-! ### HasMember -/
theorem specHas (v : Value) (xs : List Int) (x : Int) (w : World) (h : Ints w v xs) (hn : xs.length ≤ 1048576) :
  Calls Tryz.prog 187 #[v, .int .i64 x] w fun e w' => e = .returned (.bool (decide (x ∈ xs))) ∧ w = w' := by
 have H := Lib.hid h
 obtain ⟨a, cap, rfl⟩ := ints_len h
 clear h
 go_enter Tryz.func187, Tryz.ntmps187
 go_wp2
 go_loop [5] (fun i => ∃ k : Nat, k ≤ xs.length ∧ i = .int .i64 k ∧ Hid (∀ j, j < k → xs.getD j 0 ≠ x)) (fun i => xs.length - (intOf i).toNat)
 case atStart => exact ⟨0, Nat.zero_le _, rfl, Lib.hid (fun j hj => by omega)⟩
 case round =>
  obtain ⟨k, hk, rfl, hne⟩ := hrel
  by_cases hlt : k < xs.length
  ·
   obtain ⟨b, off, cap', hv, hbl, hc⟩ := ints_cell H.out (by omega)
   simp only [Value.slice.injEq] at hv
   obtain ⟨rfl, _, rfl⟩ := hv
   have hcell := hc k hlt
   have i1 : (0 : Int) ≤ (k : Int) := by omega
   have i2 : (k : Int) < (xs.length : Int) := by omega
   clear hc
   by_cases he : xs.getD k 0 = x
   ·
    have HY := Lib.hid (show decide (x ∈ xs) = true from decide_eq_true ((member_iff xs x).2 ⟨k, hlt, he⟩))
    rw [he] at hcell
    have heq : (x == x) = true := by simp
    clear he
    go_wp2
    go_ret
    exact ⟨ret_b HY.out.symm, rfl⟩
   ·
    have HN : Hid (∀ j, j < k + 1 → xs.getD j 0 ≠ x) := Lib.hid (fun j hj => by
     by_cases e : j = k
     ·
      exact e ▸ he
     ·
      exact hne.out j (by omega))
    have heq : (xs.getD k 0 == x) = false := by rw [beq_eq_false_iff_ne]; exact he
    clear he
    generalize xs.getD k 0 = y at hcell heq
    go_wp2
    go_round
    case rel => exact ⟨k + 1, by omega, by go_num, HN⟩
    case measure => simp [intOf]; omega
  ·
   have HN := Lib.hid (show decide (x ∈ xs) = false from decide_eq_false (fun g => by
    obtain ⟨j, hj, e⟩ := (member_iff xs x).1 g
    exact hne.out j (by omega) e))
   go_wp2
   go_ret
   exact ⟨ret_b HN.out.symm, rfl⟩
/-! ### IsSet -/
set_option maxHeartbeats 1000000 in
theorem specIsSetBig (v : Value) (xs : List Int) (w : World) (h : Ints w v xs) (hn : xs.length ≤ 1073741824) :
  Calls Tryz.prog 190 #[v] w fun e w' => e = .returned (.bool (setB xs)) ∧ Below w.heap.size w w' := by
 have H := Lib.hid h
 obtain ⟨a, cap, rfl⟩ := ints_len h
 clear h
 go_enter Tryz.func190, Tryz.ntmps190
 go_wp2
 go_loopw [3] (fun i wr => ∃ k : Nat, k ≤ xs.length ∧ i = .int .i64 k ∧ Hid (SetTo xs k) ∧ Below w.heap.size w wr) (fun i _ => xs.length - (intOf i).toNat)
 case atStart => exact ⟨0, Nat.zero_le _, rfl, Lib.hid ⟨fun i hi => by omega, fun i hi => by omega⟩, Below.refl _ _⟩
 case round =>
  obtain ⟨k, hk, rfl, hset, hbel⟩ := hrel
  by_cases hlt : k < xs.length
  ·
   obtain ⟨b, off, cap', hv, hbl, hc⟩ := ints_cell H.out (by omega)
   simp only [Value.slice.injEq] at hv
   obtain ⟨rfl, _, rfl⟩ := hv
   have hcell := (hbel.cell (p := ⟨b, off + k, none⟩) hbl).trans (hc k hlt)
   have i1 : (0 : Int) ≤ (k : Int) := by omega
   have i2 : (k : Int) < (xs.length : Int) := by omega
   by_cases hin : 0 ≤ xs.getD k 0 ∧ xs.getD k 0 ≤ 23
   ·
    by_cases hz : k = 0
    ·
     have HS : Hid (SetTo xs (k + 1)) := Lib.hid (setTo_step hset.out hin.1 hin.2 (fun g => by omega))
     obtain ⟨g0, g1⟩ := hin
     have hd : decide (0 < k) = false := by simp [hz]
     have hd2 : decide ((0 : Int) < (k : Int)) = false := by simp [hz]
     clear hc hz
     generalize xs.getD k 0 = y at hcell g0 g1
     go_wp2
     go_quiet ((go_at_call 55; exact Calls.quiet_of_same (in_yes _ _ _ _ (by omega) (by omega))))
     go_wp2
     go_roundw
     case rel => exact ⟨k + 1, by omega, by go_num, HS, below_same hbel rfl rfl rfl rfl⟩
     case measure => simp [intOf]; omega
    ·
     have hcellp := (hbel.cell (p := ⟨b, off + (k - 1), none⟩) hbl).trans (hc (k - 1) (by omega))
     obtain ⟨g0, g1⟩ := hin
     have hd : 0 < k := by omega
     have i3 : (0 : Int) ≤ (k : Int) - 1 := by omega
     have i4 : (k : Int) - 1 < (xs.length : Int) := by omega
     have i5 : ((k : Int) - 1).toNat = k - 1 := by omega
     have e1 : IntKind.i64.wrap ((k : Int) - 1) = (k : Int) - 1 := IntWalk.i64_in _ (by omega)
     by_cases hle : xs.getD k 0 ≤ xs.getD (k - 1) 0
     ·
      have HNO := Lib.hid (setB_no (not_set_order hlt hd (by omega)))
      clear hc hz
      generalize xs.getD (k - 1) 0 = z at hcellp hle
      generalize xs.getD k 0 = y at hcell g0 g1 hle
      have hdl : decide (y ≤ z) = true := decide_eq_true hle
      go_wp2
      go_quiet ((go_at_call 55; exact Calls.quiet_of_same (in_yes _ _ _ _ (by omega) (by omega))))
      go_wp2
      go_ret
      exact ⟨ret_b HNO.out.symm, below_same hbel rfl rfl rfl rfl⟩
     ·
      have HS : Hid (SetTo xs (k + 1)) := Lib.hid (setTo_step hset.out g0 g1 (fun _ => by omega))
      clear hc hz
      generalize xs.getD (k - 1) 0 = z at hcellp hle
      generalize xs.getD k 0 = y at hcell g0 g1 hle
      have hdl : decide (y ≤ z) = false := decide_eq_false hle
      go_wp2
      go_quiet ((go_at_call 55; exact Calls.quiet_of_same (in_yes _ _ _ _ (by omega) (by omega))))
      go_wp2
      go_roundw
      case rel => exact ⟨k + 1, by omega, by go_num, HS, below_same hbel rfl rfl rfl rfl⟩
      case measure => simp [intOf]; omega
   ·
    have HNO := Lib.hid (setB_no (not_set_range hlt hin))
    clear hc
    generalize xs.getD k 0 = y at hcell hin
    have HI := Lib.hid hin
    clear hin
    go_wp2
    go_quiet ((go_at_call 55; exact Calls.quiet_of_same (in_no _ _ _ _ HI.out)))
    go_wp2
    go_ret
    exact ⟨ret_b HNO.out.symm, below_same hbel rfl rfl rfl rfl⟩
  ·
   obtain rfl : k = xs.length := by omega
   have HY := Lib.hid ((setB_iff xs).2 hset.out)
   go_wp2
   go_ret
   exact ⟨ret_b HY.out.symm, hbel⟩
theorem specIsSet (v : Value) (xs : List Int) (w : World) (h : Ints w v xs) (hn : xs.length ≤ 1048576) :
  Calls Tryz.prog 190 #[v] w fun e w' => e = .returned (.bool (setB xs)) ∧ Below w.heap.size w w' := specIsSetBig v xs w h (by omega)
/-- Is it a row? -/
def rowB (r : RowD) : Bool := decide (0 ≤ r.1 ∧ r.1 ≤ 999) && (r.2.all (fun x => decide (0 ≤ x ∧ x ≤ 99)) && decide (r.2.length = 3))
theorem rowB_bad {id : Int} {xs : List Int} {k : Nat} (hk : k < xs.length) (h : ¬ (0 ≤ xs.getD k 0 ∧ xs.getD k 0 ≤ 99)) : rowB (id, xs) = false := by
 have e : xs.getD k 0 = xs[k] := by simp [List.getD, hk]
 rw [e] at h
 have : (xs.all fun x => decide (0 ≤ x ∧ x ≤ 99)) = false := by
  rw [Bool.eq_false_iff]
  intro g
  rw [List.all_eq_true] at g
  exact h (of_decide_eq_true (g _ (List.getElem_mem hk)))
 unfold rowB
 simp only [this]
 simp
theorem rowB_all {id : Int} {xs : List Int} (h : ∀ k, k < xs.length → 0 ≤ xs.getD k 0 ∧ xs.getD k 0 ≤ 99) : rowB (id, xs) = (decide (0 ≤ id ∧ id ≤ 999) && decide (xs.length = 3)) := by
 have : (xs.all fun x => decide (0 ≤ x ∧ x ≤ 99)) = true := by
  rw [List.all_eq_true]
  intro x hx
  obtain ⟨k, hk, rfl⟩ := List.getElem_of_mem hx
  have := h k hk
  have e : xs.getD k 0 = xs[k] := by simp [List.getD, hk]
  rw [e] at this
  exact decide_eq_true this
 unfold rowB
 simp only [this, Bool.true_and]
set_option maxHeartbeats 2000000 in
theorem specIsRow (id : Int) (vv : Value) (xs : List Int) (w : World) (h : Ints w vv xs) (hn : xs.length ≤ 1048576) :
  Calls Tryz.prog 189 #[.agg #[.int .i64 id, vv]] w fun e w' => e = .returned (.bool (rowB (id, xs))) ∧ Below w.heap.size w w' := by
 have H := Lib.hid h
 obtain ⟨a, cap, rfl⟩ := ints_len h
 clear h
 go_enter Tryz.func189, Tryz.ntmps189
 go_wp2
 have hb0 : Below w.heap.size w (w.alloc (.cells #[.int .i64 id, .slice a xs.length cap] 75)) := (Below.refl _ w).alloc (Nat.le_refl _) _
 have hc0 : (w.alloc (.cells #[.int .i64 id, .slice a xs.length cap] 75)).heap[w.heap.size]? = some (.cells #[.int .i64 id, .slice a xs.length cap] 75 (0, 0)) := heap_alloc_new w _
 have d0 := (cell_of_row _ _ 0 _ _ _ hc0).trans (show _ = some (Value.int .i64 id) from rfl)
 have d1 := (cell_of_row _ _ 1 _ _ _ hc0).trans (show _ = some (Value.slice a xs.length cap) from rfl)
 have H1 := Lib.hid (ints_below H.out hb0)
 have hlt1 : w.heap.size < (w.alloc (.cells #[.int .i64 id, .slice a xs.length cap] 75)).heap.size := by simp [World.size_alloc]
 generalize w.alloc (.cells #[.int .i64 id, .slice a xs.length cap] 75) = W at *
 clear hc0
 go_loopw [3] (fun i wr => ∃ k : Nat, k ≤ xs.length ∧ i = .int .i64 k ∧ Hid (∀ j, j < k → 0 ≤ xs.getD j 0 ∧ xs.getD j 0 ≤ 99) ∧ Below W.heap.size W wr) (fun i _ => xs.length - (intOf i).toNat)
 case atStart => exact ⟨0, Nat.zero_le _, rfl, Lib.hid (fun j hj => by omega), Below.refl _ _⟩
 case round =>
  obtain ⟨k, hk, rfl, hall, hbel⟩ := hrel
  have c0 := (hbel.cell (p := ⟨w.heap.size, 0, none⟩) hlt1).trans d0
  have c1 := (hbel.cell (p := ⟨w.heap.size, 1, none⟩) hlt1).trans d1
  by_cases hlt : k < xs.length
  ·
   obtain ⟨b, off, cap', hv, hbl, hc⟩ := ints_cell H1.out (by omega)
   simp only [Value.slice.injEq] at hv
   obtain ⟨rfl, _, rfl⟩ := hv
   have hcell := (hbel.cell (p := ⟨b, off + k, none⟩) hbl).trans (hc k hlt)
   have i1 : (0 : Int) ≤ (k : Int) := by omega
   have i2 : (k : Int) < (xs.length : Int) := by omega
   clear hc
   by_cases hr : 0 ≤ xs.getD k 0 ∧ xs.getD k 0 ≤ 99
   ·
    have HA : Hid (∀ j, j < k + 1 → 0 ≤ xs.getD j 0 ∧ xs.getD j 0 ≤ 99) := Lib.hid (fun j hj => by
     by_cases e : j = k
     ·
      exact e ▸ hr
     ·
      exact hall.out j (by omega))
    have HI := Lib.hid (fun w => in_yes (xs.getD k 0) 0 99 w hr.1 hr.2)
    clear hr hall
    generalize xs.getD k 0 = y at *
    go_wp2_with fail
    refine (HI.out _).mono ?_
    rintro e wx ⟨rfl, rfl⟩
    go_wp2
    go_roundw
    case rel => exact ⟨k + 1, by omega, by go_num, HA, hbel⟩
    case measure => simp [intOf]; omega
   ·
    have HF := Lib.hid (rowB_bad (id := id) hlt hr)
    have HI := Lib.hid (fun w => in_no (xs.getD k 0) 0 99 w hr)
    clear hr hall
    generalize xs.getD k 0 = y at *
    go_wp2_with fail
    refine (HI.out _).mono ?_
    rintro e wx ⟨rfl, rfl⟩
    go_wp2
    go_ret
    exact ⟨ret_b HF.out.symm, hb0.trans (hbel.mono hb0.size)⟩
  ·
   obtain rfl : k = xs.length := by omega
   have HF := Lib.hid (rowB_all (id := id) hall.out)
   clear hall
   by_cases hr : 0 ≤ id ∧ id ≤ 999
   ·
    have HI := Lib.hid (fun w => in_yes id 0 999 w hr.1 hr.2)
    have HD := Lib.hid (decide_eq_true hr)
    rw [HD.out] at HF
    clear hr HD
    go_wp2_with fail
    refine (HI.out _).mono ?_
    rintro e wx ⟨rfl, rfl⟩
    by_cases h3 : xs.length = 3
    ·
     have h3' : ((xs.length : Int) == 3) = true := by rw [beq_iff_eq]; omega
     have HE : Hid (rowB (id, xs) = true) := Lib.hid (by rw [HF.out, decide_eq_true h3]; rfl)
     clear h3
     go_wp2
     go_ret
     exact ⟨ret_b HE.out.symm, hb0.trans (hbel.mono hb0.size)⟩
    ·
     have h3' : ((xs.length : Int) == 3) = false := by rw [beq_eq_false_iff_ne]; omega
     have HE : Hid (rowB (id, xs) = false) := Lib.hid (by rw [HF.out, decide_eq_false h3]; rfl)
     clear h3
     go_wp2
     go_ret
     exact ⟨ret_b HE.out.symm, hb0.trans (hbel.mono hb0.size)⟩
   ·
    have HI := Lib.hid (fun w => in_no id 0 999 w hr)
    have HE : Hid (rowB (id, xs) = false) := Lib.hid (by rw [HF.out, decide_eq_false hr]; rfl)
    clear hr HF
    go_wp2_with fail
    refine (HI.out _).mono ?_
    rintro e wx ⟨rfl, rfl⟩
    go_wp2
    go_ret
    exact ⟨ret_b HE.out.symm, hb0.trans (hbel.mono hb0.size)⟩
/-- The slice v reads as the rows rs; vs: where their values lie. -/
def RowsR (w : World) (v : Value) (rs : List RowD) : Prop :=
 (rs = [] ∧ ∃ a cap, v = .slice a 0 cap) ∨ ∃ (b off cap : Nat) (vs : Nat → Value), v = .slice (some ⟨b, off, none⟩) rs.length cap ∧ rs.length ≤ cap ∧ b < w.heap.size ∧
  ∀ j, j < rs.length → w.cell? ⟨b, off + j * 2, none⟩ = some (.int .i64 (rs.getD j (0, [])).1) ∧ w.cell? ⟨b, off + j * 2 + 1, none⟩ = some (vs j) ∧ Ints w (vs j) (rs.getD j (0, [])).2
/-- The slice v owns the rows rs, in blocks from B on, each block once. -/
def OwnsR (w : World) (B : Nat) (v : Value) (rs : List RowD) : Prop :=
 ∃ (cs : List Value) (vs : Nat → Value), w.ownsRow B 75 2 v rs.length cs ∧
  (∀ j, j < rs.length → cs[j * 2]? = some (.int .i64 (rs.getD j (0, [])).1) ∧ cs[j * 2 + 1]? = some (vs j) ∧ OwnsN w B (vs j) (rs.getD j (0, [])).2 ∧ ∀ b, (vs j).ownBlock = some b → v.ownBlock ≠ some b) ∧
  ∀ i j, i < rs.length → j < rs.length → i ≠ j → ∀ b, (vs i).ownBlock = some b → (vs j).ownBlock ≠ some b
theorem below_drew {B : Nat} {a w : World} (h : Below B a w) : Below B a w.drew := ⟨h.os, h.tape, h.output, h.size, h.block⟩
theorem below_dn {B : Nat} {a w : World} (h : Below B a w) (q : Nat) : Below B a (w.drewN q) := ⟨h.os, h.tape, h.output, h.size, h.block⟩
theorem list_ne_at {xs ys : List Int} {k : Nat} (hx : k < xs.length) (h : ¬ xs.getD k 0 = ys.getD k 0) : ¬ xs = ys := fun e => h (by rw [e])
theorem list_eq_all {xs ys : List Int} (hl : xs.length = ys.length) (h : ∀ j, j < xs.length → xs.getD j 0 = ys.getD j 0) : xs = ys := by
 apply List.ext_getElem hl
 intro i h1 h2
 have := h i h1
 simpa [List.getD, h1, h2] using this
end Go.Proofs.YtnepfacnmaoieaaGreatDoor
