/-
 Texts of the proof, merged: SetMath, SetSpec, RowSpec, RowSl, RowOwn, RowLaw1, RowLaws, RowEq, Pk, PkN, PkS, JCond, JCondS, JIntS, JQuery, JRow, JRowS, JFinished.
-/
import Derived.Test.YtnepfacnmaoieaaGreatDoorRE1
import Derived.WalkKit
import Derived.Deep.RegionHeld3
import Derived.IntWalk
import Derived.BigQuiet
import Derived.Deep.QuietTactic
import Derived.Laws.Cells
import Derived.Laws.CopyRow
import Derived.Deep.Cut
namespace Go.Proofs.YtnepfacnmaoieaaGreatDoor
open Go.RowKit
set_option maxRecDepth 100000
set_option linter.unusedVariables false
set_option linter.unusedSimpArgs false
/-- Is the list a set? -/
def SetL (l : List Int) : Prop := (∀ i, i < l.length → 0 ≤ l.getD i 0 ∧ l.getD i 0 ≤ 23) ∧ ∀ i, i + 1 < l.length → l.getD i 0 < l.getD (i + 1) 0
/-- The same as a test. -/
def setB (l : List Int) : Bool := (List.range l.length).all fun i => decide (0 ≤ l.getD i 0) && decide (l.getD i 0 ≤ 23) && (decide (i = 0) || decide (l.getD (i - 1) 0 < l.getD i 0))
theorem setB_iff (l : List Int) : setB l = true ↔ SetL l := by
 unfold setB SetL
 rw [List.all_eq_true]
 simp only [List.mem_range, Bool.and_eq_true, Bool.or_eq_true, decide_eq_true_eq]
 constructor
 ·
  intro h
  refine ⟨fun i hi => (h i hi).1, fun i hi => ?_⟩
  rcases (h (i + 1) hi).2 with h1 | h1
  ·
   omega
  ·
   simpa using h1
 ·
  rintro ⟨h1, h2⟩ i hi
  refine ⟨h1 i hi, ?_⟩
  by_cases e : i = 0
  ·
   exact Or.inl e
  ·
   right
   have := h2 (i - 1) (by omega)
   rwa [show i - 1 + 1 = i by omega] at this
theorem setB_no {l : List Int} (h : ¬ SetL l) : setB l = false := by
 cases e : setB l with
 | false => rfl
 | true => exact absurd ((setB_iff l).1 e) h
/-- As far as k the list is a set. -/
def SetTo (l : List Int) (k : Nat) : Prop := (∀ i, i < k → 0 ≤ l.getD i 0 ∧ l.getD i 0 ≤ 23) ∧ ∀ i, i + 1 < k → l.getD i 0 < l.getD (i + 1) 0
theorem setTo_all (l : List Int) : SetTo l l.length ↔ SetL l := Iff.rfl
theorem setTo_step {l : List Int} {k : Nat} (h : SetTo l k) (h0 : 0 ≤ l.getD k 0) (h1 : l.getD k 0 ≤ 23) (h2 : 0 < k → l.getD (k - 1) 0 < l.getD k 0) : SetTo l (k + 1) := by
 refine ⟨fun i hi => ?_, fun i hi => ?_⟩
 ·
  by_cases e : i = k
  ·
   subst e; exact ⟨h0, h1⟩
  ·
   exact h.1 i (by omega)
 ·
  by_cases e : i + 1 = k
  ·
   subst e; have := h2 (by omega); simpa using this
  ·
   exact h.2 i (by omega)
theorem not_set_range {l : List Int} {k : Nat} (hk : k < l.length) (h : ¬ (0 ≤ l.getD k 0 ∧ l.getD k 0 ≤ 23)) : ¬ SetL l := fun g => h (g.1 k hk)
theorem not_set_order {l : List Int} {k : Nat} (hk : k < l.length) (h0 : 0 < k) (h : ¬ l.getD (k - 1) 0 < l.getD k 0) : ¬ SetL l := fun g => by
 have := g.2 (k - 1) (by omega)
 rw [show k - 1 + 1 = k by omega] at this
 exact h this
theorem member_iff (l : List Int) (x : Int) : x ∈ l ↔ ∃ i, i < l.length ∧ l.getD i 0 = x := by
 constructor
 ·
  intro h
  obtain ⟨i, hi, e⟩ := List.getElem_of_mem h
  exact ⟨i, hi, by simp [List.getD, hi, e]⟩
 ·
  rintro ⟨i, hi, e⟩
  have : l[i] = x := by simpa [List.getD, hi] using e
  rw [← this]; exact List.getElem_mem hi
theorem ret_b {b c : Bool} (h : b = c) : Ending.returned (.bool b) = .returned (.bool c) := by rw [h]
theorem in_yes (a l h : Int) (w : World) (h1 : l ≤ a) (h2 : a ≤ h) : Calls Tryz.prog 55 #[.int .i64 a, .int .i64 l, .int .i64 h] w fun e w' => e = .returned (.bool true) ∧ w' = w := by
 go_enter Tryz.func55, Tryz.ntmps55
 go_wp2
 go_ret
 exact ⟨rfl, rfl⟩
theorem in_no (a l h : Int) (w : World) (hh : ¬ (l ≤ a ∧ a ≤ h)) : Calls Tryz.prog 55 #[.int .i64 a, .int .i64 l, .int .i64 h] w fun e w' => e = .returned (.bool false) ∧ w' = w := by
 by_cases h1 : l ≤ a
 ·
  have h2 : ¬ a ≤ h := by omega
  clear hh
  go_enter Tryz.func55, Tryz.ntmps55
  go_wp2
  go_ret
  exact ⟨rfl, rfl⟩
 ·
  clear hh
  go_enter Tryz.func55, Tryz.ntmps55
  go_wp2
  go_ret
  exact ⟨rfl, rfl⟩
/-! ### HasMember -/
theorem specHas (v : Value) (xs : List Int) (x : Int) (w : World) (h : Ints w v xs) (hn : xs.length ≤ 1048576) :
  Calls Tryz.prog 187 #[v, .int .i64 x] w fun e w' => e = .returned (.bool (decide (x ∈ xs))) ∧ w = w' := by
 have H := Lib.hid h
 obtain ⟨a, cap, rfl⟩ := ints_len h
 clear h
 go_enter Tryz.func187, Tryz.ntmps187
 go_wp2
 go_loop [5] (fun i => ∃ k : Nat, k ≤ xs.length ∧ i = .int .i64 k ∧ Hid (∀ j, j < k → xs.getD j 0 ≠ x)) (fun i => xs.length - (intOf i).toNat)
 case atStart => exact ⟨0, Nat.zero_le _, rfl, Lib.hid (fun j hj => by omega)⟩
 case round =>
  obtain ⟨k, hk, rfl, hne⟩ := hrel
  by_cases hlt : k < xs.length
  ·
   obtain ⟨b, off, cap', hv, hbl, hc⟩ := ints_cell H.out (by omega)
   simp only [Value.slice.injEq] at hv
   obtain ⟨rfl, _, rfl⟩ := hv
   have hcell := hc k hlt
   have i1 : (0 : Int) ≤ (k : Int) := by omega
   have i2 : (k : Int) < (xs.length : Int) := by omega
   clear hc
   by_cases he : xs.getD k 0 = x
   ·
    have HY := Lib.hid (show decide (x ∈ xs) = true from decide_eq_true ((member_iff xs x).2 ⟨k, hlt, he⟩))
    rw [he] at hcell
    have heq : (x == x) = true := by simp
    clear he
    go_wp2
    go_ret
    exact ⟨ret_b HY.out.symm, rfl⟩
   ·
    have HN : Hid (∀ j, j < k + 1 → xs.getD j 0 ≠ x) := Lib.hid (fun j hj => by
     by_cases e : j = k
     ·
      exact e ▸ he
     ·
      exact hne.out j (by omega))
    have heq : (xs.getD k 0 == x) = false := by rw [beq_eq_false_iff_ne]; exact he
    clear he
    generalize xs.getD k 0 = y at hcell heq
    go_wp2
    go_round
    case rel => exact ⟨k + 1, by omega, by go_num, HN⟩
    case measure => simp [intOf]; omega
  ·
   have HN := Lib.hid (show decide (x ∈ xs) = false from decide_eq_false (fun g => by
    obtain ⟨j, hj, e⟩ := (member_iff xs x).1 g
    exact hne.out j (by omega) e))
   go_wp2
   go_ret
   exact ⟨ret_b HN.out.symm, rfl⟩
/-! ### IsSet -/
set_option maxHeartbeats 1000000 in
theorem specIsSetBig (v : Value) (xs : List Int) (w : World) (h : Ints w v xs) (hn : xs.length ≤ 1073741824) :
  Calls Tryz.prog 190 #[v] w fun e w' => e = .returned (.bool (setB xs)) ∧ Below w.heap.size w w' := by
 have H := Lib.hid h
 obtain ⟨a, cap, rfl⟩ := ints_len h
 clear h
 go_enter Tryz.func190, Tryz.ntmps190
 go_wp2
 go_loopw [3] (fun i wr => ∃ k : Nat, k ≤ xs.length ∧ i = .int .i64 k ∧ Hid (SetTo xs k) ∧ Below w.heap.size w wr) (fun i _ => xs.length - (intOf i).toNat)
 case atStart => exact ⟨0, Nat.zero_le _, rfl, Lib.hid ⟨fun i hi => by omega, fun i hi => by omega⟩, Below.refl _ _⟩
 case round =>
  obtain ⟨k, hk, rfl, hset, hbel⟩ := hrel
  by_cases hlt : k < xs.length
  ·
   obtain ⟨b, off, cap', hv, hbl, hc⟩ := ints_cell H.out (by omega)
   simp only [Value.slice.injEq] at hv
   obtain ⟨rfl, _, rfl⟩ := hv
   have hcell := (hbel.cell (p := ⟨b, off + k, none⟩) hbl).trans (hc k hlt)
   have i1 : (0 : Int) ≤ (k : Int) := by omega
   have i2 : (k : Int) < (xs.length : Int) := by omega
   by_cases hin : 0 ≤ xs.getD k 0 ∧ xs.getD k 0 ≤ 23
   ·
    by_cases hz : k = 0
    ·
     have HS : Hid (SetTo xs (k + 1)) := Lib.hid (setTo_step hset.out hin.1 hin.2 (fun g => by omega))
     obtain ⟨g0, g1⟩ := hin
     have hd : decide (0 < k) = false := by simp [hz]
     have hd2 : decide ((0 : Int) < (k : Int)) = false := by simp [hz]
     clear hc hz
     generalize xs.getD k 0 = y at hcell g0 g1
     go_wp2
     go_quiet ((go_at_call 55; exact Calls.quiet_of_same (in_yes _ _ _ _ (by omega) (by omega))))
     go_wp2
     go_roundw
     case rel => exact ⟨k + 1, by omega, by go_num, HS, below_same hbel rfl rfl rfl rfl⟩
     case measure => simp [intOf]; omega
    ·
     have hcellp := (hbel.cell (p := ⟨b, off + (k - 1), none⟩) hbl).trans (hc (k - 1) (by omega))
     obtain ⟨g0, g1⟩ := hin
     have hd : 0 < k := by omega
     have i3 : (0 : Int) ≤ (k : Int) - 1 := by omega
     have i4 : (k : Int) - 1 < (xs.length : Int) := by omega
     have i5 : ((k : Int) - 1).toNat = k - 1 := by omega
     have e1 : IntKind.i64.wrap ((k : Int) - 1) = (k : Int) - 1 := IntWalk.i64_in _ (by omega)
     by_cases hle : xs.getD k 0 ≤ xs.getD (k - 1) 0
     ·
      have HNO := Lib.hid (setB_no (not_set_order hlt hd (by omega)))
      clear hc hz
      generalize xs.getD (k - 1) 0 = z at hcellp hle
      generalize xs.getD k 0 = y at hcell g0 g1 hle
      have hdl : decide (y ≤ z) = true := decide_eq_true hle
      go_wp2
      go_quiet ((go_at_call 55; exact Calls.quiet_of_same (in_yes _ _ _ _ (by omega) (by omega))))
      go_wp2
      go_ret
      exact ⟨ret_b HNO.out.symm, below_same hbel rfl rfl rfl rfl⟩
     ·
      have HS : Hid (SetTo xs (k + 1)) := Lib.hid (setTo_step hset.out g0 g1 (fun _ => by omega))
      clear hc hz
      generalize xs.getD (k - 1) 0 = z at hcellp hle
      generalize xs.getD k 0 = y at hcell g0 g1 hle
      have hdl : decide (y ≤ z) = false := decide_eq_false hle
      go_wp2
      go_quiet ((go_at_call 55; exact Calls.quiet_of_same (in_yes _ _ _ _ (by omega) (by omega))))
      go_wp2
      go_roundw
      case rel => exact ⟨k + 1, by omega, by go_num, HS, below_same hbel rfl rfl rfl rfl⟩
      case measure => simp [intOf]; omega
   ·
    have HNO := Lib.hid (setB_no (not_set_range hlt hin))
    clear hc
    generalize xs.getD k 0 = y at hcell hin
    have HI := Lib.hid hin
    clear hin
    go_wp2
    go_quiet ((go_at_call 55; exact Calls.quiet_of_same (in_no _ _ _ _ HI.out)))
    go_wp2
    go_ret
    exact ⟨ret_b HNO.out.symm, below_same hbel rfl rfl rfl rfl⟩
  ·
   obtain rfl : k = xs.length := by omega
   have HY := Lib.hid ((setB_iff xs).2 hset.out)
   go_wp2
   go_ret
   exact ⟨ret_b HY.out.symm, hbel⟩
theorem specIsSet (v : Value) (xs : List Int) (w : World) (h : Ints w v xs) (hn : xs.length ≤ 1048576) :
  Calls Tryz.prog 190 #[v] w fun e w' => e = .returned (.bool (setB xs)) ∧ Below w.heap.size w w' := specIsSetBig v xs w h (by omega)
/-- Is it a row? -/
def rowB (r : RowD) : Bool := decide (0 ≤ r.1 ∧ r.1 ≤ 999) && (r.2.all (fun x => decide (0 ≤ x ∧ x ≤ 99)) && decide (r.2.length = 3))
theorem rowB_bad {id : Int} {xs : List Int} {k : Nat} (hk : k < xs.length) (h : ¬ (0 ≤ xs.getD k 0 ∧ xs.getD k 0 ≤ 99)) : rowB (id, xs) = false := by
 have e : xs.getD k 0 = xs[k] := by simp [List.getD, hk]
 rw [e] at h
 have : (xs.all fun x => decide (0 ≤ x ∧ x ≤ 99)) = false := by
  rw [Bool.eq_false_iff]
  intro g
  rw [List.all_eq_true] at g
  exact h (of_decide_eq_true (g _ (List.getElem_mem hk)))
 unfold rowB
 simp only [this]
 simp
theorem rowB_all {id : Int} {xs : List Int} (h : ∀ k, k < xs.length → 0 ≤ xs.getD k 0 ∧ xs.getD k 0 ≤ 99) : rowB (id, xs) = (decide (0 ≤ id ∧ id ≤ 999) && decide (xs.length = 3)) := by
 have : (xs.all fun x => decide (0 ≤ x ∧ x ≤ 99)) = true := by
  rw [List.all_eq_true]
  intro x hx
  obtain ⟨k, hk, rfl⟩ := List.getElem_of_mem hx
  have := h k hk
  have e : xs.getD k 0 = xs[k] := by simp [List.getD, hk]
  rw [e] at this
  exact decide_eq_true this
 unfold rowB
 simp only [this, Bool.true_and]
set_option maxHeartbeats 2000000 in
theorem specIsRow (id : Int) (vv : Value) (xs : List Int) (w : World) (h : Ints w vv xs) (hn : xs.length ≤ 1048576) :
  Calls Tryz.prog 189 #[.agg #[.int .i64 id, vv]] w fun e w' => e = .returned (.bool (rowB (id, xs))) ∧ Below w.heap.size w w' := by
 have H := Lib.hid h
 obtain ⟨a, cap, rfl⟩ := ints_len h
 clear h
 go_enter Tryz.func189, Tryz.ntmps189
 go_wp2
 have hb0 : Below w.heap.size w (w.alloc (.cells #[.int .i64 id, .slice a xs.length cap] 75)) := (Below.refl _ w).alloc (Nat.le_refl _) _
 have hc0 : (w.alloc (.cells #[.int .i64 id, .slice a xs.length cap] 75)).heap[w.heap.size]? = some (.cells #[.int .i64 id, .slice a xs.length cap] 75 (0, 0)) := heap_alloc_new w _
 have d0 := (cell_of_row _ _ 0 _ _ _ hc0).trans (show _ = some (Value.int .i64 id) from rfl)
 have d1 := (cell_of_row _ _ 1 _ _ _ hc0).trans (show _ = some (Value.slice a xs.length cap) from rfl)
 have H1 := Lib.hid (ints_below H.out hb0)
 have hlt1 : w.heap.size < (w.alloc (.cells #[.int .i64 id, .slice a xs.length cap] 75)).heap.size := by simp [World.size_alloc]
 generalize w.alloc (.cells #[.int .i64 id, .slice a xs.length cap] 75) = W at *
 clear hc0
 go_loopw [3] (fun i wr => ∃ k : Nat, k ≤ xs.length ∧ i = .int .i64 k ∧ Hid (∀ j, j < k → 0 ≤ xs.getD j 0 ∧ xs.getD j 0 ≤ 99) ∧ Below W.heap.size W wr) (fun i _ => xs.length - (intOf i).toNat)
 case atStart => exact ⟨0, Nat.zero_le _, rfl, Lib.hid (fun j hj => by omega), Below.refl _ _⟩
 case round =>
  obtain ⟨k, hk, rfl, hall, hbel⟩ := hrel
  have c0 := (hbel.cell (p := ⟨w.heap.size, 0, none⟩) hlt1).trans d0
  have c1 := (hbel.cell (p := ⟨w.heap.size, 1, none⟩) hlt1).trans d1
  by_cases hlt : k < xs.length
  ·
   obtain ⟨b, off, cap', hv, hbl, hc⟩ := ints_cell H1.out (by omega)
   simp only [Value.slice.injEq] at hv
   obtain ⟨rfl, _, rfl⟩ := hv
   have hcell := (hbel.cell (p := ⟨b, off + k, none⟩) hbl).trans (hc k hlt)
   have i1 : (0 : Int) ≤ (k : Int) := by omega
   have i2 : (k : Int) < (xs.length : Int) := by omega
   clear hc
   by_cases hr : 0 ≤ xs.getD k 0 ∧ xs.getD k 0 ≤ 99
   ·
    have HA : Hid (∀ j, j < k + 1 → 0 ≤ xs.getD j 0 ∧ xs.getD j 0 ≤ 99) := Lib.hid (fun j hj => by
     by_cases e : j = k
     ·
      exact e ▸ hr
     ·
      exact hall.out j (by omega))
    have HI := Lib.hid (fun w => in_yes (xs.getD k 0) 0 99 w hr.1 hr.2)
    clear hr hall
    generalize xs.getD k 0 = y at *
    go_wp2_with fail
    refine (HI.out _).mono ?_
    rintro e wx ⟨rfl, rfl⟩
    go_wp2
    go_roundw
    case rel => exact ⟨k + 1, by omega, by go_num, HA, hbel⟩
    case measure => simp [intOf]; omega
   ·
    have HF := Lib.hid (rowB_bad (id := id) hlt hr)
    have HI := Lib.hid (fun w => in_no (xs.getD k 0) 0 99 w hr)
    clear hr hall
    generalize xs.getD k 0 = y at *
    go_wp2_with fail
    refine (HI.out _).mono ?_
    rintro e wx ⟨rfl, rfl⟩
    go_wp2
    go_ret
    exact ⟨ret_b HF.out.symm, hb0.trans (hbel.mono hb0.size)⟩
  ·
   obtain rfl : k = xs.length := by omega
   have HF := Lib.hid (rowB_all (id := id) hall.out)
   clear hall
   by_cases hr : 0 ≤ id ∧ id ≤ 999
   ·
    have HI := Lib.hid (fun w => in_yes id 0 999 w hr.1 hr.2)
    have HD := Lib.hid (decide_eq_true hr)
    rw [HD.out] at HF
    clear hr HD
    go_wp2_with fail
    refine (HI.out _).mono ?_
    rintro e wx ⟨rfl, rfl⟩
    by_cases h3 : xs.length = 3
    ·
     have h3' : ((xs.length : Int) == 3) = true := by rw [beq_iff_eq]; omega
     have HE : Hid (rowB (id, xs) = true) := Lib.hid (by rw [HF.out, decide_eq_true h3]; rfl)
     clear h3
     go_wp2
     go_ret
     exact ⟨ret_b HE.out.symm, hb0.trans (hbel.mono hb0.size)⟩
    ·
     have h3' : ((xs.length : Int) == 3) = false := by rw [beq_eq_false_iff_ne]; omega
     have HE : Hid (rowB (id, xs) = false) := Lib.hid (by rw [HF.out, decide_eq_false h3]; rfl)
     clear h3
     go_wp2
     go_ret
     exact ⟨ret_b HE.out.symm, hb0.trans (hbel.mono hb0.size)⟩
   ·
    have HI := Lib.hid (fun w => in_no id 0 999 w hr)
    have HE : Hid (rowB (id, xs) = false) := Lib.hid (by rw [HF.out, decide_eq_false hr]; rfl)
    clear hr HF
    go_wp2_with fail
    refine (HI.out _).mono ?_
    rintro e wx ⟨rfl, rfl⟩
    go_wp2
    go_ret
    exact ⟨ret_b HE.out.symm, hb0.trans (hbel.mono hb0.size)⟩
/-- The slice v reads as the rows rs; vs: where their values lie. -/
def RowsR (w : World) (v : Value) (rs : List RowD) : Prop :=
 (rs = [] ∧ ∃ a cap, v = .slice a 0 cap) ∨ ∃ (b off cap : Nat) (vs : Nat → Value), v = .slice (some ⟨b, off, none⟩) rs.length cap ∧ rs.length ≤ cap ∧ b < w.heap.size ∧
  ∀ j, j < rs.length → w.cell? ⟨b, off + j * 2, none⟩ = some (.int .i64 (rs.getD j (0, [])).1) ∧ w.cell? ⟨b, off + j * 2 + 1, none⟩ = some (vs j) ∧ Ints w (vs j) (rs.getD j (0, [])).2
/-- The slice v owns the rows rs, in blocks from B on, each block once. -/
def OwnsR (w : World) (B : Nat) (v : Value) (rs : List RowD) : Prop :=
 ∃ (cs : List Value) (vs : Nat → Value), w.ownsRow B 75 2 v rs.length cs ∧
  (∀ j, j < rs.length → cs[j * 2]? = some (.int .i64 (rs.getD j (0, [])).1) ∧ cs[j * 2 + 1]? = some (vs j) ∧ OwnsN w B (vs j) (rs.getD j (0, [])).2 ∧ ∀ b, (vs j).ownBlock = some b → v.ownBlock ≠ some b) ∧
  ∀ i j, i < rs.length → j < rs.length → i ≠ j → ∀ b, (vs i).ownBlock = some b → (vs j).ownBlock ≠ some b
theorem below_drew {B : Nat} {a w : World} (h : Below B a w) : Below B a w.drew := ⟨h.os, h.tape, h.output, h.size, h.block⟩
theorem below_dn {B : Nat} {a w : World} (h : Below B a w) (q : Nat) : Below B a (w.drewN q) := ⟨h.os, h.tape, h.output, h.size, h.block⟩
theorem list_ne_at {xs ys : List Int} {k : Nat} (hx : k < xs.length) (h : ¬ xs.getD k 0 = ys.getD k 0) : ¬ xs = ys := fun e => h (by rw [e])
theorem list_eq_all {xs ys : List Int} (hl : xs.length = ys.length) (h : ∀ j, j < xs.length → xs.getD j 0 = ys.getD j 0) : xs = ys := by
 apply List.ext_getElem hl
 intro i h1 h2
 have := h i h1
 simpa [List.getD, h1, h2] using this
/-- Something that lies in blocks of its own. -/
structure Item where
 F : Nat → Prop
 φ : World → Prop
 st : ∀ {w w' : World} {G : Nat → Prop}, φ w → Turn G w w' → (∀ b, F b → ¬ G b) → φ w'
/-- A datum by its cells. -/
def iT {α : Type} {T : Ty α} (L : T.Law) (F : Nat → Prop) (cs : List Value) (x : α) : Item := ⟨F, fun w => T.O w F cs x, fun h t d => L.turn h t d⟩
/-- A slice. -/
def iS {α : Type} {T : Ty α} (e : TypeId) (L : T.Law) (F : Nat → Prop) (v : Value) (xs : List α) : Item := ⟨F, fun w => SlO e T w F v xs, fun h t d => slO_turn L h t d⟩
/-- A block known whole. -/
def iB (b : Nat) (cs : List Value) (t : TypeId) : Item :=
 ⟨fun k => k = b, fun w => w.heap[b]? = some (.cells cs.toArray t (0, 0)), fun h t d => (t.block b (Array.getElem?_eq_some_iff.1 h).1 (d b rfl)).trans h⟩
def Sep : List Item → World → Prop
 | [], _ => True
 | i :: l, w => i.φ w ∧ (∀ b, i.F b → b < w.heap.size ∧ ∀ j, j ∈ l → ¬ j.F b) ∧ Sep l w
theorem Sep.lt : ∀ {l : List Item} {w : World}, Sep l w → ∀ i ∈ l, ∀ b, i.F b → b < w.heap.size
 | _ :: _, _, h, i, hi, b, hb => by
  rcases List.mem_cons.1 hi with rfl | hm
  ·
   exact (h.2.1 b hb).1
  ·
   exact Sep.lt h.2.2 i hm b hb
theorem Sep.turn : ∀ {l : List Item} {w w' : World} {G : Nat → Prop}, Sep l w → Turn G w w' → (∀ i ∈ l, ∀ b, i.F b → ¬ G b) → Sep l w'
 | [], _, _, _, _, _, _ => trivial
 | i :: l, w, w', G, h, t, d => ⟨i.st h.1 t (d i List.mem_cons_self), fun b hb => ⟨Nat.lt_of_lt_of_le (h.2.1 b hb).1 t.size, (h.2.1 b hb).2⟩, Sep.turn h.2.2 t (fun j hj => d j (List.mem_cons_of_mem _ hj))⟩
theorem Sep.get : ∀ {l : List Item} {w : World}, Sep l w → ∀ (k : Nat) {i : Item}, l[k]? = some i → i.φ w
 | i :: l, w, h, 0, j, e => by simp at e; subst e; exact h.1
 | i :: l, w, h, k + 1, j, e => Sep.get h.2.2 k (by simpa using e)
theorem Sep.apart : ∀ {l : List Item} {w : World}, Sep l w → ∀ (k : Nat) {i : Item}, l[k]? = some i → ∀ (n : Nat) {j : Item}, l[n]? = some j → k ≠ n → ∀ b, i.F b → ¬ j.F b
 | i :: l, w, h, 0, x, e, 0, y, e', hn, b, hb => absurd rfl hn
 | i :: l, w, h, 0, x, e, n + 1, y, e', hn, b, hb => by simp at e e'; subst e; exact (h.2.1 b hb).2 y (List.mem_of_getElem? e')
 | i :: l, w, h, k + 1, x, e, 0, y, e', hn, b, hb => by simp at e e'; subst e'; exact fun hy => (h.2.1 b hy).2 x (List.mem_of_getElem? e) hb
 | i :: l, w, h, k + 1, x, e, n + 1, y, e', hn, b, hb => by simp at e e'; exact Sep.apart h.2.2 k e n e' (fun q => hn (by rw [q])) b hb
theorem Sep.set : ∀ {l : List Item} {w w' : World}, Sep l w → ∀ (k : Nat) {i : Item}, l[k]? = some i → ∀ (i' : Item), (∀ b, i'.F b → i.F b) → Turn i.F w w' → i'.φ w' → Sep (l.set k i') w'
 | i :: l, w, w', h, 0, x, e, i', hF, t, hp => by
  simp at e; subst e
  exact ⟨hp, fun b hb => ⟨Nat.lt_of_lt_of_le (h.2.1 b (hF b hb)).1 t.size, (h.2.1 b (hF b hb)).2⟩, h.2.2.turn t (fun j hj b hb hc => (h.2.1 b hc).2 j hj hb)⟩
 | i :: l, w, w', h, k + 1, x, e, i', hF, t, hp => by
  simp at e
  have hx := List.mem_of_getElem? e
  refine ⟨i.st h.1 t (fun b hb => (h.2.1 b hb).2 x hx), fun b hb => ⟨Nat.lt_of_lt_of_le (h.2.1 b hb).1 t.size, fun j hj => ?_⟩, Sep.set h.2.2 k e i' hF t hp⟩
  rcases List.mem_or_eq_of_mem_set hj with q | rfl
  ·
   exact (h.2.1 b hb).2 j q
  ·
   exact fun q => (h.2.1 b hb).2 x hx (hF b q)
/-- Where a walk stands: since w0 it has turned nothing that was there, and owns what is listed. -/
structure St (w0 : World) (l : List Item) (w : World) : Prop where
 d : Below w0.heap.size w0 w
 s : Sep l w
 lo : ∀ i ∈ l, ∀ b, i.F b → w0.heap.size ≤ b
theorem St.init (w : World) : St w [] w := ⟨Below.refl _ _, trivial, fun _ h => by cases h⟩
section
variable {w0 w w' : World} {l : List Item}
theorem St.le (h : St w0 l w) : w0.heap.size ≤ w.heap.size := h.d.size
theorem St.below (h : St w0 l w) (c : Below w.heap.size w w') : St w0 l w' :=
 ⟨h.d.trans (c.mono h.d.size), h.s.turn (turn_below c) (fun _ _ _ _ => not_false), h.lo⟩
theorem St.drew (h : St w0 l w) : St w0 l w.drew := h.below ⟨rfl, rfl, rfl, Nat.le_refl _, fun _ _ => rfl⟩
theorem St.cons (h : St w0 l w) (c : Below w.heap.size w w') (i : Item) (hi : i.φ w') (hF : ∀ b, i.F b → w.heap.size ≤ b ∧ b < w'.heap.size) : St w0 (i :: l) w' :=
 ⟨(h.below c).d, ⟨hi, fun b hb => ⟨(hF b hb).2, fun j hj q => by have h1 := h.s.lt j hj b q; have h2 := (hF b hb).1; omega⟩, (h.below c).s⟩, fun j hj b hb => by
  rcases List.mem_cons.1 hj with rfl | hm
  ·
   exact Nat.le_trans h.d.size (hF b hb).1
  ·
   exact h.lo j hm b hb⟩
theorem St.push {α : Type} {T : Ty α} (L : T.Law) (h : St w0 l w) (c : Below w.heap.size w w') {G : Nat → Prop} {cs : List Value} {x : α} (o : T.O w' G cs x) (hG : ∀ b, G b → w.heap.size ≤ b) : St w0 (iT L (fun b => G b ∧ b < w'.heap.size) cs x :: l) w' :=
 h.cons c _ (L.lt o) (fun b hb => ⟨hG b hb.1, hb.2⟩)
theorem St.box (h : St w0 l w) (cs : List Value) (t : TypeId) : St w0 (iB w.heap.size cs t :: l) (w.alloc (.cells cs.toArray t)) :=
 h.cons ((Below.refl _ _).alloc (Nat.le_refl _) _) (iB w.heap.size cs t) (heap_alloc_new w _) (fun b hb => by have hb : b = w.heap.size := hb; subst hb; exact ⟨Nat.le_refl _, by rw [World.size_alloc]; omega⟩)
theorem St.pushE {α : Type} {T : Ty α} (L : T.Law) (h : St w0 l w) (c : Below w.heap.size w w') {G : Nat → Prop} {cs : List Value} {x : α} (o : T.O w' G cs x) (hG : ∀ b, G b → w.heap.size ≤ b) : ∃ F, St w0 (iT L F cs x :: l) w' := ⟨_, h.push L c o hG⟩
theorem St.get (h : St w0 l w) (k : Nat) {i : Item} (e : l[k]? = some i) : i.φ w := h.s.get k e
theorem St.set (h : St w0 l w) (k : Nat) {i : Item} (e : l[k]? = some i) (i' : Item) (hF : ∀ b, i'.F b → i.F b) (t : Turn i.F w w') (hp : i'.φ w') : St w0 (l.set k i') w' :=
 ⟨below_turn h.d t (fun b hb => h.lo i (List.mem_of_getElem? e) b hb) h.d.size, h.s.set k e i' hF t hp, fun j hj b hb => by
  rcases List.mem_or_eq_of_mem_set hj with q | rfl
  ·
   exact h.lo j q b hb
  ·
   exact h.lo i (List.mem_of_getElem? e) b (hF b hb)⟩
theorem Sep.sub {l : List Item} {w : World} (h : Sep l w) : ∀ (idx : List Nat), idx.Nodup → Sep (idx.filterMap fun i => l[i]?) w
 | [], _ => trivial
 | k :: idx, hn => by
  have ih := Sep.sub h idx (List.nodup_cons.1 hn).2
  cases e : l[k]? with
  | none => rw [List.filterMap_cons_none e]; exact ih
  | some i =>
   rw [List.filterMap_cons_some e]
   refine ⟨h.get k e, fun b hb => ⟨h.lt i (List.mem_of_getElem? e) b hb, fun j hj => ?_⟩, ih⟩
   obtain ⟨n, hm, hj'⟩ := List.mem_filterMap.1 hj
   exact h.apart k e n hj' (fun q => (List.nodup_cons.1 hn).1 (by rw [q]; exact hm)) b hb
theorem St.sub (h : St w0 l w) (idx : List Nat) (hn : idx.Nodup) : St w0 (idx.filterMap fun i => l[i]?) w :=
 ⟨h.d, h.s.sub idx hn, fun i hi b hb => by
  obtain ⟨n, _, hj'⟩ := List.mem_filterMap.1 hi
  exact h.lo i (List.mem_of_getElem? hj') b hb⟩
end
section
variable {w0 w w' : World} {l : List Item} {α : Type} {T : Ty α}
theorem St.gT {L : T.Law} (h : St w0 l w) (k : Nat) {F : Nat → Prop} {cs : List Value} {x : α} (e : l[k]? = some (iT L F cs x)) : T.O w F cs x := h.s.get k e
theorem St.rT {L : T.Law} (h : St w0 l w) (k : Nat) {F : Nat → Prop} {cs : List Value} {x : α} (e : l[k]? = some (iT L F cs x)) : T.R w cs x := L.reads (h.s.get k e)
theorem St.gB (h : St w0 l w) (k : Nat) {b : Nat} {cs : List Value} {t : TypeId} (e : l[k]? = some (iB b cs t)) : w.heap[b]? = some (.cells cs.toArray t (0, 0)) := h.s.get k e
end
section
variable {w0 w w' : World} {l : List Item}
theorem St.cell (h : St w0 l w) (k : Nat) {b : Nat} {cs : List Value} {t : TypeId} (e : l[k]? = some (iB b cs t)) (j : Nat) {u : Value} (hu : cs[j]? = some u) : w.cell? ⟨b, j, none⟩ = some u := (cell_of_row w b j _ _ _ (h.gB k e)).trans (by simpa using hu)
theorem St.froz (h : St w0 l w) (k : Nat) {b : Nat} {cs : List Value} {t : TypeId} (e : l[k]? = some (iB b cs t)) (j : Nat) : w.frozen? ⟨b, j, none⟩ = false := frozen_of_row w b j _ _ (h.gB k e)
end
/-- Each cell of what is read is one cell. -/
def Ty.One {α : Type} (T : Ty α) : Prop := ∀ {w cs x}, T.R w cs x → ∀ v ∈ cs, v.oneCell' = true
theorem tInt_one : tInt.One := fun {w cs x} h v hv => by
 have h : cs = [.int .i64 x] := h
 subst h; simp at hv; subst hv; rfl
theorem tPair_one {α β : Type} {a : Ty α} {b : Ty β} (A : a.One) (B : b.One) : (tPair a b).One := fun {w cs x} h v hv => by
 obtain ⟨c1, c2, rfl, h1, h2⟩ := h
 rcases List.mem_append.1 hv with q | q
 ·
  exact A h1 v q
 ·
  exact B h2 v q
theorem tSl_one {α : Type} (e : TypeId) (T : Ty α) : (tSl e T).One := fun {w cs x} h v hv => by
 obtain ⟨u, rfl, h⟩ := h
 obtain ⟨a, c, rfl⟩ := slR_len h
 simp at hv; subst hv; rfl
/-- A block known whole is read whole. -/
theorem load_cells {P : Program} {w : World} {b : Nat} {cs : List Value} {t : TypeId} {f : Nat × Nat} (h : w.heap[b]? = some (.cells cs.toArray t f)) {n : Nat} (hn : cs.length = n) : (loadCellsFrom ⟨b, 0, none⟩ 0 n #[]).run P w = .ok cs.toArray w := by
 subst hn
 have := run_loadCells_list (P := P) w ⟨b, 0, none⟩ cs (fun j v hj => by
  have e : (⟨b, 0, none⟩ : Addr).add j = ⟨b, j, none⟩ := by unfold Addr.add; split <;> simp_all
  rw [e]
  simp [World.cell?, h, hj])
 simpa [loadCells] using this
theorem St.ld {P : Program} {w0 w : World} {l : List Item} (h : St w0 l w) (k : Nat) {b : Nat} {cs : List Value} {t : TypeId} (e : l[k]? = some (iB b cs t)) {n : Nat} (hn : cs.length = n) : (loadCellsFrom ⟨b, 0, none⟩ 0 n #[]).run P w = .ok cs.toArray w := load_cells (h.gB k e) hn
theorem box_set {w : World} {b : Nat} {z c : List Value} {t : TypeId} (h : w.heap[b]? = some (.cells z.toArray t (0, 0))) : (w.setRow b c.toArray).heap[b]? = some (.cells c.toArray t (0, 0)) := setRow_heap w b z.toArray c.toArray t (0, 0) h
theorem turn_row {w : World} {b : Nat} {c : Array Value} : Turn (fun k => k = b) w (w.setRow b c) :=
 ⟨rfl, rfl, rfl, by simp [World.setRow], fun k _ hn => by
  simp only [World.setRow]
  rw [Array.getElem?_modify]
  rw [if_neg (fun e => hn e.symm)]⟩
theorem St.store {w0 w : World} {l : List Item} (h : St w0 l w) (k : Nat) {b : Nat} {z : List Value} {t : TypeId} (e : l[k]? = some (iB b z t)) (c : List Value) : St w0 (l.set k (iB b c t)) (w.setRow b c.toArray) :=
 h.set k e (iB b c t) (fun _ q => q) turn_row (box_set (h.gB k e))
theorem store_at {P : Program} {W : World} {b j : Nat} {c : Array Value} {t : TypeId} {v : Value} (h : W.heap[b]? = some (.cells c t (0, 0))) (hj : j < c.size) (h1 : v.oneCell' = true) : (store ⟨b, j, none⟩ v).run P W = .ok () (W.setRow b (c.setIfInBounds j v)) := by
 have hcell : W.cell? ⟨b, j, none⟩ = some c[j] := by simp [World.cell?, h, hj]
 have hfro : W.frozen? ⟨b, j, none⟩ = false := by simp [World.frozen?, h]
 rw [run_store P W _ v _ h1, hcell]
 simp [hfro, setCell_eq_setRow W b j c t (0, 0) v h]
theorem len2 {cs : List Value} (h : cs.length = 2) : ∃ y0 y1 : Value, cs = [y0, y1] := by
 match cs, h with
 | [y0, y1], _ => exact ⟨y0, y1, rfl⟩
theorem cell2 {w : World} {b : Nat} {t : TypeId} {f : Nat × Nat} {y0 y1 : Value} (h : w.heap[b]? = some (.cells #[y0, y1] t f)) : w.cell? ⟨b, 0, none⟩ = some y0 ∧ w.cell? ⟨b, 1, none⟩ = some y1 :=
 ⟨cell_of_row w b 0 _ _ _ h, cell_of_row w b 1 _ _ _ h⟩
theorem froz2 {w : World} {b : Nat} {t : TypeId} {y0 y1 : Value} (h : w.heap[b]? = some (.cells #[y0, y1] t (0, 0))) : w.frozen? ⟨b, 0, none⟩ = false ∧ w.frozen? ⟨b, 1, none⟩ = false :=
 ⟨frozen_of_row w b 0 _ _ h, frozen_of_row w b 1 _ _ h⟩
theorem rst2 {P : Program} {w : World} {b : Nat} {t : TypeId} {z0 z1 y0 y1 : Value} (h : w.heap[b]? = some (.cells #[z0, z1] t (0, 0))) (h1 : ∀ v ∈ [y0, y1], v.oneCell' = true) : (store ⟨b, 0, none⟩ y0).run P w = .ok () (w.setRow b #[y0, z1]) ∧ (store ⟨b, 1, none⟩ y1).run P (w.setRow b #[y0, z1]) = .ok () (w.setRow b #[y0, y1]) :=
 ⟨by have := store_at (P := P) (j := 0) h (by simp) (h1 y0 (by simp)); simpa using this,
 by have := store_at (P := P) (j := 1) (setRow_heap w b _ #[y0, z1] t (0, 0) h) (by simp) (h1 y1 (by simp)); rw [setRow_setRow] at this; simpa using this⟩
theorem len3 {cs : List Value} (h : cs.length = 3) : ∃ y0 y1 y2 : Value, cs = [y0, y1, y2] := by
 match cs, h with
 | [y0, y1, y2], _ => exact ⟨y0, y1, y2, rfl⟩
theorem len4 {cs : List Value} (h : cs.length = 4) : ∃ y0 y1 y2 y3 : Value, cs = [y0, y1, y2, y3] := by
 match cs, h with
 | [y0, y1, y2, y3], _ => exact ⟨y0, y1, y2, y3, rfl⟩
theorem cell4 {w : World} {b : Nat} {t : TypeId} {f : Nat × Nat} {y0 y1 y2 y3 : Value} (h : w.heap[b]? = some (.cells #[y0, y1, y2, y3] t f)) : w.cell? ⟨b, 0, none⟩ = some y0 ∧ w.cell? ⟨b, 1, none⟩ = some y1 ∧ w.cell? ⟨b, 2, none⟩ = some y2 ∧ w.cell? ⟨b, 3, none⟩ = some y3 :=
 ⟨cell_of_row w b 0 _ _ _ h, cell_of_row w b 1 _ _ _ h, cell_of_row w b 2 _ _ _ h, cell_of_row w b 3 _ _ _ h⟩
theorem froz4 {w : World} {b : Nat} {t : TypeId} {y0 y1 y2 y3 : Value} (h : w.heap[b]? = some (.cells #[y0, y1, y2, y3] t (0, 0))) : w.frozen? ⟨b, 0, none⟩ = false ∧ w.frozen? ⟨b, 1, none⟩ = false ∧ w.frozen? ⟨b, 2, none⟩ = false ∧ w.frozen? ⟨b, 3, none⟩ = false :=
 ⟨frozen_of_row w b 0 _ _ h, frozen_of_row w b 1 _ _ h, frozen_of_row w b 2 _ _ h, frozen_of_row w b 3 _ _ h⟩
theorem rst4 {P : Program} {w : World} {b : Nat} {t : TypeId} {z0 z1 z2 z3 y0 y1 y2 y3 : Value} (h : w.heap[b]? = some (.cells #[z0, z1, z2, z3] t (0, 0))) (h1 : ∀ v ∈ [y0, y1, y2, y3], v.oneCell' = true) : (store ⟨b, 0, none⟩ y0).run P w = .ok () (w.setRow b #[y0, z1, z2, z3]) ∧ (store ⟨b, 1, none⟩ y1).run P (w.setRow b #[y0, z1, z2, z3]) = .ok () (w.setRow b #[y0, y1, z2, z3]) ∧ (store ⟨b, 2, none⟩ y2).run P (w.setRow b #[y0, y1, z2, z3]) = .ok () (w.setRow b #[y0, y1, y2, z3]) ∧ (store ⟨b, 3, none⟩ y3).run P (w.setRow b #[y0, y1, y2, z3]) = .ok () (w.setRow b #[y0, y1, y2, y3]) :=
 ⟨by have := store_at (P := P) (j := 0) h (by simp) (h1 y0 (by simp)); simpa using this,
 by have := store_at (P := P) (j := 1) (setRow_heap w b _ #[y0, z1, z2, z3] t (0, 0) h) (by simp) (h1 y1 (by simp)); rw [setRow_setRow] at this; simpa using this,
 by have := store_at (P := P) (j := 2) (setRow_heap w b _ #[y0, y1, z2, z3] t (0, 0) h) (by simp) (h1 y2 (by simp)); rw [setRow_setRow] at this; simpa using this,
 by have := store_at (P := P) (j := 3) (setRow_heap w b _ #[y0, y1, y2, z3] t (0, 0) h) (by simp) (h1 y3 (by simp)); rw [setRow_setRow] at this; simpa using this⟩
theorem len5 {cs : List Value} (h : cs.length = 5) : ∃ y0 y1 y2 y3 y4 : Value, cs = [y0, y1, y2, y3, y4] := by
 match cs, h with
 | [y0, y1, y2, y3, y4], _ => exact ⟨y0, y1, y2, y3, y4, rfl⟩
theorem cell5 {w : World} {b : Nat} {t : TypeId} {f : Nat × Nat} {y0 y1 y2 y3 y4 : Value} (h : w.heap[b]? = some (.cells #[y0, y1, y2, y3, y4] t f)) : w.cell? ⟨b, 0, none⟩ = some y0 ∧ w.cell? ⟨b, 1, none⟩ = some y1 ∧ w.cell? ⟨b, 2, none⟩ = some y2 ∧ w.cell? ⟨b, 3, none⟩ = some y3 ∧ w.cell? ⟨b, 4, none⟩ = some y4 :=
 ⟨cell_of_row w b 0 _ _ _ h, cell_of_row w b 1 _ _ _ h, cell_of_row w b 2 _ _ _ h, cell_of_row w b 3 _ _ _ h, cell_of_row w b 4 _ _ _ h⟩
theorem froz5 {w : World} {b : Nat} {t : TypeId} {y0 y1 y2 y3 y4 : Value} (h : w.heap[b]? = some (.cells #[y0, y1, y2, y3, y4] t (0, 0))) : w.frozen? ⟨b, 0, none⟩ = false ∧ w.frozen? ⟨b, 1, none⟩ = false ∧ w.frozen? ⟨b, 2, none⟩ = false ∧ w.frozen? ⟨b, 3, none⟩ = false ∧ w.frozen? ⟨b, 4, none⟩ = false :=
 ⟨frozen_of_row w b 0 _ _ h, frozen_of_row w b 1 _ _ h, frozen_of_row w b 2 _ _ h, frozen_of_row w b 3 _ _ h, frozen_of_row w b 4 _ _ h⟩
theorem rst5 {P : Program} {w : World} {b : Nat} {t : TypeId} {z0 z1 z2 z3 z4 y0 y1 y2 y3 y4 : Value} (h : w.heap[b]? = some (.cells #[z0, z1, z2, z3, z4] t (0, 0))) (h1 : ∀ v ∈ [y0, y1, y2, y3, y4], v.oneCell' = true) : (store ⟨b, 0, none⟩ y0).run P w = .ok () (w.setRow b #[y0, z1, z2, z3, z4]) ∧ (store ⟨b, 1, none⟩ y1).run P (w.setRow b #[y0, z1, z2, z3, z4]) = .ok () (w.setRow b #[y0, y1, z2, z3, z4]) ∧ (store ⟨b, 2, none⟩ y2).run P (w.setRow b #[y0, y1, z2, z3, z4]) = .ok () (w.setRow b #[y0, y1, y2, z3, z4]) ∧ (store ⟨b, 3, none⟩ y3).run P (w.setRow b #[y0, y1, y2, z3, z4]) = .ok () (w.setRow b #[y0, y1, y2, y3, z4]) ∧ (store ⟨b, 4, none⟩ y4).run P (w.setRow b #[y0, y1, y2, y3, z4]) = .ok () (w.setRow b #[y0, y1, y2, y3, y4]) :=
 ⟨by have := store_at (P := P) (j := 0) h (by simp) (h1 y0 (by simp)); simpa using this,
 by have := store_at (P := P) (j := 1) (setRow_heap w b _ #[y0, z1, z2, z3, z4] t (0, 0) h) (by simp) (h1 y1 (by simp)); rw [setRow_setRow] at this; simpa using this,
 by have := store_at (P := P) (j := 2) (setRow_heap w b _ #[y0, y1, z2, z3, z4] t (0, 0) h) (by simp) (h1 y2 (by simp)); rw [setRow_setRow] at this; simpa using this,
 by have := store_at (P := P) (j := 3) (setRow_heap w b _ #[y0, y1, y2, z3, z4] t (0, 0) h) (by simp) (h1 y3 (by simp)); rw [setRow_setRow] at this; simpa using this,
 by have := store_at (P := P) (j := 4) (setRow_heap w b _ #[y0, y1, y2, y3, z4] t (0, 0) h) (by simp) (h1 y4 (by simp)); rw [setRow_setRow] at this; simpa using this⟩
theorem len7 {cs : List Value} (h : cs.length = 7) : ∃ y0 y1 y2 y3 y4 y5 y6 : Value, cs = [y0, y1, y2, y3, y4, y5, y6] := by
 match cs, h with
 | [y0, y1, y2, y3, y4, y5, y6], _ => exact ⟨y0, y1, y2, y3, y4, y5, y6, rfl⟩
theorem cell7 {w : World} {b : Nat} {t : TypeId} {f : Nat × Nat} {y0 y1 y2 y3 y4 y5 y6 : Value} (h : w.heap[b]? = some (.cells #[y0, y1, y2, y3, y4, y5, y6] t f)) : w.cell? ⟨b, 0, none⟩ = some y0 ∧ w.cell? ⟨b, 1, none⟩ = some y1 ∧ w.cell? ⟨b, 2, none⟩ = some y2 ∧ w.cell? ⟨b, 3, none⟩ = some y3 ∧ w.cell? ⟨b, 4, none⟩ = some y4 ∧ w.cell? ⟨b, 5, none⟩ = some y5 ∧ w.cell? ⟨b, 6, none⟩ = some y6 :=
 ⟨cell_of_row w b 0 _ _ _ h, cell_of_row w b 1 _ _ _ h, cell_of_row w b 2 _ _ _ h, cell_of_row w b 3 _ _ _ h, cell_of_row w b 4 _ _ _ h, cell_of_row w b 5 _ _ _ h, cell_of_row w b 6 _ _ _ h⟩
theorem froz7 {w : World} {b : Nat} {t : TypeId} {y0 y1 y2 y3 y4 y5 y6 : Value} (h : w.heap[b]? = some (.cells #[y0, y1, y2, y3, y4, y5, y6] t (0, 0))) : w.frozen? ⟨b, 0, none⟩ = false ∧ w.frozen? ⟨b, 1, none⟩ = false ∧ w.frozen? ⟨b, 2, none⟩ = false ∧ w.frozen? ⟨b, 3, none⟩ = false ∧ w.frozen? ⟨b, 4, none⟩ = false ∧ w.frozen? ⟨b, 5, none⟩ = false ∧ w.frozen? ⟨b, 6, none⟩ = false :=
 ⟨frozen_of_row w b 0 _ _ h, frozen_of_row w b 1 _ _ h, frozen_of_row w b 2 _ _ h, frozen_of_row w b 3 _ _ h, frozen_of_row w b 4 _ _ h, frozen_of_row w b 5 _ _ h, frozen_of_row w b 6 _ _ h⟩
theorem rst7 {P : Program} {w : World} {b : Nat} {t : TypeId} {z0 z1 z2 z3 z4 z5 z6 y0 y1 y2 y3 y4 y5 y6 : Value} (h : w.heap[b]? = some (.cells #[z0, z1, z2, z3, z4, z5, z6] t (0, 0))) (h1 : ∀ v ∈ [y0, y1, y2, y3, y4, y5, y6], v.oneCell' = true) : (store ⟨b, 0, none⟩ y0).run P w = .ok () (w.setRow b #[y0, z1, z2, z3, z4, z5, z6]) ∧ (store ⟨b, 1, none⟩ y1).run P (w.setRow b #[y0, z1, z2, z3, z4, z5, z6]) = .ok () (w.setRow b #[y0, y1, z2, z3, z4, z5, z6]) ∧ (store ⟨b, 2, none⟩ y2).run P (w.setRow b #[y0, y1, z2, z3, z4, z5, z6]) = .ok () (w.setRow b #[y0, y1, y2, z3, z4, z5, z6]) ∧ (store ⟨b, 3, none⟩ y3).run P (w.setRow b #[y0, y1, y2, z3, z4, z5, z6]) = .ok () (w.setRow b #[y0, y1, y2, y3, z4, z5, z6]) ∧ (store ⟨b, 4, none⟩ y4).run P (w.setRow b #[y0, y1, y2, y3, z4, z5, z6]) = .ok () (w.setRow b #[y0, y1, y2, y3, y4, z5, z6]) ∧ (store ⟨b, 5, none⟩ y5).run P (w.setRow b #[y0, y1, y2, y3, y4, z5, z6]) = .ok () (w.setRow b #[y0, y1, y2, y3, y4, y5, z6]) ∧ (store ⟨b, 6, none⟩ y6).run P (w.setRow b #[y0, y1, y2, y3, y4, y5, z6]) = .ok () (w.setRow b #[y0, y1, y2, y3, y4, y5, y6]) :=
 ⟨by have := store_at (P := P) (j := 0) h (by simp) (h1 y0 (by simp)); simpa using this,
 by have := store_at (P := P) (j := 1) (setRow_heap w b _ #[y0, z1, z2, z3, z4, z5, z6] t (0, 0) h) (by simp) (h1 y1 (by simp)); rw [setRow_setRow] at this; simpa using this,
 by have := store_at (P := P) (j := 2) (setRow_heap w b _ #[y0, y1, z2, z3, z4, z5, z6] t (0, 0) h) (by simp) (h1 y2 (by simp)); rw [setRow_setRow] at this; simpa using this,
 by have := store_at (P := P) (j := 3) (setRow_heap w b _ #[y0, y1, y2, z3, z4, z5, z6] t (0, 0) h) (by simp) (h1 y3 (by simp)); rw [setRow_setRow] at this; simpa using this,
 by have := store_at (P := P) (j := 4) (setRow_heap w b _ #[y0, y1, y2, y3, z4, z5, z6] t (0, 0) h) (by simp) (h1 y4 (by simp)); rw [setRow_setRow] at this; simpa using this,
 by have := store_at (P := P) (j := 5) (setRow_heap w b _ #[y0, y1, y2, y3, y4, z5, z6] t (0, 0) h) (by simp) (h1 y5 (by simp)); rw [setRow_setRow] at this; simpa using this,
 by have := store_at (P := P) (j := 6) (setRow_heap w b _ #[y0, y1, y2, y3, y4, y5, z6] t (0, 0) h) (by simp) (h1 y6 (by simp)); rw [setRow_setRow] at this; simpa using this⟩
theorem len8 {cs : List Value} (h : cs.length = 8) : ∃ y0 y1 y2 y3 y4 y5 y6 y7 : Value, cs = [y0, y1, y2, y3, y4, y5, y6, y7] := by
 match cs, h with
 | [y0, y1, y2, y3, y4, y5, y6, y7], _ => exact ⟨y0, y1, y2, y3, y4, y5, y6, y7, rfl⟩
theorem cell8 {w : World} {b : Nat} {t : TypeId} {f : Nat × Nat} {y0 y1 y2 y3 y4 y5 y6 y7 : Value} (h : w.heap[b]? = some (.cells #[y0, y1, y2, y3, y4, y5, y6, y7] t f)) : w.cell? ⟨b, 0, none⟩ = some y0 ∧ w.cell? ⟨b, 1, none⟩ = some y1 ∧ w.cell? ⟨b, 2, none⟩ = some y2 ∧ w.cell? ⟨b, 3, none⟩ = some y3 ∧ w.cell? ⟨b, 4, none⟩ = some y4 ∧ w.cell? ⟨b, 5, none⟩ = some y5 ∧ w.cell? ⟨b, 6, none⟩ = some y6 ∧ w.cell? ⟨b, 7, none⟩ = some y7 :=
 ⟨cell_of_row w b 0 _ _ _ h, cell_of_row w b 1 _ _ _ h, cell_of_row w b 2 _ _ _ h, cell_of_row w b 3 _ _ _ h, cell_of_row w b 4 _ _ _ h, cell_of_row w b 5 _ _ _ h, cell_of_row w b 6 _ _ _ h, cell_of_row w b 7 _ _ _ h⟩
theorem froz8 {w : World} {b : Nat} {t : TypeId} {y0 y1 y2 y3 y4 y5 y6 y7 : Value} (h : w.heap[b]? = some (.cells #[y0, y1, y2, y3, y4, y5, y6, y7] t (0, 0))) : w.frozen? ⟨b, 0, none⟩ = false ∧ w.frozen? ⟨b, 1, none⟩ = false ∧ w.frozen? ⟨b, 2, none⟩ = false ∧ w.frozen? ⟨b, 3, none⟩ = false ∧ w.frozen? ⟨b, 4, none⟩ = false ∧ w.frozen? ⟨b, 5, none⟩ = false ∧ w.frozen? ⟨b, 6, none⟩ = false ∧ w.frozen? ⟨b, 7, none⟩ = false :=
 ⟨frozen_of_row w b 0 _ _ h, frozen_of_row w b 1 _ _ h, frozen_of_row w b 2 _ _ h, frozen_of_row w b 3 _ _ h, frozen_of_row w b 4 _ _ h, frozen_of_row w b 5 _ _ h, frozen_of_row w b 6 _ _ h, frozen_of_row w b 7 _ _ h⟩
theorem rst8 {P : Program} {w : World} {b : Nat} {t : TypeId} {z0 z1 z2 z3 z4 z5 z6 z7 y0 y1 y2 y3 y4 y5 y6 y7 : Value} (h : w.heap[b]? = some (.cells #[z0, z1, z2, z3, z4, z5, z6, z7] t (0, 0))) (h1 : ∀ v ∈ [y0, y1, y2, y3, y4, y5, y6, y7], v.oneCell' = true) : (store ⟨b, 0, none⟩ y0).run P w = .ok () (w.setRow b #[y0, z1, z2, z3, z4, z5, z6, z7]) ∧ (store ⟨b, 1, none⟩ y1).run P (w.setRow b #[y0, z1, z2, z3, z4, z5, z6, z7]) = .ok () (w.setRow b #[y0, y1, z2, z3, z4, z5, z6, z7]) ∧ (store ⟨b, 2, none⟩ y2).run P (w.setRow b #[y0, y1, z2, z3, z4, z5, z6, z7]) = .ok () (w.setRow b #[y0, y1, y2, z3, z4, z5, z6, z7]) ∧ (store ⟨b, 3, none⟩ y3).run P (w.setRow b #[y0, y1, y2, z3, z4, z5, z6, z7]) = .ok () (w.setRow b #[y0, y1, y2, y3, z4, z5, z6, z7]) ∧ (store ⟨b, 4, none⟩ y4).run P (w.setRow b #[y0, y1, y2, y3, z4, z5, z6, z7]) = .ok () (w.setRow b #[y0, y1, y2, y3, y4, z5, z6, z7]) ∧ (store ⟨b, 5, none⟩ y5).run P (w.setRow b #[y0, y1, y2, y3, y4, z5, z6, z7]) = .ok () (w.setRow b #[y0, y1, y2, y3, y4, y5, z6, z7]) ∧ (store ⟨b, 6, none⟩ y6).run P (w.setRow b #[y0, y1, y2, y3, y4, y5, z6, z7]) = .ok () (w.setRow b #[y0, y1, y2, y3, y4, y5, y6, z7]) ∧ (store ⟨b, 7, none⟩ y7).run P (w.setRow b #[y0, y1, y2, y3, y4, y5, y6, z7]) = .ok () (w.setRow b #[y0, y1, y2, y3, y4, y5, y6, y7]) :=
 ⟨by have := store_at (P := P) (j := 0) h (by simp) (h1 y0 (by simp)); simpa using this,
 by have := store_at (P := P) (j := 1) (setRow_heap w b _ #[y0, z1, z2, z3, z4, z5, z6, z7] t (0, 0) h) (by simp) (h1 y1 (by simp)); rw [setRow_setRow] at this; simpa using this,
 by have := store_at (P := P) (j := 2) (setRow_heap w b _ #[y0, y1, z2, z3, z4, z5, z6, z7] t (0, 0) h) (by simp) (h1 y2 (by simp)); rw [setRow_setRow] at this; simpa using this,
 by have := store_at (P := P) (j := 3) (setRow_heap w b _ #[y0, y1, y2, z3, z4, z5, z6, z7] t (0, 0) h) (by simp) (h1 y3 (by simp)); rw [setRow_setRow] at this; simpa using this,
 by have := store_at (P := P) (j := 4) (setRow_heap w b _ #[y0, y1, y2, y3, z4, z5, z6, z7] t (0, 0) h) (by simp) (h1 y4 (by simp)); rw [setRow_setRow] at this; simpa using this,
 by have := store_at (P := P) (j := 5) (setRow_heap w b _ #[y0, y1, y2, y3, y4, z5, z6, z7] t (0, 0) h) (by simp) (h1 y5 (by simp)); rw [setRow_setRow] at this; simpa using this,
 by have := store_at (P := P) (j := 6) (setRow_heap w b _ #[y0, y1, y2, y3, y4, y5, z6, z7] t (0, 0) h) (by simp) (h1 y6 (by simp)); rw [setRow_setRow] at this; simpa using this,
 by have := store_at (P := P) (j := 7) (setRow_heap w b _ #[y0, y1, y2, y3, y4, y5, y6, z7] t (0, 0) h) (by simp) (h1 y7 (by simp)); rw [setRow_setRow] at this; simpa using this⟩
theorem len10 {cs : List Value} (h : cs.length = 10) : ∃ y0 y1 y2 y3 y4 y5 y6 y7 y8 y9 : Value, cs = [y0, y1, y2, y3, y4, y5, y6, y7, y8, y9] := by
 match cs, h with
 | [y0, y1, y2, y3, y4, y5, y6, y7, y8, y9], _ => exact ⟨y0, y1, y2, y3, y4, y5, y6, y7, y8, y9, rfl⟩
theorem cell10 {w : World} {b : Nat} {t : TypeId} {f : Nat × Nat} {y0 y1 y2 y3 y4 y5 y6 y7 y8 y9 : Value} (h : w.heap[b]? = some (.cells #[y0, y1, y2, y3, y4, y5, y6, y7, y8, y9] t f)) : w.cell? ⟨b, 0, none⟩ = some y0 ∧ w.cell? ⟨b, 1, none⟩ = some y1 ∧ w.cell? ⟨b, 2, none⟩ = some y2 ∧ w.cell? ⟨b, 3, none⟩ = some y3 ∧ w.cell? ⟨b, 4, none⟩ = some y4 ∧ w.cell? ⟨b, 5, none⟩ = some y5 ∧ w.cell? ⟨b, 6, none⟩ = some y6 ∧ w.cell? ⟨b, 7, none⟩ = some y7 ∧ w.cell? ⟨b, 8, none⟩ = some y8 ∧ w.cell? ⟨b, 9, none⟩ = some y9 :=
 ⟨cell_of_row w b 0 _ _ _ h, cell_of_row w b 1 _ _ _ h, cell_of_row w b 2 _ _ _ h, cell_of_row w b 3 _ _ _ h, cell_of_row w b 4 _ _ _ h, cell_of_row w b 5 _ _ _ h, cell_of_row w b 6 _ _ _ h, cell_of_row w b 7 _ _ _ h, cell_of_row w b 8 _ _ _ h, cell_of_row w b 9 _ _ _ h⟩
theorem froz10 {w : World} {b : Nat} {t : TypeId} {y0 y1 y2 y3 y4 y5 y6 y7 y8 y9 : Value} (h : w.heap[b]? = some (.cells #[y0, y1, y2, y3, y4, y5, y6, y7, y8, y9] t (0, 0))) : w.frozen? ⟨b, 0, none⟩ = false ∧ w.frozen? ⟨b, 1, none⟩ = false ∧ w.frozen? ⟨b, 2, none⟩ = false ∧ w.frozen? ⟨b, 3, none⟩ = false ∧ w.frozen? ⟨b, 4, none⟩ = false ∧ w.frozen? ⟨b, 5, none⟩ = false ∧ w.frozen? ⟨b, 6, none⟩ = false ∧ w.frozen? ⟨b, 7, none⟩ = false ∧ w.frozen? ⟨b, 8, none⟩ = false ∧ w.frozen? ⟨b, 9, none⟩ = false :=
 ⟨frozen_of_row w b 0 _ _ h, frozen_of_row w b 1 _ _ h, frozen_of_row w b 2 _ _ h, frozen_of_row w b 3 _ _ h, frozen_of_row w b 4 _ _ h, frozen_of_row w b 5 _ _ h, frozen_of_row w b 6 _ _ h, frozen_of_row w b 7 _ _ h, frozen_of_row w b 8 _ _ h, frozen_of_row w b 9 _ _ h⟩
theorem rst10 {P : Program} {w : World} {b : Nat} {t : TypeId} {z0 z1 z2 z3 z4 z5 z6 z7 z8 z9 y0 y1 y2 y3 y4 y5 y6 y7 y8 y9 : Value} (h : w.heap[b]? = some (.cells #[z0, z1, z2, z3, z4, z5, z6, z7, z8, z9] t (0, 0))) (h1 : ∀ v ∈ [y0, y1, y2, y3, y4, y5, y6, y7, y8, y9], v.oneCell' = true) : (store ⟨b, 0, none⟩ y0).run P w = .ok () (w.setRow b #[y0, z1, z2, z3, z4, z5, z6, z7, z8, z9]) ∧ (store ⟨b, 1, none⟩ y1).run P (w.setRow b #[y0, z1, z2, z3, z4, z5, z6, z7, z8, z9]) = .ok () (w.setRow b #[y0, y1, z2, z3, z4, z5, z6, z7, z8, z9]) ∧ (store ⟨b, 2, none⟩ y2).run P (w.setRow b #[y0, y1, z2, z3, z4, z5, z6, z7, z8, z9]) = .ok () (w.setRow b #[y0, y1, y2, z3, z4, z5, z6, z7, z8, z9]) ∧ (store ⟨b, 3, none⟩ y3).run P (w.setRow b #[y0, y1, y2, z3, z4, z5, z6, z7, z8, z9]) = .ok () (w.setRow b #[y0, y1, y2, y3, z4, z5, z6, z7, z8, z9]) ∧ (store ⟨b, 4, none⟩ y4).run P (w.setRow b #[y0, y1, y2, y3, z4, z5, z6, z7, z8, z9]) = .ok () (w.setRow b #[y0, y1, y2, y3, y4, z5, z6, z7, z8, z9]) ∧ (store ⟨b, 5, none⟩ y5).run P (w.setRow b #[y0, y1, y2, y3, y4, z5, z6, z7, z8, z9]) = .ok () (w.setRow b #[y0, y1, y2, y3, y4, y5, z6, z7, z8, z9]) ∧ (store ⟨b, 6, none⟩ y6).run P (w.setRow b #[y0, y1, y2, y3, y4, y5, z6, z7, z8, z9]) = .ok () (w.setRow b #[y0, y1, y2, y3, y4, y5, y6, z7, z8, z9]) ∧ (store ⟨b, 7, none⟩ y7).run P (w.setRow b #[y0, y1, y2, y3, y4, y5, y6, z7, z8, z9]) = .ok () (w.setRow b #[y0, y1, y2, y3, y4, y5, y6, y7, z8, z9]) ∧ (store ⟨b, 8, none⟩ y8).run P (w.setRow b #[y0, y1, y2, y3, y4, y5, y6, y7, z8, z9]) = .ok () (w.setRow b #[y0, y1, y2, y3, y4, y5, y6, y7, y8, z9]) ∧ (store ⟨b, 9, none⟩ y9).run P (w.setRow b #[y0, y1, y2, y3, y4, y5, y6, y7, y8, z9]) = .ok () (w.setRow b #[y0, y1, y2, y3, y4, y5, y6, y7, y8, y9]) :=
 ⟨by have := store_at (P := P) (j := 0) h (by simp) (h1 y0 (by simp)); simpa using this,
 by have := store_at (P := P) (j := 1) (setRow_heap w b _ #[y0, z1, z2, z3, z4, z5, z6, z7, z8, z9] t (0, 0) h) (by simp) (h1 y1 (by simp)); rw [setRow_setRow] at this; simpa using this,
 by have := store_at (P := P) (j := 2) (setRow_heap w b _ #[y0, y1, z2, z3, z4, z5, z6, z7, z8, z9] t (0, 0) h) (by simp) (h1 y2 (by simp)); rw [setRow_setRow] at this; simpa using this,
 by have := store_at (P := P) (j := 3) (setRow_heap w b _ #[y0, y1, y2, z3, z4, z5, z6, z7, z8, z9] t (0, 0) h) (by simp) (h1 y3 (by simp)); rw [setRow_setRow] at this; simpa using this,
 by have := store_at (P := P) (j := 4) (setRow_heap w b _ #[y0, y1, y2, y3, z4, z5, z6, z7, z8, z9] t (0, 0) h) (by simp) (h1 y4 (by simp)); rw [setRow_setRow] at this; simpa using this,
 by have := store_at (P := P) (j := 5) (setRow_heap w b _ #[y0, y1, y2, y3, y4, z5, z6, z7, z8, z9] t (0, 0) h) (by simp) (h1 y5 (by simp)); rw [setRow_setRow] at this; simpa using this,
 by have := store_at (P := P) (j := 6) (setRow_heap w b _ #[y0, y1, y2, y3, y4, y5, z6, z7, z8, z9] t (0, 0) h) (by simp) (h1 y6 (by simp)); rw [setRow_setRow] at this; simpa using this,
 by have := store_at (P := P) (j := 7) (setRow_heap w b _ #[y0, y1, y2, y3, y4, y5, y6, z7, z8, z9] t (0, 0) h) (by simp) (h1 y7 (by simp)); rw [setRow_setRow] at this; simpa using this,
 by have := store_at (P := P) (j := 8) (setRow_heap w b _ #[y0, y1, y2, y3, y4, y5, y6, y7, z8, z9] t (0, 0) h) (by simp) (h1 y8 (by simp)); rw [setRow_setRow] at this; simpa using this,
 by have := store_at (P := P) (j := 9) (setRow_heap w b _ #[y0, y1, y2, y3, y4, y5, y6, y7, y8, z9] t (0, 0) h) (by simp) (h1 y9 (by simp)); rw [setRow_setRow] at this; simpa using this⟩
/-- What is left of k behind a datum of the size z. -/
def szR (k : Int) (z : Nat) : Int := if (z : Int) ≤ k then k - (z : Int) else -1
theorem szR_y {k : Int} {z : Nat} (h : (z : Int) ≤ k) : szR k z = k - (z : Int) := if_pos h
theorem szR_n {k : Int} {z : Nat} (h : ¬ (z : Int) ≤ k) : szR k z = -1 := if_neg h
/-- The cells l from place o on. -/
def putL (cur : Array Value) (o : Nat) (l : List Value) : Array Value := (cur.toList.take o ++ l ++ cur.toList.drop (o + l.length)).toArray
theorem putL_size {cur : Array Value} {o : Nat} {l : List Value} (h : o + l.length ≤ cur.size) : (putL cur o l).size = cur.size := by
 unfold putL; simp; omega
theorem putL_get {cur : Array Value} {o : Nat} {l : List Value} (h : o + l.length ≤ cur.size) (p : Nat) : (putL cur o l)[p]? = if o ≤ p ∧ p < o + l.length then l[p - o]? else cur[p]? := by
 unfold putL
 have h1 : (cur.toList.take o).length = o := by simp; omega
 rw [List.getElem?_toArray]
 by_cases a : p < o
 ·
  rw [if_neg (by omega), List.append_assoc, List.getElem?_append_left (by omega), List.getElem?_take_of_lt a, Array.getElem?_toList]
 ·
  by_cases b : p < o + l.length
  ·
   rw [if_pos (by omega), List.append_assoc, List.getElem?_append_right (by omega), h1, List.getElem?_append_left (by omega)]
  ·
   rw [if_neg (by omega), List.append_assoc, List.getElem?_append_right (by omega), h1, List.getElem?_append_right (by omega), List.getElem?_drop, Array.getElem?_toList]
   congr 1; omega
theorem putL_set {cur : Array Value} {o : Nat} {l : List Value} (h : o + l.length < cur.size) (v : Value) : (putL cur o l).setIfInBounds (o + l.length) v = putL cur o (l ++ [v]) := by
 apply Array.ext_getElem?
 intro p
 have h1 : o + (l ++ [v]).length ≤ cur.size := by simp; omega
 rw [putL_get h1, Array.getElem?_setIfInBounds, putL_size (by omega), putL_get (by omega)]
 simp only [List.length_append, List.length_singleton]
 by_cases e : o + l.length = p
 ·
  subst e
  rw [if_pos rfl, if_pos h, if_pos (by omega)]
  simp
 ·
  rw [if_neg e]
  by_cases a : o ≤ p ∧ p < o + l.length
  ·
   rw [if_pos a, if_pos (by omega), List.getElem?_append_left (by omega)]
  ·
   rw [if_neg a, if_neg (by omega)]
theorem putL_one {cur : Array Value} {o : Nat} (h : o < cur.size) (v : Value) : cur.setIfInBounds o v = putL cur o [v] := by
 have := putL_set (cur := cur) (o := o) (l := []) (by simpa using h) v
 have e : putL cur o [] = cur := by
  apply Array.ext_getElem?
  intro p
  rw [putL_get (by simp; omega)]
  simp only [List.length_nil, Nat.add_zero]
  rw [if_neg (by omega)]
 rw [e] at this
 simpa using this
section
variable {α : Type}
/-- An element is written whole, with what it owns in new memory. -/
theorem slO_fill {e : TypeId} {T : Ty α} (A : T.Law) {w : World} {F : Nat → Prop} {g m cap : Nat} {xs : List α} (h : SlO e T w F (.slice (some ⟨g, 0, none⟩) m cap) xs) {j : Nat} (hj : j < xs.length) :
  ∃ cur : Array Value, w.heap[g]? = some (.cells cur e (0, 0)) ∧ j * T.n + T.n ≤ cur.size ∧ ∀ (w2 : World) (cs : List Value) (x : α) (G : Nat → Prop), Below w.heap.size w w2 → T.O w2 G cs x → (∀ b, G b → F b ∧ w.heap.size ≤ b) → SlO e T (w2.setRow g (putL cur (j * T.n) cs)) F (.slice (some ⟨g, 0, none⟩) m cap) (xs.set j x) := by
 obtain ⟨hm, hF, hgw, cs0, Fj, L, hrow, hLc, hO, hFj, hput⟩ := slO_open A h hj
 have hr := hrow
 rcases hr.2 with ⟨h', _⟩ | ⟨g', cap', cur, hv, hb, hg, hn, hcm, hcs, htake⟩
 ·
  simp at h'
 simp only [Value.slice.injEq, Option.some.injEq, Addr.mk.injEq] at hv
 obtain ⟨⟨rfl, _⟩, _, rfl⟩ := hv
 have hjn : (j + 1) * T.n ≤ xs.length * T.n := Nat.mul_le_mul_right _ hj
 have hcn : xs.length * T.n ≤ cap * T.n := Nat.mul_le_mul_right _ hn
 rw [Nat.add_mul, Nat.one_mul] at hjn
 refine ⟨cur, hg, by omega, fun w2 cs x G c o hG => ?_⟩
 have hcl : cs.length = T.n := A.len (A.reads o)
 have hg2 : w2.heap[g]? = some (.cells cur e (0, 0)) := (c.block g hgw).trans hg
 have hlen : j * T.n + cs.length ≤ cur.size := by omega
 refine hput (w2.setRow g (putL cur (j * T.n) cs)) ((putL cur (j * T.n) cs).toList.take (xs.length * T.n)) cs G x ⟨by have hz := putL_size hlen; rw [List.length_take]; show min _ (putL cur (j * T.n) cs).size = _; omega, .inr ⟨g, cap, _, rfl, hb, setRow_heap w2 g cur _ e (0, 0) hg2, hn, hcm, by rw [putL_size hlen]; exact hcs, rfl⟩⟩ (fun p hp => ?_) (fun i hi => ?_) (A.turn o turn_row (fun b hb q => by have := hG b hb; omega)) (fun b hb => ⟨(hG b hb).1, Or.inr (hG b hb).2⟩) ((Turn.mono (G := fun _ => False) ⟨c.os, c.tape, c.output, c.size, fun k hk _ => c.block k hk⟩ (fun _ q => False.elim q)).trans (turn_row.mono (fun b q => Or.inl q)))
 ·
  rw [← htake]
  by_cases q : p < xs.length * T.n
  ·
   rw [List.getElem?_take_of_lt q, List.getElem?_take_of_lt q, Array.getElem?_toList, Array.getElem?_toList, putL_get hlen, if_neg (by omega)]
  ·
   rw [List.getElem?_eq_none (by rw [List.length_take]; omega), List.getElem?_eq_none (by rw [List.length_take]; omega)]
 ·
  rw [List.getElem?_take_of_lt (by omega), Array.getElem?_toList, putL_get hlen, if_pos (by omega)]
  congr 1; omega
theorem row2 {w : World} {b o : Nat} {y0 y1 : Value} (h : ∀ i, i < 2 → w.cell? ⟨b, o + i, none⟩ = [y0, y1][i]?) : w.cell? ⟨b, o, none⟩ = some y0 ∧ w.cell? ⟨b, o + 1, none⟩ = some y1 :=
 ⟨h 0 (by decide), h 1 (by decide)⟩
theorem fill2 {P : Program} {w : World} {g o : Nat} {e : TypeId} {cur : Array Value} {y0 y1 : Value} (h : w.heap[g]? = some (.cells cur e (0, 0))) (hs : o + 2 ≤ cur.size) (h1 : ∀ v ∈ [y0, y1], v.oneCell' = true) : (store ⟨g, o, none⟩ y0).run P w = .ok () (w.setRow g (putL cur o [y0])) ∧ (store ⟨g, o + 1, none⟩ y1).run P (w.setRow g (putL cur o [y0])) = .ok () (w.setRow g (putL cur o [y0, y1])) :=
 ⟨by have := store_at (P := P) (j := o) h (by omega) (h1 y0 (by simp)); rw [putL_one (by omega)] at this; exact this,
 by have := store_at (P := P) (j := o + 1) (setRow_heap w g cur (putL cur o [y0]) e (0, 0) h) (by rw [putL_size (by simp; omega)]; omega) (h1 y1 (by simp)); have q : (putL cur o [y0]).setIfInBounds (o + 1) y1 = putL cur o [y0, y1] := putL_set (by simp; omega) y1; rw [setRow_setRow, q] at this; exact this⟩
theorem row3 {w : World} {b o : Nat} {y0 y1 y2 : Value} (h : ∀ i, i < 3 → w.cell? ⟨b, o + i, none⟩ = [y0, y1, y2][i]?) : w.cell? ⟨b, o, none⟩ = some y0 ∧ w.cell? ⟨b, o + 1, none⟩ = some y1 ∧ w.cell? ⟨b, o + 2, none⟩ = some y2 :=
 ⟨h 0 (by decide), h 1 (by decide), h 2 (by decide)⟩
theorem fill3 {P : Program} {w : World} {g o : Nat} {e : TypeId} {cur : Array Value} {y0 y1 y2 : Value} (h : w.heap[g]? = some (.cells cur e (0, 0))) (hs : o + 3 ≤ cur.size) (h1 : ∀ v ∈ [y0, y1, y2], v.oneCell' = true) : (store ⟨g, o, none⟩ y0).run P w = .ok () (w.setRow g (putL cur o [y0])) ∧ (store ⟨g, o + 1, none⟩ y1).run P (w.setRow g (putL cur o [y0])) = .ok () (w.setRow g (putL cur o [y0, y1])) ∧ (store ⟨g, o + 2, none⟩ y2).run P (w.setRow g (putL cur o [y0, y1])) = .ok () (w.setRow g (putL cur o [y0, y1, y2])) :=
 ⟨by have := store_at (P := P) (j := o) h (by omega) (h1 y0 (by simp)); rw [putL_one (by omega)] at this; exact this,
 by have := store_at (P := P) (j := o + 1) (setRow_heap w g cur (putL cur o [y0]) e (0, 0) h) (by rw [putL_size (by simp; omega)]; omega) (h1 y1 (by simp)); have q : (putL cur o [y0]).setIfInBounds (o + 1) y1 = putL cur o [y0, y1] := putL_set (by simp; omega) y1; rw [setRow_setRow, q] at this; exact this,
 by have := store_at (P := P) (j := o + 2) (setRow_heap w g cur (putL cur o [y0, y1]) e (0, 0) h) (by rw [putL_size (by simp; omega)]; omega) (h1 y2 (by simp)); have q : (putL cur o [y0, y1]).setIfInBounds (o + 2) y2 = putL cur o [y0, y1, y2] := putL_set (by simp; omega) y2; rw [setRow_setRow, q] at this; exact this⟩
theorem row4 {w : World} {b o : Nat} {y0 y1 y2 y3 : Value} (h : ∀ i, i < 4 → w.cell? ⟨b, o + i, none⟩ = [y0, y1, y2, y3][i]?) : w.cell? ⟨b, o, none⟩ = some y0 ∧ w.cell? ⟨b, o + 1, none⟩ = some y1 ∧ w.cell? ⟨b, o + 2, none⟩ = some y2 ∧ w.cell? ⟨b, o + 3, none⟩ = some y3 :=
 ⟨h 0 (by decide), h 1 (by decide), h 2 (by decide), h 3 (by decide)⟩
theorem fill4 {P : Program} {w : World} {g o : Nat} {e : TypeId} {cur : Array Value} {y0 y1 y2 y3 : Value} (h : w.heap[g]? = some (.cells cur e (0, 0))) (hs : o + 4 ≤ cur.size) (h1 : ∀ v ∈ [y0, y1, y2, y3], v.oneCell' = true) : (store ⟨g, o, none⟩ y0).run P w = .ok () (w.setRow g (putL cur o [y0])) ∧ (store ⟨g, o + 1, none⟩ y1).run P (w.setRow g (putL cur o [y0])) = .ok () (w.setRow g (putL cur o [y0, y1])) ∧ (store ⟨g, o + 2, none⟩ y2).run P (w.setRow g (putL cur o [y0, y1])) = .ok () (w.setRow g (putL cur o [y0, y1, y2])) ∧ (store ⟨g, o + 3, none⟩ y3).run P (w.setRow g (putL cur o [y0, y1, y2])) = .ok () (w.setRow g (putL cur o [y0, y1, y2, y3])) :=
 ⟨by have := store_at (P := P) (j := o) h (by omega) (h1 y0 (by simp)); rw [putL_one (by omega)] at this; exact this,
 by have := store_at (P := P) (j := o + 1) (setRow_heap w g cur (putL cur o [y0]) e (0, 0) h) (by rw [putL_size (by simp; omega)]; omega) (h1 y1 (by simp)); have q : (putL cur o [y0]).setIfInBounds (o + 1) y1 = putL cur o [y0, y1] := putL_set (by simp; omega) y1; rw [setRow_setRow, q] at this; exact this,
 by have := store_at (P := P) (j := o + 2) (setRow_heap w g cur (putL cur o [y0, y1]) e (0, 0) h) (by rw [putL_size (by simp; omega)]; omega) (h1 y2 (by simp)); have q : (putL cur o [y0, y1]).setIfInBounds (o + 2) y2 = putL cur o [y0, y1, y2] := putL_set (by simp; omega) y2; rw [setRow_setRow, q] at this; exact this,
 by have := store_at (P := P) (j := o + 3) (setRow_heap w g cur (putL cur o [y0, y1, y2]) e (0, 0) h) (by rw [putL_size (by simp; omega)]; omega) (h1 y3 (by simp)); have q : (putL cur o [y0, y1, y2]).setIfInBounds (o + 3) y3 = putL cur o [y0, y1, y2, y3] := putL_set (by simp; omega) y3; rw [setRow_setRow, q] at this; exact this⟩
theorem row5 {w : World} {b o : Nat} {y0 y1 y2 y3 y4 : Value} (h : ∀ i, i < 5 → w.cell? ⟨b, o + i, none⟩ = [y0, y1, y2, y3, y4][i]?) : w.cell? ⟨b, o, none⟩ = some y0 ∧ w.cell? ⟨b, o + 1, none⟩ = some y1 ∧ w.cell? ⟨b, o + 2, none⟩ = some y2 ∧ w.cell? ⟨b, o + 3, none⟩ = some y3 ∧ w.cell? ⟨b, o + 4, none⟩ = some y4 :=
 ⟨h 0 (by decide), h 1 (by decide), h 2 (by decide), h 3 (by decide), h 4 (by decide)⟩
theorem fill5 {P : Program} {w : World} {g o : Nat} {e : TypeId} {cur : Array Value} {y0 y1 y2 y3 y4 : Value} (h : w.heap[g]? = some (.cells cur e (0, 0))) (hs : o + 5 ≤ cur.size) (h1 : ∀ v ∈ [y0, y1, y2, y3, y4], v.oneCell' = true) : (store ⟨g, o, none⟩ y0).run P w = .ok () (w.setRow g (putL cur o [y0])) ∧ (store ⟨g, o + 1, none⟩ y1).run P (w.setRow g (putL cur o [y0])) = .ok () (w.setRow g (putL cur o [y0, y1])) ∧ (store ⟨g, o + 2, none⟩ y2).run P (w.setRow g (putL cur o [y0, y1])) = .ok () (w.setRow g (putL cur o [y0, y1, y2])) ∧ (store ⟨g, o + 3, none⟩ y3).run P (w.setRow g (putL cur o [y0, y1, y2])) = .ok () (w.setRow g (putL cur o [y0, y1, y2, y3])) ∧ (store ⟨g, o + 4, none⟩ y4).run P (w.setRow g (putL cur o [y0, y1, y2, y3])) = .ok () (w.setRow g (putL cur o [y0, y1, y2, y3, y4])) :=
 ⟨by have := store_at (P := P) (j := o) h (by omega) (h1 y0 (by simp)); rw [putL_one (by omega)] at this; exact this,
 by have := store_at (P := P) (j := o + 1) (setRow_heap w g cur (putL cur o [y0]) e (0, 0) h) (by rw [putL_size (by simp; omega)]; omega) (h1 y1 (by simp)); have q : (putL cur o [y0]).setIfInBounds (o + 1) y1 = putL cur o [y0, y1] := putL_set (by simp; omega) y1; rw [setRow_setRow, q] at this; exact this,
 by have := store_at (P := P) (j := o + 2) (setRow_heap w g cur (putL cur o [y0, y1]) e (0, 0) h) (by rw [putL_size (by simp; omega)]; omega) (h1 y2 (by simp)); have q : (putL cur o [y0, y1]).setIfInBounds (o + 2) y2 = putL cur o [y0, y1, y2] := putL_set (by simp; omega) y2; rw [setRow_setRow, q] at this; exact this,
 by have := store_at (P := P) (j := o + 3) (setRow_heap w g cur (putL cur o [y0, y1, y2]) e (0, 0) h) (by rw [putL_size (by simp; omega)]; omega) (h1 y3 (by simp)); have q : (putL cur o [y0, y1, y2]).setIfInBounds (o + 3) y3 = putL cur o [y0, y1, y2, y3] := putL_set (by simp; omega) y3; rw [setRow_setRow, q] at this; exact this,
 by have := store_at (P := P) (j := o + 4) (setRow_heap w g cur (putL cur o [y0, y1, y2, y3]) e (0, 0) h) (by rw [putL_size (by simp; omega)]; omega) (h1 y4 (by simp)); have q : (putL cur o [y0, y1, y2, y3]).setIfInBounds (o + 4) y4 = putL cur o [y0, y1, y2, y3, y4] := putL_set (by simp; omega) y4; rw [setRow_setRow, q] at this; exact this⟩
theorem row7 {w : World} {b o : Nat} {y0 y1 y2 y3 y4 y5 y6 : Value} (h : ∀ i, i < 7 → w.cell? ⟨b, o + i, none⟩ = [y0, y1, y2, y3, y4, y5, y6][i]?) : w.cell? ⟨b, o, none⟩ = some y0 ∧ w.cell? ⟨b, o + 1, none⟩ = some y1 ∧ w.cell? ⟨b, o + 2, none⟩ = some y2 ∧ w.cell? ⟨b, o + 3, none⟩ = some y3 ∧ w.cell? ⟨b, o + 4, none⟩ = some y4 ∧ w.cell? ⟨b, o + 5, none⟩ = some y5 ∧ w.cell? ⟨b, o + 6, none⟩ = some y6 :=
 ⟨h 0 (by decide), h 1 (by decide), h 2 (by decide), h 3 (by decide), h 4 (by decide), h 5 (by decide), h 6 (by decide)⟩
theorem fill7 {P : Program} {w : World} {g o : Nat} {e : TypeId} {cur : Array Value} {y0 y1 y2 y3 y4 y5 y6 : Value} (h : w.heap[g]? = some (.cells cur e (0, 0))) (hs : o + 7 ≤ cur.size) (h1 : ∀ v ∈ [y0, y1, y2, y3, y4, y5, y6], v.oneCell' = true) : (store ⟨g, o, none⟩ y0).run P w = .ok () (w.setRow g (putL cur o [y0])) ∧ (store ⟨g, o + 1, none⟩ y1).run P (w.setRow g (putL cur o [y0])) = .ok () (w.setRow g (putL cur o [y0, y1])) ∧ (store ⟨g, o + 2, none⟩ y2).run P (w.setRow g (putL cur o [y0, y1])) = .ok () (w.setRow g (putL cur o [y0, y1, y2])) ∧ (store ⟨g, o + 3, none⟩ y3).run P (w.setRow g (putL cur o [y0, y1, y2])) = .ok () (w.setRow g (putL cur o [y0, y1, y2, y3])) ∧ (store ⟨g, o + 4, none⟩ y4).run P (w.setRow g (putL cur o [y0, y1, y2, y3])) = .ok () (w.setRow g (putL cur o [y0, y1, y2, y3, y4])) ∧ (store ⟨g, o + 5, none⟩ y5).run P (w.setRow g (putL cur o [y0, y1, y2, y3, y4])) = .ok () (w.setRow g (putL cur o [y0, y1, y2, y3, y4, y5])) ∧ (store ⟨g, o + 6, none⟩ y6).run P (w.setRow g (putL cur o [y0, y1, y2, y3, y4, y5])) = .ok () (w.setRow g (putL cur o [y0, y1, y2, y3, y4, y5, y6])) :=
 ⟨by have := store_at (P := P) (j := o) h (by omega) (h1 y0 (by simp)); rw [putL_one (by omega)] at this; exact this,
 by have := store_at (P := P) (j := o + 1) (setRow_heap w g cur (putL cur o [y0]) e (0, 0) h) (by rw [putL_size (by simp; omega)]; omega) (h1 y1 (by simp)); have q : (putL cur o [y0]).setIfInBounds (o + 1) y1 = putL cur o [y0, y1] := putL_set (by simp; omega) y1; rw [setRow_setRow, q] at this; exact this,
 by have := store_at (P := P) (j := o + 2) (setRow_heap w g cur (putL cur o [y0, y1]) e (0, 0) h) (by rw [putL_size (by simp; omega)]; omega) (h1 y2 (by simp)); have q : (putL cur o [y0, y1]).setIfInBounds (o + 2) y2 = putL cur o [y0, y1, y2] := putL_set (by simp; omega) y2; rw [setRow_setRow, q] at this; exact this,
 by have := store_at (P := P) (j := o + 3) (setRow_heap w g cur (putL cur o [y0, y1, y2]) e (0, 0) h) (by rw [putL_size (by simp; omega)]; omega) (h1 y3 (by simp)); have q : (putL cur o [y0, y1, y2]).setIfInBounds (o + 3) y3 = putL cur o [y0, y1, y2, y3] := putL_set (by simp; omega) y3; rw [setRow_setRow, q] at this; exact this,
 by have := store_at (P := P) (j := o + 4) (setRow_heap w g cur (putL cur o [y0, y1, y2, y3]) e (0, 0) h) (by rw [putL_size (by simp; omega)]; omega) (h1 y4 (by simp)); have q : (putL cur o [y0, y1, y2, y3]).setIfInBounds (o + 4) y4 = putL cur o [y0, y1, y2, y3, y4] := putL_set (by simp; omega) y4; rw [setRow_setRow, q] at this; exact this,
 by have := store_at (P := P) (j := o + 5) (setRow_heap w g cur (putL cur o [y0, y1, y2, y3, y4]) e (0, 0) h) (by rw [putL_size (by simp; omega)]; omega) (h1 y5 (by simp)); have q : (putL cur o [y0, y1, y2, y3, y4]).setIfInBounds (o + 5) y5 = putL cur o [y0, y1, y2, y3, y4, y5] := putL_set (by simp; omega) y5; rw [setRow_setRow, q] at this; exact this,
 by have := store_at (P := P) (j := o + 6) (setRow_heap w g cur (putL cur o [y0, y1, y2, y3, y4, y5]) e (0, 0) h) (by rw [putL_size (by simp; omega)]; omega) (h1 y6 (by simp)); have q : (putL cur o [y0, y1, y2, y3, y4, y5]).setIfInBounds (o + 6) y6 = putL cur o [y0, y1, y2, y3, y4, y5, y6] := putL_set (by simp; omega) y6; rw [setRow_setRow, q] at this; exact this⟩
theorem row10 {w : World} {b o : Nat} {y0 y1 y2 y3 y4 y5 y6 y7 y8 y9 : Value} (h : ∀ i, i < 10 → w.cell? ⟨b, o + i, none⟩ = [y0, y1, y2, y3, y4, y5, y6, y7, y8, y9][i]?) : w.cell? ⟨b, o, none⟩ = some y0 ∧ w.cell? ⟨b, o + 1, none⟩ = some y1 ∧ w.cell? ⟨b, o + 2, none⟩ = some y2 ∧ w.cell? ⟨b, o + 3, none⟩ = some y3 ∧ w.cell? ⟨b, o + 4, none⟩ = some y4 ∧ w.cell? ⟨b, o + 5, none⟩ = some y5 ∧ w.cell? ⟨b, o + 6, none⟩ = some y6 ∧ w.cell? ⟨b, o + 7, none⟩ = some y7 ∧ w.cell? ⟨b, o + 8, none⟩ = some y8 ∧ w.cell? ⟨b, o + 9, none⟩ = some y9 :=
 ⟨h 0 (by decide), h 1 (by decide), h 2 (by decide), h 3 (by decide), h 4 (by decide), h 5 (by decide), h 6 (by decide), h 7 (by decide), h 8 (by decide), h 9 (by decide)⟩
theorem fill10 {P : Program} {w : World} {g o : Nat} {e : TypeId} {cur : Array Value} {y0 y1 y2 y3 y4 y5 y6 y7 y8 y9 : Value} (h : w.heap[g]? = some (.cells cur e (0, 0))) (hs : o + 10 ≤ cur.size) (h1 : ∀ v ∈ [y0, y1, y2, y3, y4, y5, y6, y7, y8, y9], v.oneCell' = true) : (store ⟨g, o, none⟩ y0).run P w = .ok () (w.setRow g (putL cur o [y0])) ∧ (store ⟨g, o + 1, none⟩ y1).run P (w.setRow g (putL cur o [y0])) = .ok () (w.setRow g (putL cur o [y0, y1])) ∧ (store ⟨g, o + 2, none⟩ y2).run P (w.setRow g (putL cur o [y0, y1])) = .ok () (w.setRow g (putL cur o [y0, y1, y2])) ∧ (store ⟨g, o + 3, none⟩ y3).run P (w.setRow g (putL cur o [y0, y1, y2])) = .ok () (w.setRow g (putL cur o [y0, y1, y2, y3])) ∧ (store ⟨g, o + 4, none⟩ y4).run P (w.setRow g (putL cur o [y0, y1, y2, y3])) = .ok () (w.setRow g (putL cur o [y0, y1, y2, y3, y4])) ∧ (store ⟨g, o + 5, none⟩ y5).run P (w.setRow g (putL cur o [y0, y1, y2, y3, y4])) = .ok () (w.setRow g (putL cur o [y0, y1, y2, y3, y4, y5])) ∧ (store ⟨g, o + 6, none⟩ y6).run P (w.setRow g (putL cur o [y0, y1, y2, y3, y4, y5])) = .ok () (w.setRow g (putL cur o [y0, y1, y2, y3, y4, y5, y6])) ∧ (store ⟨g, o + 7, none⟩ y7).run P (w.setRow g (putL cur o [y0, y1, y2, y3, y4, y5, y6])) = .ok () (w.setRow g (putL cur o [y0, y1, y2, y3, y4, y5, y6, y7])) ∧ (store ⟨g, o + 8, none⟩ y8).run P (w.setRow g (putL cur o [y0, y1, y2, y3, y4, y5, y6, y7])) = .ok () (w.setRow g (putL cur o [y0, y1, y2, y3, y4, y5, y6, y7, y8])) ∧ (store ⟨g, o + 9, none⟩ y9).run P (w.setRow g (putL cur o [y0, y1, y2, y3, y4, y5, y6, y7, y8])) = .ok () (w.setRow g (putL cur o [y0, y1, y2, y3, y4, y5, y6, y7, y8, y9])) :=
 ⟨by have := store_at (P := P) (j := o) h (by omega) (h1 y0 (by simp)); rw [putL_one (by omega)] at this; exact this,
 by have := store_at (P := P) (j := o + 1) (setRow_heap w g cur (putL cur o [y0]) e (0, 0) h) (by rw [putL_size (by simp; omega)]; omega) (h1 y1 (by simp)); have q : (putL cur o [y0]).setIfInBounds (o + 1) y1 = putL cur o [y0, y1] := putL_set (by simp; omega) y1; rw [setRow_setRow, q] at this; exact this,
 by have := store_at (P := P) (j := o + 2) (setRow_heap w g cur (putL cur o [y0, y1]) e (0, 0) h) (by rw [putL_size (by simp; omega)]; omega) (h1 y2 (by simp)); have q : (putL cur o [y0, y1]).setIfInBounds (o + 2) y2 = putL cur o [y0, y1, y2] := putL_set (by simp; omega) y2; rw [setRow_setRow, q] at this; exact this,
 by have := store_at (P := P) (j := o + 3) (setRow_heap w g cur (putL cur o [y0, y1, y2]) e (0, 0) h) (by rw [putL_size (by simp; omega)]; omega) (h1 y3 (by simp)); have q : (putL cur o [y0, y1, y2]).setIfInBounds (o + 3) y3 = putL cur o [y0, y1, y2, y3] := putL_set (by simp; omega) y3; rw [setRow_setRow, q] at this; exact this,
 by have := store_at (P := P) (j := o + 4) (setRow_heap w g cur (putL cur o [y0, y1, y2, y3]) e (0, 0) h) (by rw [putL_size (by simp; omega)]; omega) (h1 y4 (by simp)); have q : (putL cur o [y0, y1, y2, y3]).setIfInBounds (o + 4) y4 = putL cur o [y0, y1, y2, y3, y4] := putL_set (by simp; omega) y4; rw [setRow_setRow, q] at this; exact this,
 by have := store_at (P := P) (j := o + 5) (setRow_heap w g cur (putL cur o [y0, y1, y2, y3, y4]) e (0, 0) h) (by rw [putL_size (by simp; omega)]; omega) (h1 y5 (by simp)); have q : (putL cur o [y0, y1, y2, y3, y4]).setIfInBounds (o + 5) y5 = putL cur o [y0, y1, y2, y3, y4, y5] := putL_set (by simp; omega) y5; rw [setRow_setRow, q] at this; exact this,
 by have := store_at (P := P) (j := o + 6) (setRow_heap w g cur (putL cur o [y0, y1, y2, y3, y4, y5]) e (0, 0) h) (by rw [putL_size (by simp; omega)]; omega) (h1 y6 (by simp)); have q : (putL cur o [y0, y1, y2, y3, y4, y5]).setIfInBounds (o + 6) y6 = putL cur o [y0, y1, y2, y3, y4, y5, y6] := putL_set (by simp; omega) y6; rw [setRow_setRow, q] at this; exact this,
 by have := store_at (P := P) (j := o + 7) (setRow_heap w g cur (putL cur o [y0, y1, y2, y3, y4, y5, y6]) e (0, 0) h) (by rw [putL_size (by simp; omega)]; omega) (h1 y7 (by simp)); have q : (putL cur o [y0, y1, y2, y3, y4, y5, y6]).setIfInBounds (o + 7) y7 = putL cur o [y0, y1, y2, y3, y4, y5, y6, y7] := putL_set (by simp; omega) y7; rw [setRow_setRow, q] at this; exact this,
 by have := store_at (P := P) (j := o + 8) (setRow_heap w g cur (putL cur o [y0, y1, y2, y3, y4, y5, y6, y7]) e (0, 0) h) (by rw [putL_size (by simp; omega)]; omega) (h1 y8 (by simp)); have q : (putL cur o [y0, y1, y2, y3, y4, y5, y6, y7]).setIfInBounds (o + 8) y8 = putL cur o [y0, y1, y2, y3, y4, y5, y6, y7, y8] := putL_set (by simp; omega) y8; rw [setRow_setRow, q] at this; exact this,
 by have := store_at (P := P) (j := o + 9) (setRow_heap w g cur (putL cur o [y0, y1, y2, y3, y4, y5, y6, y7, y8]) e (0, 0) h) (by rw [putL_size (by simp; omega)]; omega) (h1 y9 (by simp)); have q : (putL cur o [y0, y1, y2, y3, y4, y5, y6, y7, y8]).setIfInBounds (o + 9) y9 = putL cur o [y0, y1, y2, y3, y4, y5, y6, y7, y8, y9] := putL_set (by simp; omega) y9; rw [setRow_setRow, q] at this; exact this⟩
end
section
variable {w0 w : World} {l : List Item} {α β : Type} {A : Ty α} {B : Ty β} {LA : A.Law} {LB : B.Law}
theorem St.turnHead {i i' : Item} (h : St w0 (i :: l) w) (hF : ∀ b, i'.F b → i.F b) (hp : i.φ w → i'.φ w) : St w0 (i' :: l) w :=
 h.set 0 rfl i' hF (Turn.refl _ _) (hp (h.get 0 rfl))
/-- A number ahead. -/
theorem St.intp {F : Nat → Prop} {c : List Value} {x : β} (h : St w0 (iT LB F c x :: l) w) (a : Int) : St w0 (iT (tPair_law tInt_law LB) F (.int .i64 a :: c) (a, x) :: l) w :=
 h.turnHead (i' := iT (tPair_law tInt_law LB) F (.int .i64 a :: c) (a, x)) (fun _ q => q) (fun q => ⟨[.int .i64 a], c, fun _ => False, F, rfl, rfl, q, fun _ k => k.elim, fun _ k => k, fun _ k => k.elim⟩)
/-- Plain data behind. -/
theorem St.pval {F : Nat → Prop} {c d : List Value} {x : α} {y : β} (h : St w0 (iT LA F c x :: l) w) (LB : B.Law) (o : B.O w (fun _ => False) d y) : St w0 (iT (tPair_law LA LB) F (c ++ d) (x, y) :: l) w :=
 h.turnHead (i' := iT (tPair_law LA LB) F (c ++ d) (x, y)) (fun _ q => q) (fun q => ⟨c, d, F, fun _ => False, rfl, q, o, fun _ k => k, fun _ k => k.elim, fun _ _ k => k⟩)
/-- Two that lie apart make a pair. -/
theorem St.cat {F1 F2 : Nat → Prop} {c1 c2 : List Value} {x : α} {y : β} (h : St w0 (iT LB F2 c2 y :: iT LA F1 c1 x :: l) w) : ∃ F, St w0 (iT (tPair_law LA LB) F (c1 ++ c2) (x, y) :: l) w := by
 have h1 := h.gT 0 rfl
 have h2 := h.gT 1 rfl
 have hd := h.s.apart 1 rfl 0 rfl (by decide)
 refine ⟨fun b => F1 b ∨ F2 b, h.d, ⟨⟨c1, c2, F1, F2, rfl, h2, h1, fun _ k => Or.inl k, fun _ k => Or.inr k, hd⟩, fun b hb => ⟨?_, fun j hj => ?_⟩, h.s.2.2.2.2⟩, fun j hj b hb => ?_⟩
 ·
  rcases hb with q | q
  ·
   exact h.s.lt (iT LA F1 c1 x) (by simp) b q
  ·
   exact h.s.lt (iT LB F2 c2 y) (by simp) b q
 ·
  rcases hb with q | q
  ·
   exact (h.s.2.2.2.1 b q).2 j hj
  ·
   exact (h.s.2.1 b q).2 j (by simp [hj])
 ·
  rcases List.mem_cons.1 hj with rfl | hm
  ·
   rcases hb with q | q
   ·
    exact h.lo (iT LA F1 c1 x) (by simp) b q
   ·
    exact h.lo (iT LB F2 c2 y) (by simp) b q
  ·
   exact h.lo j (by simp [hm]) b hb
theorem St.outC {α : Type} {T : Ty α} {L : T.Law} {F : Nat → Prop} {c : List Value} {x : α} (h : St w0 (iT L F c x :: l) w) : T.O w (since w0) c x := L.mono (h.gT 0 rfl) (fun b hb => h.lo (iT L F c x) (by simp) b hb)
theorem St.pushTE {e : TypeId} {T : Ty α} {w' : World} (L : T.Law) (L2 : (tSl e T).Law) (h : St w0 l w) (c : Below w.heap.size w w') {G : Nat → Prop} {v : Value} {xs : List α} (o : SlO e T w' G v xs) (hG : ∀ b, G b → w.heap.size ≤ b) : ∃ F, St w0 (iT L2 F [v] xs :: l) w' := h.pushE L2 c ⟨v, rfl, o⟩ hG
end
theorem setCell_box {W : World} {b : Nat} {c : Array Value} {t : TypeId} (h : W.heap[b]? = some (.cells c t (0, 0))) (j : Nat) (v : Value) : W.setCell ⟨b, j, none⟩ v = W.setRow b (c.setIfInBounds j v) := setCell_eq_setRow W b j c t (0, 0) v h
theorem cell_ex {W : World} {b k : Nat} {c : Array Value} {t : TypeId} {f : Nat × Nat} (h : W.heap[b]? = some (.cells c t f)) (hk : k < c.size) : ∃ u, W.cell? ⟨b, k, none⟩ = some u := ⟨c[k], by simp [World.cell?, h, hk]⟩
theorem one_app {a b : List Value} (h : ∀ v ∈ a, v.oneCell' = true) (k : ∀ v ∈ b, v.oneCell' = true) : ∀ v ∈ a ++ b, v.oneCell' = true := fun v hv => (List.mem_append.1 hv).elim (h v) (k v)
theorem o_int {w : World} (a : Int) : tInt.O w (fun _ => False) [.int .i64 a] a := rfl
theorem o_pair {α β : Type} {A : Ty α} {B : Ty β} {w : World} {c d : List Value} {x : α} {y : β} (h : A.O w (fun _ => False) c x) (k : B.O w (fun _ => False) d y) : (tPair A B).O w (fun _ => False) (c ++ d) (x, y) :=
 ⟨c, d, _, _, rfl, h, k, fun _ q => q, fun _ q => q, fun _ _ q => q⟩
theorem tCond_one : tCond.One := (tPair_one tInt_one (tPair_one tInt_one tInt_one))
theorem toK_Cond {cs : List Value} {x : _} {w : World} (h : tCond.R w cs x) : Calls Tryz.prog 141 #[.agg cs.toArray] w (FreshT tCond (fun cs => .agg cs.toArray) w x) := by
 obtain ⟨a0, a1, a2⟩ := x
 obtain rfl := tCond_R h
 exact toCond_T _ _ _ w
theorem eqK_Cond {cs ds : List Value} {x : _} {w : World} (h : tCond.R w cs x) (g : tCond.R w ds x) : Calls Tryz.prog 147 #[.agg cs.toArray, .agg ds.toArray] w fun e w' => e = .returned (.bool true) ∧ Below w.heap.size w w' := by
 obtain ⟨a0, a1, a2⟩ := x
 obtain rfl := tCond_R h
 obtain rfl := tCond_R g
 exact eqCond_T _ _ _ w
theorem szKS_CondS {v : Value} {xs : _} {k0 : Int} {w : World} (h : SlR tCond w v xs) (hk : k0 ≤ 1048576) (hp : 0 ≤ k0) (ho : tCondS.ok xs) :
  Calls Tryz.prog 73 #[v, .int .i64 k0] w fun e w' => e = .returned (.int .i64 (szR k0 (zL tCond xs))) ∧ Below w.heap.size w w' := by
 by_cases z : ((zL tCond xs : Nat) : Int) ≤ k0
 ·
  rw [szR_y z]; exact szCondS_Y _ _ _ _ h z hk
 ·
  rw [szR_n z]; exact szCondS_N _ _ _ _ h (by omega) hk hp ho
theorem Tryz.kinfo_CondS : (Tryz.prog.info? 177).map (fun i => (i.zero, i.size)) = some (some (.agg #[.int .i64 0, .int .i64 0, .int .i64 0]), 3) := by kernel_rfl
theorem Tryz.kbytes_CondS : ((Tryz.prog.info? 177).map (fun i => decide (i.bytes ≤ 512))) = some true := by kernel_rfl
set_option maxHeartbeats 8000000 in
theorem toKS_CondS {v : Value} {xs : _} {w : World} (h : SlR tCond w v xs) (hs : zL tCond xs ≤ 1048576) :
  Calls Tryz.prog 75 #[v] w (FreshS 177 tCond w xs) := by
 obtain ⟨i0, hi, hz0, hz1⟩ : ∃ i0, Tryz.prog.info? 177 = some i0 ∧ i0.zero = some (.agg #[.int .i64 0, .int .i64 0, .int .i64 0]) ∧ i0.size = 3 := by
  have h0 := Tryz.kinfo_CondS
  cases q : Tryz.prog.info? 177 with
  | none => rw [q] at h0; simp at h0
  | some i => rw [q] at h0; simp only [Option.map_some, Option.some.injEq, Prod.mk.injEq] at h0; exact ⟨i, rfl, h0.1, h0.2⟩
 have hz2 : i0.bytes ≤ 512 := by
  have h0 := Tryz.kbytes_CondS
  rw [hi] at h0
  simpa using h0
 have HI := zh hi; have HZ0 := zh hz0; have HZ1 := zh hz1; have HZ2 := zh hz2
 clear hi hz0 hz1 hz2
 have H := zh h
 have hlen := zL_len hs
 have HS := zh hs
 obtain ⟨a, cap, rfl⟩ := slR_len h
 clear h hs
 go_enter Tryz.func75, Tryz.ntmps75
 go_wp2_with (at_make; refine wpList_make_full _ rfl (.tmp 6) (.tmp 6) 51 rfl w.heap.size 177 i0 (.agg #[.int .i64 0, .int .i64 0, .int .i64 0]) 3 Tryz.underlying51 HI.out HZ0.out HZ1.out _ _ _ _ xs.length rfl rfl rfl rfl (by have h9 := Nat.mul_le_mul HZ2.out hlen; have h8 := Nat.mul_le_mul hlen HZ2.out; omega) (by unfold maxLen; omega) (Nat.le_refl _) ?_)
 intro w1 hown0 hg0
 have hown1 : SlO 177 tCond w1 (since w) (.slice (some ⟨w.heap.size, 0, none⟩) xs.length xs.length) (List.replicate xs.length tCond.d) := slO_made (z := #[.int .i64 0, .int .i64 0, .int .i64 0]) tCond_law rfl (tCond_zero w1) (Nat.le_refl _) hown0
 have hbel1 := (Below.refl w.heap.size w).grown hg0 (Nat.le_refl _) (fun k hk => by cases hk)
 clear hown0 hg0
 go_wp2
 go_loopw [4] (fun i wr => ∃ k : Nat, k ≤ xs.length ∧ i = .int .i64 k ∧ SlO 177 tCond wr (since w) (.slice (some ⟨w.heap.size, 0, none⟩) xs.length xs.length) (xs.take k ++ List.replicate (xs.length - k) tCond.d) ∧ Below w.heap.size w wr) (fun i _ => xs.length - (intOf i).toNat)
 case atStart => exact ⟨0, Nat.zero_le _, rfl, by simpa using hown1, hbel1⟩
 case round =>
  obtain ⟨k, hk, rfl, hown, hbel⟩ := hrel
  by_cases hlt : k < xs.length
  ·
   have HSET := zh (cTo_step (d := tCond.d) hlt)
   have HKL : k < (xs.take k ++ List.replicate (xs.length - k) tCond.d).length := by rw [cTo_len hk]; exact hlt
   have i1 : (0 : Int) ≤ (k : Int) := by omega
   have i2 : (k : Int) < (xs.length : Int) := by omega
   have S1 := zh (zL_at HS.out hlt)
   obtain ⟨b, off, cap', cs, hv, hbl, hcs, hR⟩ := slR_at (slR_below tCond_law H.out hbel) hlt
   simp only [Value.slice.injEq] at hv
   obtain ⟨rfl, _, rfl⟩ := hv
   obtain ⟨cur, hg, hsz, hput⟩ := slO_fill tCond_law hown HKL
   have HG := zh hg; have HP := zh hput; have HB := zh hbel
   clear HKL hown1 hbel1 hg hput hown hbel
   generalize xs.getD k tCond.d = x at *
   obtain ⟨y0, y1, y2, rfl⟩ := len3 (tCond_law.len hR)
   have p := row3 (o := off + k * 3) hcs
   have HR := zh hR
   clear hcs hR
   go_wp2_with fail
   refine (toK_Cond HR.out).mono ?_
   rintro e w2 ⟨gs, rfl, ow, b2⟩
   obtain ⟨g0, g1, g2, rfl⟩ := len3 (tCond_law.len (tCond_law.reads ow))
   have hgl := (Array.getElem?_eq_some_iff.1 HG.out).1
   have st := fill3 (P := Tryz.prog) (o := k * 3) ((b2.block _ hgl).trans HG.out) hsz (tCond_one (tCond_law.reads ow))
   have HST := zh (HP.out w2 _ _ _ b2 ow (fun b hb => ⟨Nat.le_trans HB.out.size hb, hb⟩))
   rw [HSET.out] at HST
   have B3 := zh (below_turn (HB.out.trans (b2.mono HB.out.size)) (turn_row (b := w.heap.size) (c := putL cur (k * 3) [g0, g1, g2])) (fun b hb => by rw [hb]; exact Nat.le_refl _) (Nat.le_trans HB.out.size b2.size))
   clear hsz hgl b2 ow
   go_wp2
   go_roundw
   case rel => exact ⟨k + 1, by omega, by go_num, HST.out, B3.out⟩
   case measure => simp [intOf]; omega
  ·
   obtain rfl : k = xs.length := by omega
   have HE : Hid (xs.take xs.length ++ List.replicate (xs.length - xs.length) tCond.d = xs) := zh (by simp)
   rw [HE.out] at hown
   go_wp2
   go_ret
   exact ⟨_, rfl, hown, hbel⟩
set_option maxHeartbeats 8000000 in
theorem eqKS_CondS {v u : Value} {xs : _} {w : World} (h : SlR tCond w v xs) (g : SlR tCond w u xs) (hs : zL tCond xs ≤ 1048576) :
  Calls Tryz.prog 78 #[v, u] w fun e w' => e = .returned (.bool true) ∧ Below w.heap.size w w' := by
 have H := zh h
 have G := zh g
 have HS := zh hs
 obtain ⟨a, cap, rfl⟩ := slR_len h
 obtain ⟨a2, cap2, rfl⟩ := slR_len g
 have hlen := zL_len hs
 clear h g hs
 go_enter Tryz.func78, Tryz.ntmps78
 go_wp2
 go_loopw [5] (fun i wr => ∃ k : Nat, k ≤ xs.length ∧ i = .int .i64 k ∧ Below w.heap.size w wr) (fun i _ => xs.length - (intOf i).toNat)
 case atStart => exact ⟨0, Nat.zero_le _, rfl, Below.refl _ _⟩
 case round =>
  obtain ⟨k, hk, rfl, hbel⟩ := hrel
  by_cases hlt : k < xs.length
  ·
   obtain ⟨b, off, cap', cs, hv, hbl, hcs, hR⟩ := slR_at (slR_below tCond_law H.out hbel) hlt
   simp only [Value.slice.injEq] at hv
   obtain ⟨rfl, _, rfl⟩ := hv
   obtain ⟨b2, off2, cap2', ds, hv2, hbl2, hds, hQ⟩ := slR_at (slR_below tCond_law G.out hbel) hlt
   simp only [Value.slice.injEq] at hv2
   obtain ⟨rfl, _, rfl⟩ := hv2
   have S1 := zh (zL_at HS.out hlt)
   have i1 : (0 : Int) ≤ (k : Int) := by omega
   have i2 : (k : Int) < (xs.length : Int) := by omega
   generalize xs.getD k tCond.d = x at *
   obtain ⟨y0, y1, y2, rfl⟩ := len3 (tCond_law.len hR)
   obtain ⟨z0, z1, z2, rfl⟩ := len3 (tCond_law.len hQ)
   have p := row3 (o := off + k * 3) hcs; have q := row3 (o := off2 + k * 3) hds
   have HR := zh hR; have HQ := zh hQ; have HB := zh hbel
   clear hcs hds hR hQ hbel
   go_wp2
   go_region_with (first | (go_at_call 147; refine (eqK_Cond (by exact tCond_law.below HR.out ⟨rfl, rfl, rfl, Nat.le_refl _, fun _ _ => rfl⟩) (by exact tCond_law.below HQ.out ⟨rfl, rfl, rfl, Nat.le_refl _, fun _ _ => rfl⟩)).mono ?_; rintro e w8 ⟨rfl, b9⟩; have b11 := zh (HB.out.trans (Below.mono (B := wr.heap.size) ⟨b9.os, b9.tape, b9.output, b9.size, b9.block⟩ HB.out.size)); clear b9))
   all_goals
    go_wp2
    go_roundw
    case rel => exact ⟨k + 1, by omega, by go_num, b11.out⟩
    case measure => simp [intOf]; omega
  ·
   go_wp2
   go_ret
   exact ⟨rfl, hbel⟩
theorem tIntES_one : tIntES.One := fun {w cs x} h v hv => by
 obtain ⟨u, rfl, h⟩ := h
 obtain ⟨a, c, rfl⟩ := slR_len h
 simp at hv; subst hv; rfl
theorem szKS_IntS {v : Value} {xs : _} {k0 : Int} {w : World} (h : SlR tInt w v xs) (hk : k0 ≤ 1048576) (hp : 0 ≤ k0) (ho : tIntS.ok xs) :
  Calls Tryz.prog 50 #[v, .int .i64 k0] w fun e w' => e = .returned (.int .i64 (szR k0 (zL tInt xs))) ∧ Below w.heap.size w w' := by
 by_cases z : ((zL tInt xs : Nat) : Int) ≤ k0
 ·
  rw [szR_y z]; exact szIntS_Y _ _ _ _ h z hk
 ·
  rw [szR_n z]; exact szIntS_N _ _ _ _ h (by omega) hk hp ho
theorem toKS_IntS {v : Value} {xs : _} {w : World} (h : SlR tInt w v xs) (hs : zL tInt xs ≤ 1048576) : Calls Tryz.prog 57 #[v] w (FreshS 3 tInt w xs) := toIntS_S _ _ _ h hs
theorem eqKS_IntS {v u : Value} {xs : _} {w : World} (h : SlR tInt w v xs) (g : SlR tInt w u xs) (hs : zL tInt xs ≤ 1048576) :
  Calls Tryz.prog 65 #[v, u] w fun e w' => e = .returned (.bool true) ∧ Below w.heap.size w w' := eqIntS_S _ _ _ _ h g hs
theorem tQuery_one : tQuery.One := (tPair_one tInt_one (tPair_one tInt_one (tPair_one (tSl_one _ _) (tSl_one _ _))))
theorem tQuery_P {w : World} {cs : List Value} {x0 : _} {x1 : _} {x2 : _} {x3 : _} (h : tQuery.R w cs (x0, x1, x2, x3)) : ∃ v2 v3, cs = [.int .i64 x0, .int .i64 x1, v2, v3] ∧ SlR tCond w v2 x2 ∧ SlR tInt w v3 x3 := by
 obtain ⟨_, _, rfl, rfl, ⟨_, _, rfl, rfl, ⟨_, _, rfl, ⟨v2, rfl, h2⟩, ⟨v3, rfl, h3⟩⟩⟩⟩ := h
 exact ⟨v2, v3, rfl, h2, h3⟩
theorem szQuery_eq {x0 : _} {x1 : _} {x2 : _} {x3 : _} : tQuery.sz (x0, x1, x2, x3) = zL tCond x2 + zL tInt x3 := by
 simp only [tQuery, tPair_sz, tInt_sz, tSl_sz]; try omega
def leQuery (x : Int × Int × List (Int × Int × Int) × List Int) : Prop := zL tCond x.2.2.1 ≤ 1048576 ∧ zL tInt x.2.2.2 ≤ 1048576
theorem leQuery_of {x : Int × Int × List (Int × Int × Int) × List Int} (h : tQuery.sz x ≤ 1048576) : leQuery x := by
 obtain ⟨x0, x1, x2, x3⟩ := x
 rw [szQuery_eq] at h
 exact ⟨by show zL tCond x2 ≤ _; omega, by show zL tInt x3 ≤ _; omega⟩
set_option maxHeartbeats 8000000 in
theorem szK_Query {cs : List Value} {x : _} {k0 : Int} {w : World} (h : tQuery.R w cs x) (hk : k0 ≤ 1048576) (hp : 0 ≤ k0) (ho : tQuery.ok x) :
  Calls Tryz.prog 20 #[.agg cs.toArray, .int .i64 k0] w fun e w' => e = .returned (.int .i64 (szR k0 (tQuery.sz x))) ∧ Below w.heap.size w w' := by
 obtain ⟨x0, x1, x2, x3⟩ := x
 obtain ⟨v2, v3, rfl, h2, h3⟩ := tQuery_P h
 rw [szQuery_eq]
 obtain ⟨o0, o1, o2, o3⟩ := ho
 have H2 := zh h2
 have O2 := zh o2
 have H3 := zh h3
 have O3 := zh o3
 clear h2 h3
 clear o0 o1 o2 o3
 have SP := zh ((St.init w).box [.int .i64 x0, .int .i64 x1, v2, v3] 48)
 go_enter Tryz.func20, Tryz.ntmps20
 have ld := cell4 (SP.out.gB 0 rfl)
 go_wp2_with fail
 clear ld
 generalize (w.alloc (.cells #[.int .i64 x0, .int .i64 x1, v2, v3] 48)) = W0 at *
 refine (szKS_CondS (slR_below tCond_law H2.out SP.out.d) (k0 := k0) (by omega) (by omega) O2.out).mono ?_
 rintro e W1 ⟨rfl, c⟩
 replace SP := zh (SP.out.below c)
 clear c
 by_cases z0 : ((zL tCond x2 : Nat) : Int) ≤ k0
 rotate_left
 ·
  rw [szR_n z0]
  have HE := zh (szR_n (k := k0) (z := zL tCond x2 + zL tInt x3) (by omega))
  clear z0
  go_wp2
  go_ret
  exact ⟨ty_ret HE.out.symm, SP.out.d⟩
 rw [szR_y z0]
 have n0 : ¬ k0 - ((zL tCond x2 : Nat) : Int) < 0 := by omega
 have ld := cell4 (SP.out.gB 0 rfl)
 go_wp2_with fail
 clear ld
 refine (szKS_IntS (slR_below tInt_law H3.out SP.out.d) (k0 := k0 - ((zL tCond x2 : Nat) : Int)) (by omega) (by omega) O3.out).mono ?_
 rintro e W2 ⟨rfl, c⟩
 replace SP := zh (SP.out.below c)
 clear c
 by_cases z1 : ((zL tInt x3 : Nat) : Int) ≤ k0 - ((zL tCond x2 : Nat) : Int)
 rotate_left
 ·
  rw [szR_n z1]
  have HE := zh (szR_n (k := k0) (z := zL tCond x2 + zL tInt x3) (by omega))
  clear z0 z1
  go_wp2
  go_ret
  exact ⟨ty_ret HE.out.symm, SP.out.d⟩
 rw [szR_y z1]
 have n1 : ¬ k0 - ((zL tCond x2 : Nat) : Int) - ((zL tInt x3 : Nat) : Int) < 0 := by omega
 have HE : Hid (szR k0 (zL tCond x2 + zL tInt x3) = k0 - ((zL tCond x2 : Nat) : Int) - ((zL tInt x3 : Nat) : Int)) := zh (by rw [szR_y (by omega)]; try omega)
 go_wp2
 go_ret
 exact ⟨ty_ret HE.out.symm, SP.out.d⟩
set_option maxHeartbeats 8000000 in
theorem eqK_Query {cs ds : List Value} {x : _} {w : World} (h : tQuery.R w cs x) (g : tQuery.R w ds x) (hs : leQuery x) :
  Calls Tryz.prog 24 #[.agg cs.toArray, .agg ds.toArray] w fun e w' => e = .returned (.bool true) ∧ Below w.heap.size w w' := by
 obtain ⟨x0, x1, x2, x3⟩ := x
 obtain ⟨v2, v3, rfl, h2, h3⟩ := tQuery_P h
 obtain ⟨v2', v3', rfl, h2', h3'⟩ := tQuery_P g
 obtain ⟨l2, l3⟩ := hs
 have H2 := zh h2; have G2 := zh h2'; have S2 := zh l2
 have H3 := zh h3; have G3 := zh h3'; have S3 := zh l3
 clear h2 h2' h3 h3'
 clear l2 l3
 have e0 : (x0 != x0) = false := by simp
 have e1 : (x1 != x1) = false := by simp
 have SP : Hid (St w [iB (w.heap.size + 1) [.int .i64 x0, .int .i64 x1, v2', v3'] 53, iB w.heap.size [.int .i64 x0, .int .i64 x1, v2, v3] 53] ((w.alloc (.cells #[.int .i64 x0, .int .i64 x1, v2, v3] 53)).alloc (.cells #[.int .i64 x0, .int .i64 x1, v2', v3'] 53))) := zh (by have := ((St.init w).box [.int .i64 x0, .int .i64 x1, v2, v3] 53).box [.int .i64 x0, .int .i64 x1, v2', v3'] 53; simpa only [World.size_alloc] using this)
 go_enter Tryz.func24, Tryz.ntmps24
 have ld := cell4 (SP.out.gB 1 rfl)
 have lc := cell4 (SP.out.gB 0 rfl)
 go_wp2_with fail
 clear ld lc
 generalize ((w.alloc (.cells #[.int .i64 x0, .int .i64 x1, v2, v3] 53)).alloc (.cells #[.int .i64 x0, .int .i64 x1, v2', v3'] 53)) = W0 at *
 refine (eqKS_CondS (slR_below tCond_law H2.out SP.out.d) (slR_below tCond_law G2.out SP.out.d) S2.out).mono ?_
 rintro e W1 ⟨rfl, c⟩
 replace SP := zh (SP.out.below c)
 clear c
 have ld := cell4 (SP.out.gB 1 rfl)
 have lc := cell4 (SP.out.gB 0 rfl)
 go_wp2_with fail
 clear ld lc
 refine (eqKS_IntS (slR_below tInt_law H3.out SP.out.d) (slR_below tInt_law G3.out SP.out.d) S3.out).mono ?_
 rintro e W2 ⟨rfl, c⟩
 replace SP := zh (SP.out.below c)
 clear c
 have ld := cell4 (SP.out.gB 1 rfl)
 have lc := cell4 (SP.out.gB 0 rfl)
 go_wp2
 go_ret
 exact ⟨rfl, SP.out.d⟩
set_option maxHeartbeats 8000000 in
theorem toK_Query {cs : List Value} {x : _} {w : World} (h : tQuery.R w cs x) (hs : tQuery.sz x ≤ 1048576) :
  Calls Tryz.prog 22 #[.agg cs.toArray] w (FreshT tQuery (fun cs => .agg cs.toArray) w x) := by
 obtain ⟨x0, x1, x2, x3⟩ := x
 obtain ⟨v2, v3, rfl, h2, h3⟩ := tQuery_P h
 rw [szQuery_eq] at hs
 have H2 := zh h2; have S2 := zh (show zL tCond x2 ≤ 1048576 by omega)
 have H3 := zh h3; have S3 := zh (show zL tInt x3 ≤ 1048576 by omega)
 clear hs h2 h3
 have SP : Hid (St w [iB (w.heap.size + 1 + 1) [.int .i64 0, .int .i64 0, .slice none 0 0, .slice none 0 0] 53, iB (w.heap.size + 1) [.int .i64 0, .int .i64 0, .slice none 0 0, .slice none 0 0] 53, iB w.heap.size [.int .i64 x0, .int .i64 x1, v2, v3] 48] (((w.alloc (.cells #[.int .i64 x0, .int .i64 x1, v2, v3] 48)).alloc (.cells #[.int .i64 0, .int .i64 0, .slice none 0 0, .slice none 0 0] 53)).alloc (.cells #[.int .i64 0, .int .i64 0, .slice none 0 0, .slice none 0 0] 53))) := zh (by have := (((St.init w).box [.int .i64 x0, .int .i64 x1, v2, v3] 48).box [.int .i64 0, .int .i64 0, .slice none 0 0, .slice none 0 0] 53).box [.int .i64 0, .int .i64 0, .slice none 0 0, .slice none 0 0] 53; simpa only [World.size_alloc] using this)
 go_enter Tryz.func22, Tryz.ntmps22
 go_upto_region 2 with fail
 generalize (((w.alloc (.cells #[.int .i64 x0, .int .i64 x1, v2, v3] 48)).alloc (.cells #[.int .i64 0, .int .i64 0, .slice none 0 0, .slice none 0 0] 53)).alloc (.cells #[.int .i64 0, .int .i64 0, .slice none 0 0, .slice none 0 0] 53)) = W0 at *
 have ld := cell4 (SP.out.gB 2 rfl)
 have le := cell4 (SP.out.gB 0 rfl)
 have fz := froz4 (SP.out.gB 0 rfl)
 go_upto_region 3 with fail
 clear ld le fz
 have e := setCell_box (SP.out.gB 0 rfl) 0 (.int .i64 x0)
 simp only [List.setIfInBounds_toArray, List.set_cons_succ, List.set_cons_zero] at e
 rw [e]
 clear e
 replace SP := zh (SP.out.store 0 rfl [.int .i64 x0, .int .i64 0, .slice none 0 0, .slice none 0 0])
 generalize W0.setRow (w.heap.size + 1 + 1) #[.int .i64 x0, .int .i64 0, .slice none 0 0, .slice none 0 0] = Y0 at *
 have ld := cell4 (SP.out.gB 2 rfl)
 have le := cell4 (SP.out.gB 0 rfl)
 have fz := froz4 (SP.out.gB 0 rfl)
 go_upto_region 4 with fail
 clear ld le fz
 have e := setCell_box (SP.out.gB 0 rfl) 1 (.int .i64 x1)
 simp only [List.setIfInBounds_toArray, List.set_cons_succ, List.set_cons_zero] at e
 rw [e]
 clear e
 replace SP := zh (SP.out.store 0 rfl [.int .i64 x0, .int .i64 x1, .slice none 0 0, .slice none 0 0])
 generalize Y0.setRow (w.heap.size + 1 + 1) #[.int .i64 x0, .int .i64 x1, .slice none 0 0, .slice none 0 0] = Y1 at *
 have ld := cell4 (SP.out.gB 2 rfl)
 go_wp2_with fail
 clear ld
 refine (toKS_CondS (slR_below tCond_law H2.out SP.out.d) S2.out).mono ?_
 rintro e V2 ⟨g2, rfl, o, c⟩
 obtain ⟨ga2, gc2, rfl⟩ := slO_len o
 obtain ⟨F2, sp⟩ := SP.out.pushTE tCond_law tCondS_law c o (fun b h => h)
 replace SP := zh sp
 clear sp o c
 have le := cell4 (SP.out.gB 1 rfl)
 have fz := froz4 (SP.out.gB 1 rfl)
 go_upto_region 5 with fail
 clear le fz
 have e := setCell_box (SP.out.gB 1 rfl) 2 (.slice ga2 x2.length gc2)
 simp only [List.setIfInBounds_toArray, List.set_cons_succ, List.set_cons_zero] at e
 rw [e]
 clear e
 replace SP := zh (SP.out.store 1 rfl [.int .i64 x0, .int .i64 x1, .slice ga2 x2.length gc2, .slice none 0 0])
 generalize V2.setRow (w.heap.size + 1 + 1) #[.int .i64 x0, .int .i64 x1, .slice ga2 x2.length gc2, .slice none 0 0] = Y2 at *
 have ld := cell4 (SP.out.gB 3 rfl)
 go_wp2_with fail
 clear ld
 refine (toKS_IntS (slR_below tInt_law H3.out SP.out.d) S3.out).mono ?_
 rintro e V3 ⟨g3, rfl, o, c⟩
 obtain ⟨ga3, gc3, rfl⟩ := slO_len o
 obtain ⟨F3, sp⟩ := SP.out.pushTE tInt_law tIntS_law c o (fun b h => h)
 replace SP := zh sp
 clear sp o c
 have le := cell4 (SP.out.gB 2 rfl)
 have fz := froz4 (SP.out.gB 2 rfl)
 go_upto_region 6 with fail
 clear le fz
 have e := setCell_box (SP.out.gB 2 rfl) 3 (.slice ga3 x3.length gc3)
 simp only [List.setIfInBounds_toArray, List.set_cons_succ, List.set_cons_zero] at e
 rw [e]
 clear e
 replace SP := zh (SP.out.store 2 rfl [.int .i64 x0, .int .i64 x1, .slice ga2 x2.length gc2, .slice ga3 x3.length gc3])
 generalize V3.setRow (w.heap.size + 1 + 1) #[.int .i64 x0, .int .i64 x1, .slice ga2 x2.length gc2, .slice ga3 x3.length gc3] = Y3 at *
 generalize hu0 : Value.int .i64 x0 = u0 at SP
 have on0 : ∀ v ∈ [u0], v.oneCell' = true := by rw [← hu0]; simp [Value.oneCell']
 have HU0 := zh hu0
 clear hu0
 generalize hu1 : Value.int .i64 x1 = u1 at SP
 have on1 : ∀ v ∈ [u1], v.oneCell' = true := by rw [← hu1]; simp [Value.oneCell']
 have HU1 := zh hu1
 clear hu1
 generalize hu2 : Value.slice ga2 x2.length gc2 = u2 at SP
 have on2 : ∀ v ∈ [u2], v.oneCell' = true := by rw [← hu2]; simp [Value.oneCell']
 have HU2 := zh hu2
 clear hu2
 generalize hu3 : Value.slice ga3 x3.length gc3 = u3 at SP
 have on3 : ∀ v ∈ [u3], v.oneCell' = true := by rw [← hu3]; simp [Value.oneCell']
 have HU3 := zh hu3
 clear hu3
 have hone := (one_app on0 (one_app on1 (one_app on2 on3)))
 clear on0 on1 on2 on3
 have ld := cell4 (SP.out.gB 2 rfl)
 have st := rst4 (P := Tryz.prog) (SP.out.gB 3 rfl) hone
 go_wp2
 clear ld st hone
 replace SP := zh (SP.out.store 3 rfl [u0, u1, u2, u3])
 generalize Y3.setRow (w.heap.size + 1) #[u0, u1, u2, u3] = YY at *
 have ld := cell4 (SP.out.gB 3 rfl)
 have J := SP.out.sub [0, 1] (by decide)
 refine bodyPost_ret (v := .agg #[u0, u1, u2, u3]) (by simp [results, Tryz.f22, go_sem, ld]) rfl ?_
 obtain ⟨_, J⟩ := J.cat
 replace J := J.intp x1
 replace J := J.intp x0
 obtain rfl := HU0.out
 obtain rfl := HU1.out
 obtain rfl := HU2.out
 obtain rfl := HU3.out
 exact ⟨_, rfl, J.outC, SP.out.d⟩
theorem tRow_one : tRow.One := (tPair_one tInt_one (tSl_one _ _))
theorem tRow_P {w : World} {cs : List Value} {x0 : _} {x1 : _} (h : tRow.R w cs (x0, x1)) : ∃ v1, cs = [.int .i64 x0, v1] ∧ SlR tInt w v1 x1 := by
 obtain ⟨_, _, rfl, rfl, ⟨v1, rfl, h1⟩⟩ := h
 exact ⟨v1, rfl, h1⟩
theorem szRow_eq {x0 : _} {x1 : _} : tRow.sz (x0, x1) = zL tInt x1 := by
 simp only [tRow, tPair_sz, tInt_sz, tSl_sz]; try omega
def leRow (x : Int × List Int) : Prop := zL tInt x.2 ≤ 1048576
theorem leRow_of {x : Int × List Int} (h : tRow.sz x ≤ 1048576) : leRow x := by
 obtain ⟨x0, x1⟩ := x
 rw [szRow_eq] at h
 show zL tInt x1 ≤ _; omega
set_option maxHeartbeats 8000000 in
theorem szK_Row {cs : List Value} {x : _} {k0 : Int} {w : World} (h : tRow.R w cs x) (hk : k0 ≤ 1048576) (hp : 0 ≤ k0) (ho : tRow.ok x) :
  Calls Tryz.prog 109 #[.agg cs.toArray, .int .i64 k0] w fun e w' => e = .returned (.int .i64 (szR k0 (tRow.sz x))) ∧ Below w.heap.size w w' := by
 obtain ⟨x0, x1⟩ := x
 obtain ⟨v1, rfl, h1⟩ := tRow_P h
 rw [szRow_eq]
 obtain ⟨o0, o1⟩ := ho
 have H1 := zh h1
 have O1 := zh o1
 clear h1
 clear o0 o1
 have SP := zh ((St.init w).box [.int .i64 x0, v1] 70)
 go_enter Tryz.func109, Tryz.ntmps109
 have ld := cell2 (SP.out.gB 0 rfl)
 go_wp2_with fail
 clear ld
 generalize (w.alloc (.cells #[.int .i64 x0, v1] 70)) = W0 at *
 refine (szKS_IntS (slR_below tInt_law H1.out SP.out.d) (k0 := k0) (by omega) (by omega) O1.out).mono ?_
 rintro e W1 ⟨rfl, c⟩
 replace SP := zh (SP.out.below c)
 clear c
 by_cases z0 : ((zL tInt x1 : Nat) : Int) ≤ k0
 rotate_left
 ·
  rw [szR_n z0]
  have HE := zh (szR_n (k := k0) (z := zL tInt x1) (by omega))
  clear z0
  go_wp2
  go_ret
  exact ⟨ty_ret HE.out.symm, SP.out.d⟩
 rw [szR_y z0]
 have n0 : ¬ k0 - ((zL tInt x1 : Nat) : Int) < 0 := by omega
 have HE : Hid (szR k0 (zL tInt x1) = k0 - ((zL tInt x1 : Nat) : Int)) := zh (by rw [szR_y (by omega)]; try omega)
 go_wp2
 go_ret
 exact ⟨ty_ret HE.out.symm, SP.out.d⟩
set_option maxHeartbeats 8000000 in
theorem eqK_Row {cs ds : List Value} {x : _} {w : World} (h : tRow.R w cs x) (g : tRow.R w ds x) (hs : leRow x) :
  Calls Tryz.prog 113 #[.agg cs.toArray, .agg ds.toArray] w fun e w' => e = .returned (.bool true) ∧ Below w.heap.size w w' := by
 obtain ⟨x0, x1⟩ := x
 obtain ⟨v1, rfl, h1⟩ := tRow_P h
 obtain ⟨v1', rfl, h1'⟩ := tRow_P g
 have l1 := hs
 have H1 := zh h1; have G1 := zh h1'; have S1 := zh l1
 clear h1 h1'
 clear l1
 have e0 : (x0 != x0) = false := by simp
 have SP : Hid (St w [iB (w.heap.size + 1) [.int .i64 x0, v1'] 75, iB w.heap.size [.int .i64 x0, v1] 75] ((w.alloc (.cells #[.int .i64 x0, v1] 75)).alloc (.cells #[.int .i64 x0, v1'] 75))) := zh (by have := ((St.init w).box [.int .i64 x0, v1] 75).box [.int .i64 x0, v1'] 75; simpa only [World.size_alloc] using this)
 go_enter Tryz.func113, Tryz.ntmps113
 have ld := cell2 (SP.out.gB 1 rfl)
 have lc := cell2 (SP.out.gB 0 rfl)
 go_wp2_with fail
 clear ld lc
 generalize ((w.alloc (.cells #[.int .i64 x0, v1] 75)).alloc (.cells #[.int .i64 x0, v1'] 75)) = W0 at *
 refine (eqKS_IntS (slR_below tInt_law H1.out SP.out.d) (slR_below tInt_law G1.out SP.out.d) S1.out).mono ?_
 rintro e W1 ⟨rfl, c⟩
 replace SP := zh (SP.out.below c)
 clear c
 have ld := cell2 (SP.out.gB 1 rfl)
 have lc := cell2 (SP.out.gB 0 rfl)
 go_wp2
 go_ret
 exact ⟨rfl, SP.out.d⟩
set_option maxHeartbeats 8000000 in
theorem toK_Row {cs : List Value} {x : _} {w : World} (h : tRow.R w cs x) (hs : tRow.sz x ≤ 1048576) :
  Calls Tryz.prog 111 #[.agg cs.toArray] w (FreshT tRow (fun cs => .agg cs.toArray) w x) := by
 obtain ⟨x0, x1⟩ := x
 obtain ⟨v1, rfl, h1⟩ := tRow_P h
 rw [szRow_eq] at hs
 have H1 := zh h1; have S1 := zh (show zL tInt x1 ≤ 1048576 by omega)
 clear hs h1
 have SP : Hid (St w [iB (w.heap.size + 1 + 1) [.int .i64 0, .slice none 0 0] 75, iB (w.heap.size + 1) [.int .i64 0, .slice none 0 0] 75, iB w.heap.size [.int .i64 x0, v1] 70] (((w.alloc (.cells #[.int .i64 x0, v1] 70)).alloc (.cells #[.int .i64 0, .slice none 0 0] 75)).alloc (.cells #[.int .i64 0, .slice none 0 0] 75))) := zh (by have := (((St.init w).box [.int .i64 x0, v1] 70).box [.int .i64 0, .slice none 0 0] 75).box [.int .i64 0, .slice none 0 0] 75; simpa only [World.size_alloc] using this)
 go_enter Tryz.func111, Tryz.ntmps111
 go_upto_region 2 with fail
 generalize (((w.alloc (.cells #[.int .i64 x0, v1] 70)).alloc (.cells #[.int .i64 0, .slice none 0 0] 75)).alloc (.cells #[.int .i64 0, .slice none 0 0] 75)) = W0 at *
 have ld := cell2 (SP.out.gB 2 rfl)
 have le := cell2 (SP.out.gB 0 rfl)
 have fz := froz2 (SP.out.gB 0 rfl)
 go_upto_region 3 with fail
 clear ld le fz
 have e := setCell_box (SP.out.gB 0 rfl) 0 (.int .i64 x0)
 simp only [List.setIfInBounds_toArray, List.set_cons_succ, List.set_cons_zero] at e
 rw [e]
 clear e
 replace SP := zh (SP.out.store 0 rfl [.int .i64 x0, .slice none 0 0])
 generalize W0.setRow (w.heap.size + 1 + 1) #[.int .i64 x0, .slice none 0 0] = Y0 at *
 have ld := cell2 (SP.out.gB 2 rfl)
 go_wp2_with fail
 clear ld
 refine (toKS_IntS (slR_below tInt_law H1.out SP.out.d) S1.out).mono ?_
 rintro e V1 ⟨g1, rfl, o, c⟩
 obtain ⟨ga1, gc1, rfl⟩ := slO_len o
 obtain ⟨F1, sp⟩ := SP.out.pushTE tInt_law tIntS_law c o (fun b h => h)
 replace SP := zh sp
 clear sp o c
 have le := cell2 (SP.out.gB 1 rfl)
 have fz := froz2 (SP.out.gB 1 rfl)
 go_upto_region 4 with fail
 clear le fz
 have e := setCell_box (SP.out.gB 1 rfl) 1 (.slice ga1 x1.length gc1)
 simp only [List.setIfInBounds_toArray, List.set_cons_succ, List.set_cons_zero] at e
 rw [e]
 clear e
 replace SP := zh (SP.out.store 1 rfl [.int .i64 x0, .slice ga1 x1.length gc1])
 generalize V1.setRow (w.heap.size + 1 + 1) #[.int .i64 x0, .slice ga1 x1.length gc1] = Y1 at *
 generalize hu0 : Value.int .i64 x0 = u0 at SP
 have on0 : ∀ v ∈ [u0], v.oneCell' = true := by rw [← hu0]; simp [Value.oneCell']
 have HU0 := zh hu0
 clear hu0
 generalize hu1 : Value.slice ga1 x1.length gc1 = u1 at SP
 have on1 : ∀ v ∈ [u1], v.oneCell' = true := by rw [← hu1]; simp [Value.oneCell']
 have HU1 := zh hu1
 clear hu1
 have hone := (one_app on0 on1)
 clear on0 on1
 have ld := cell2 (SP.out.gB 1 rfl)
 have st := rst2 (P := Tryz.prog) (SP.out.gB 2 rfl) hone
 go_wp2
 clear ld st hone
 replace SP := zh (SP.out.store 2 rfl [u0, u1])
 generalize Y1.setRow (w.heap.size + 1) #[u0, u1] = YY at *
 have ld := cell2 (SP.out.gB 2 rfl)
 have J := SP.out.sub [0] (by decide)
 refine bodyPost_ret (v := .agg #[u0, u1]) (by simp [results, Tryz.f111, go_sem, ld]) rfl ?_
 replace J := J.intp x0
 obtain rfl := HU0.out
 obtain rfl := HU1.out
 exact ⟨_, rfl, J.outC, SP.out.d⟩
set_option maxHeartbeats 8000000 in
theorem szKS_RowS {v : Value} {xs : _} {k0 : Int} {w : World} (h : SlR tRow w v xs) (hk : k0 ≤ 1048576) (hp : 0 ≤ k0) (ho : tRowS.ok xs) :
  Calls Tryz.prog 183 #[v, .int .i64 k0] w fun e w' => e = .returned (.int .i64 (szR k0 (zL tRow xs))) ∧ Below w.heap.size w w' := by
 have H := zh h
 have OX := zh ho.2
 have hn := ho.1
 obtain ⟨a, cap, rfl⟩ := slR_len h
 clear h ho
 by_cases h1 : k0 < (xs.length : Int)
 ·
  have hneg : k0 - (xs.length : Int) < 0 := by omega
  have HE := zh (szR_n (k := k0) (z := zL tRow xs) (by have := zTo_le (T := tRow) (xs := xs) (Nat.zero_le _); rw [zTo_zero] at this; omega))
  go_enter Tryz.func183, Tryz.ntmps183
  go_wp2
  go_ret
  exact ⟨ty_ret HE.out.symm, Below.refl _ _⟩
 ·
  go_enter Tryz.func183, Tryz.ntmps183
  have hneg : ¬ k0 - (xs.length : Int) < 0 := by omega
  go_wp2
  clear hneg
  go_loopw [1, 5] (fun l i wr => ∃ k : Nat, k ≤ xs.length ∧ i = .int .i64 k ∧ l = .int .i64 (k0 - (zTo tRow xs k : Int)) ∧ (zTo tRow xs k : Int) ≤ k0 ∧ Below w.heap.size w wr) (fun _ i _ => xs.length - (intOf i).toNat)
  case atStart => exact ⟨0, Nat.zero_le _, rfl, by rw [zTo_zero], by rw [zTo_zero]; omega, Below.refl _ _⟩
  case round =>
   obtain ⟨k, hk', rfl, rfl, hle, hbel⟩ := hrel
   by_cases hlt : k < xs.length
   ·
    have HST := zh (zTo_step (T := tRow) hlt)
    have HLE := zh (zTo_le (T := tRow) (xs := xs) (k := k + 1) (by omega))
    have HX := zh (OX.out k hlt)
    have i1 : (0 : Int) ≤ (k : Int) := by omega
    have i2 : (k : Int) < (xs.length : Int) := by omega
    obtain ⟨b, off, cap', cs, hv, hbl, hcs, hR⟩ := slR_at (slR_below tRow_law H.out hbel) hlt
    simp only [Value.slice.injEq] at hv
    obtain ⟨rfl, _, rfl⟩ := hv
    generalize xs.getD k tRow.d = x at *
    obtain ⟨y0, y1, rfl⟩ := len2 (tRow_law.len hR)
    have p := row2 (o := off + k * 2) hcs
    have HR := zh hR
    clear hcs hR
    go_wp2_with fail
    refine (szK_Row (k0 := k0 - (zTo tRow xs k : Int)) (tRow_law.below HR.out (Below.refl _ _)) (by omega) (by omega) HX.out).mono ?_
    rintro e w1 ⟨rfl, b1⟩
    have b2 := hbel.trans (b1.mono hbel.size)
    by_cases hz : ((tRow.sz x : Nat) : Int) ≤ k0 - (zTo tRow xs k : Int)
    ·
     rw [szR_y hz]
     have hneg : ¬ k0 - (zTo tRow xs k : Int) - ((tRow.sz x : Nat) : Int) < 0 := by omega
     have HZ := zh hz
     clear hz
     go_wp2
     go_roundw
     case rel => exact ⟨k + 1, by omega, by go_num, by rw [HST.out]; go_num, by rw [HST.out]; have := HZ.out; omega, b2⟩
     case measure => simp [intOf]; omega
    ·
     rw [szR_n hz]
     have HE := zh (szR_n (k := k0) (z := zL tRow xs) (by have := HST.out; have := HLE.out; omega))
     clear hz
     go_wp2
     go_ret
     exact ⟨ty_ret HE.out.symm, b2⟩
   ·
    obtain rfl : k = xs.length := by omega
    have HE := zh (szR_y (k := k0) (z := zL tRow xs) hle)
    go_wp2
    go_ret
    exact ⟨ty_ret HE.out.symm, hbel⟩
theorem Tryz.kinfo_RowS : (Tryz.prog.info? 75).map (fun i => (i.zero, i.size)) = some (some (.agg #[.int .i64 0, .slice none 0 0]), 2) := by kernel_rfl
theorem Tryz.kbytes_RowS : ((Tryz.prog.info? 75).map (fun i => decide (i.bytes ≤ 512))) = some true := by kernel_rfl
set_option maxHeartbeats 8000000 in
theorem toKS_RowS {v : Value} {xs : _} {w : World} (h : SlR tRow w v xs) (hs : zL tRow xs ≤ 1048576) :
  Calls Tryz.prog 192 #[v] w (FreshS 75 tRow w xs) := by
 obtain ⟨i0, hi, hz0, hz1⟩ : ∃ i0, Tryz.prog.info? 75 = some i0 ∧ i0.zero = some (.agg #[.int .i64 0, .slice none 0 0]) ∧ i0.size = 2 := by
  have h0 := Tryz.kinfo_RowS
  cases q : Tryz.prog.info? 75 with
  | none => rw [q] at h0; simp at h0
  | some i => rw [q] at h0; simp only [Option.map_some, Option.some.injEq, Prod.mk.injEq] at h0; exact ⟨i, rfl, h0.1, h0.2⟩
 have hz2 : i0.bytes ≤ 512 := by
  have h0 := Tryz.kbytes_RowS
  rw [hi] at h0
  simpa using h0
 have HI := zh hi; have HZ0 := zh hz0; have HZ1 := zh hz1; have HZ2 := zh hz2
 clear hi hz0 hz1 hz2
 have H := zh h
 have hlen := zL_len hs
 have HS := zh hs
 obtain ⟨a, cap, rfl⟩ := slR_len h
 clear h hs
 go_enter Tryz.func192, Tryz.ntmps192
 go_wp2_with (at_make; refine wpList_make_full _ rfl (.tmp 6) (.tmp 6) 57 rfl w.heap.size 75 i0 (.agg #[.int .i64 0, .slice none 0 0]) 2 Tryz.underlying57 HI.out HZ0.out HZ1.out _ _ _ _ xs.length rfl rfl rfl rfl (by have h9 := Nat.mul_le_mul HZ2.out hlen; have h8 := Nat.mul_le_mul hlen HZ2.out; omega) (by unfold maxLen; omega) (Nat.le_refl _) ?_)
 intro w1 hown0 hg0
 have hown1 : SlO 75 tRow w1 (since w) (.slice (some ⟨w.heap.size, 0, none⟩) xs.length xs.length) (List.replicate xs.length tRow.d) := slO_made (z := #[.int .i64 0, .slice none 0 0]) tRow_law rfl (tRow_zero w1) (Nat.le_refl _) hown0
 have hbel1 := (Below.refl w.heap.size w).grown hg0 (Nat.le_refl _) (fun k hk => by cases hk)
 clear hown0 hg0
 go_wp2
 go_loopw [4] (fun i wr => ∃ k : Nat, k ≤ xs.length ∧ i = .int .i64 k ∧ SlO 75 tRow wr (since w) (.slice (some ⟨w.heap.size, 0, none⟩) xs.length xs.length) (xs.take k ++ List.replicate (xs.length - k) tRow.d) ∧ Below w.heap.size w wr) (fun i _ => xs.length - (intOf i).toNat)
 case atStart => exact ⟨0, Nat.zero_le _, rfl, by simpa using hown1, hbel1⟩
 case round =>
  obtain ⟨k, hk, rfl, hown, hbel⟩ := hrel
  by_cases hlt : k < xs.length
  ·
   have HSET := zh (cTo_step (d := tRow.d) hlt)
   have HKL : k < (xs.take k ++ List.replicate (xs.length - k) tRow.d).length := by rw [cTo_len hk]; exact hlt
   have i1 : (0 : Int) ≤ (k : Int) := by omega
   have i2 : (k : Int) < (xs.length : Int) := by omega
   have S1 := zh (zL_at HS.out hlt)
   obtain ⟨b, off, cap', cs, hv, hbl, hcs, hR⟩ := slR_at (slR_below tRow_law H.out hbel) hlt
   simp only [Value.slice.injEq] at hv
   obtain ⟨rfl, _, rfl⟩ := hv
   obtain ⟨cur, hg, hsz, hput⟩ := slO_fill tRow_law hown HKL
   have HG := zh hg; have HP := zh hput; have HB := zh hbel
   clear HKL hown1 hbel1 hg hput hown hbel
   generalize xs.getD k tRow.d = x at *
   obtain ⟨y0, y1, rfl⟩ := len2 (tRow_law.len hR)
   have p := row2 (o := off + k * 2) hcs
   have HR := zh hR
   clear hcs hR
   go_wp2_with fail
   refine (toK_Row HR.out S1.out).mono ?_
   rintro e w2 ⟨gs, rfl, ow, b2⟩
   obtain ⟨g0, g1, rfl⟩ := len2 (tRow_law.len (tRow_law.reads ow))
   have hgl := (Array.getElem?_eq_some_iff.1 HG.out).1
   have st := fill2 (P := Tryz.prog) (o := k * 2) ((b2.block _ hgl).trans HG.out) hsz (tRow_one (tRow_law.reads ow))
   have HST := zh (HP.out w2 _ _ _ b2 ow (fun b hb => ⟨Nat.le_trans HB.out.size hb, hb⟩))
   rw [HSET.out] at HST
   have B3 := zh (below_turn (HB.out.trans (b2.mono HB.out.size)) (turn_row (b := w.heap.size) (c := putL cur (k * 2) [g0, g1])) (fun b hb => by rw [hb]; exact Nat.le_refl _) (Nat.le_trans HB.out.size b2.size))
   clear hsz hgl b2 ow
   go_wp2
   go_roundw
   case rel => exact ⟨k + 1, by omega, by go_num, HST.out, B3.out⟩
   case measure => simp [intOf]; omega
  ·
   obtain rfl : k = xs.length := by omega
   have HE : Hid (xs.take xs.length ++ List.replicate (xs.length - xs.length) tRow.d = xs) := zh (by simp)
   rw [HE.out] at hown
   go_wp2
   go_ret
   exact ⟨_, rfl, hown, hbel⟩
set_option maxHeartbeats 8000000 in
theorem eqKS_RowS {v u : Value} {xs : _} {w : World} (h : SlR tRow w v xs) (g : SlR tRow w u xs) (hs : zL tRow xs ≤ 1048576) :
  Calls Tryz.prog 82 #[v, u] w fun e w' => e = .returned (.bool true) ∧ Below w.heap.size w w' := by
 have H := zh h
 have G := zh g
 have HS := zh hs
 obtain ⟨a, cap, rfl⟩ := slR_len h
 obtain ⟨a2, cap2, rfl⟩ := slR_len g
 have hlen := zL_len hs
 clear h g hs
 go_enter Tryz.func82, Tryz.ntmps82
 go_wp2
 go_loopw [5] (fun i wr => ∃ k : Nat, k ≤ xs.length ∧ i = .int .i64 k ∧ Below w.heap.size w wr) (fun i _ => xs.length - (intOf i).toNat)
 case atStart => exact ⟨0, Nat.zero_le _, rfl, Below.refl _ _⟩
 case round =>
  obtain ⟨k, hk, rfl, hbel⟩ := hrel
  by_cases hlt : k < xs.length
  ·
   obtain ⟨b, off, cap', cs, hv, hbl, hcs, hR⟩ := slR_at (slR_below tRow_law H.out hbel) hlt
   simp only [Value.slice.injEq] at hv
   obtain ⟨rfl, _, rfl⟩ := hv
   obtain ⟨b2, off2, cap2', ds, hv2, hbl2, hds, hQ⟩ := slR_at (slR_below tRow_law G.out hbel) hlt
   simp only [Value.slice.injEq] at hv2
   obtain ⟨rfl, _, rfl⟩ := hv2
   have S1 := zh (zL_at HS.out hlt)
   have i1 : (0 : Int) ≤ (k : Int) := by omega
   have i2 : (k : Int) < (xs.length : Int) := by omega
   generalize xs.getD k tRow.d = x at *
   obtain ⟨y0, y1, rfl⟩ := len2 (tRow_law.len hR)
   obtain ⟨z0, z1, rfl⟩ := len2 (tRow_law.len hQ)
   have p := row2 (o := off + k * 2) hcs; have q := row2 (o := off2 + k * 2) hds
   have HR := zh hR; have HQ := zh hQ; have HB := zh hbel
   clear hcs hds hR hQ hbel
   go_wp2
   go_region_with (first | (go_at_call 113; refine (eqK_Row (by exact tRow_law.below HR.out ⟨rfl, rfl, rfl, Nat.le_refl _, fun _ _ => rfl⟩) (by exact tRow_law.below HQ.out ⟨rfl, rfl, rfl, Nat.le_refl _, fun _ _ => rfl⟩) (leRow_of S1.out)).mono ?_; rintro e w8 ⟨rfl, b9⟩; have b11 := zh (HB.out.trans (Below.mono (B := wr.heap.size) ⟨b9.os, b9.tape, b9.output, b9.size, b9.block⟩ HB.out.size)); clear b9))
   all_goals
    go_wp2
    go_roundw
    case rel => exact ⟨k + 1, by omega, by go_num, b11.out⟩
    case measure => simp [intOf]; omega
  ·
   go_wp2
   go_ret
   exact ⟨rfl, hbel⟩
theorem tFinished_one : tFinished.One := (tPair_one tQuery_one (tPair_one tInt_one (tPair_one tInt_one (tSl_one _ _))))
theorem tFinished_P {w : World} {cs : List Value} {x0 : _} {x1 : _} {x2 : _} {x3 : _} (h : tFinished.R w cs (x0, x1, x2, x3)) : ∃ p0_0 p0_1 p0_2 p0_3 v3, cs = [p0_0, p0_1, p0_2, p0_3, .int .i64 x1, .int .i64 x2, v3] ∧ tQuery.R w [p0_0, p0_1, p0_2, p0_3] x0 ∧ SlR tRow w v3 x3 := by
 obtain ⟨c0, _, rfl, h0, ⟨_, _, rfl, rfl, ⟨_, _, rfl, rfl, ⟨v3, rfl, h3⟩⟩⟩⟩ := h
 obtain ⟨p0_0, p0_1, p0_2, p0_3, rfl⟩ := len4 (tQuery_law.len h0)
 exact ⟨p0_0, p0_1, p0_2, p0_3, v3, rfl, h0, h3⟩
theorem szFinished_eq {x0 : _} {x1 : _} {x2 : _} {x3 : _} : tFinished.sz (x0, x1, x2, x3) = tQuery.sz x0 + zL tRow x3 := by
 simp only [tFinished, tPair_sz, tInt_sz, tSl_sz]; try omega
def leFinished (x : (Int × Int × List (Int × Int × Int) × List Int) × Int × Int × List (Int × List Int)) : Prop := leQuery x.1 ∧ zL tRow x.2.2.2 ≤ 1048576
theorem leFinished_of {x : (Int × Int × List (Int × Int × Int) × List Int) × Int × Int × List (Int × List Int)} (h : tFinished.sz x ≤ 1048576) : leFinished x := by
 obtain ⟨x0, x1, x2, x3⟩ := x
 rw [szFinished_eq] at h
 exact ⟨leQuery_of (show tQuery.sz x0 ≤ _ by omega), by show zL tRow x3 ≤ _; omega⟩
set_option maxHeartbeats 8000000 in
theorem szK_Finished {cs : List Value} {x : _} {k0 : Int} {w : World} (h : tFinished.R w cs x) (hk : k0 ≤ 1048576) (hp : 0 ≤ k0) (ho : tFinished.ok x) :
  Calls Tryz.prog 119 #[.agg cs.toArray, .int .i64 k0] w fun e w' => e = .returned (.int .i64 (szR k0 (tFinished.sz x))) ∧ Below w.heap.size w w' := by
 obtain ⟨x0, x1, x2, x3⟩ := x
 obtain ⟨p0_0, p0_1, p0_2, p0_3, v3, rfl, h0, h3⟩ := tFinished_P h
 rw [szFinished_eq]
 obtain ⟨o0, o1, o2, o3⟩ := ho
 have H0 := zh h0
 have O0 := zh o0
 have H3 := zh h3
 have O3 := zh o3
 clear h0 h3
 clear o0 o1 o2 o3
 have SP := zh ((St.init w).box [p0_0, p0_1, p0_2, p0_3, .int .i64 x1, .int .i64 x2, v3] 153)
 go_enter Tryz.func119, Tryz.ntmps119
 have ld := cell7 (SP.out.gB 0 rfl)
 go_wp2_with fail
 clear ld
 generalize (w.alloc (.cells #[p0_0, p0_1, p0_2, p0_3, .int .i64 x1, .int .i64 x2, v3] 153)) = W0 at *
 refine (szK_Query (tQuery_law.below H0.out SP.out.d) (k0 := k0) (by omega) (by omega) O0.out).mono ?_
 rintro e W1 ⟨rfl, c⟩
 replace SP := zh (SP.out.below c)
 clear c
 by_cases z0 : ((tQuery.sz x0 : Nat) : Int) ≤ k0
 rotate_left
 ·
  rw [szR_n z0]
  have HE := zh (szR_n (k := k0) (z := tQuery.sz x0 + zL tRow x3) (by omega))
  clear z0
  go_wp2
  go_ret
  exact ⟨ty_ret HE.out.symm, SP.out.d⟩
 rw [szR_y z0]
 have n0 : ¬ k0 - ((tQuery.sz x0 : Nat) : Int) < 0 := by omega
 have ld := cell7 (SP.out.gB 0 rfl)
 go_wp2_with fail
 clear ld
 refine (szKS_RowS (slR_below tRow_law H3.out SP.out.d) (k0 := k0 - ((tQuery.sz x0 : Nat) : Int)) (by omega) (by omega) O3.out).mono ?_
 rintro e W2 ⟨rfl, c⟩
 replace SP := zh (SP.out.below c)
 clear c
 by_cases z1 : ((zL tRow x3 : Nat) : Int) ≤ k0 - ((tQuery.sz x0 : Nat) : Int)
 rotate_left
 ·
  rw [szR_n z1]
  have HE := zh (szR_n (k := k0) (z := tQuery.sz x0 + zL tRow x3) (by omega))
  clear z0 z1
  go_wp2
  go_ret
  exact ⟨ty_ret HE.out.symm, SP.out.d⟩
 rw [szR_y z1]
 have n1 : ¬ k0 - ((tQuery.sz x0 : Nat) : Int) - ((zL tRow x3 : Nat) : Int) < 0 := by omega
 have HE : Hid (szR k0 (tQuery.sz x0 + zL tRow x3) = k0 - ((tQuery.sz x0 : Nat) : Int) - ((zL tRow x3 : Nat) : Int)) := zh (by rw [szR_y (by omega)]; try omega)
 go_wp2
 go_ret
 exact ⟨ty_ret HE.out.symm, SP.out.d⟩
set_option maxHeartbeats 8000000 in
theorem eqK_Finished {cs ds : List Value} {x : _} {w : World} (h : tFinished.R w cs x) (g : tFinished.R w ds x) (hs : leFinished x) :
  Calls Tryz.prog 27 #[.agg cs.toArray, .agg ds.toArray] w fun e w' => e = .returned (.bool true) ∧ Below w.heap.size w w' := by
 obtain ⟨x0, x1, x2, x3⟩ := x
 obtain ⟨p0_0, p0_1, p0_2, p0_3, v3, rfl, h0, h3⟩ := tFinished_P h
 obtain ⟨p0_0', p0_1', p0_2', p0_3', v3', rfl, h0', h3'⟩ := tFinished_P g
 obtain ⟨l0, l3⟩ := hs
 have H0 := zh h0; have G0 := zh h0'; have S0 := zh l0
 have H3 := zh h3; have G3 := zh h3'; have S3 := zh l3
 clear h0 h0' h3 h3'
 clear l0 l3
 have e1 : (x1 != x1) = false := by simp
 have e2 : (x2 != x2) = false := by simp
 have SP : Hid (St w [iB (w.heap.size + 1) [p0_0', p0_1', p0_2', p0_3', .int .i64 x1, .int .i64 x2, v3'] 59, iB w.heap.size [p0_0, p0_1, p0_2, p0_3, .int .i64 x1, .int .i64 x2, v3] 59] ((w.alloc (.cells #[p0_0, p0_1, p0_2, p0_3, .int .i64 x1, .int .i64 x2, v3] 59)).alloc (.cells #[p0_0', p0_1', p0_2', p0_3', .int .i64 x1, .int .i64 x2, v3'] 59))) := zh (by have := ((St.init w).box [p0_0, p0_1, p0_2, p0_3, .int .i64 x1, .int .i64 x2, v3] 59).box [p0_0', p0_1', p0_2', p0_3', .int .i64 x1, .int .i64 x2, v3'] 59; simpa only [World.size_alloc] using this)
 go_enter Tryz.func27, Tryz.ntmps27
 have ld := cell7 (SP.out.gB 1 rfl)
 have lc := cell7 (SP.out.gB 0 rfl)
 go_wp2_with fail
 clear ld lc
 generalize ((w.alloc (.cells #[p0_0, p0_1, p0_2, p0_3, .int .i64 x1, .int .i64 x2, v3] 59)).alloc (.cells #[p0_0', p0_1', p0_2', p0_3', .int .i64 x1, .int .i64 x2, v3'] 59)) = W0 at *
 refine (eqK_Query (tQuery_law.below H0.out SP.out.d) (tQuery_law.below G0.out SP.out.d) S0.out).mono ?_
 rintro e W1 ⟨rfl, c⟩
 replace SP := zh (SP.out.below c)
 clear c
 have ld := cell7 (SP.out.gB 1 rfl)
 have lc := cell7 (SP.out.gB 0 rfl)
 go_wp2_with fail
 clear ld lc
 refine (eqKS_RowS (slR_below tRow_law H3.out SP.out.d) (slR_below tRow_law G3.out SP.out.d) S3.out).mono ?_
 rintro e W2 ⟨rfl, c⟩
 replace SP := zh (SP.out.below c)
 clear c
 have ld := cell7 (SP.out.gB 1 rfl)
 have lc := cell7 (SP.out.gB 0 rfl)
 go_wp2
 go_ret
 exact ⟨rfl, SP.out.d⟩
set_option maxHeartbeats 8000000 in
theorem toK_Finished {cs : List Value} {x : _} {w : World} (h : tFinished.R w cs x) (hs : tFinished.sz x ≤ 1048576) :
  Calls Tryz.prog 128 #[.agg cs.toArray] w (FreshT tFinished (fun cs => .agg cs.toArray) w x) := by
 obtain ⟨x0, x1, x2, x3⟩ := x
 obtain ⟨p0_0, p0_1, p0_2, p0_3, v3, rfl, h0, h3⟩ := tFinished_P h
 rw [szFinished_eq] at hs
 have H0 := zh h0; have S0 := zh (show tQuery.sz x0 ≤ 1048576 by omega)
 have H3 := zh h3; have S3 := zh (show zL tRow x3 ≤ 1048576 by omega)
 clear hs h0 h3
 have SP : Hid (St w [iB (w.heap.size + 1 + 1) [.int .i64 0, .int .i64 0, .slice none 0 0, .slice none 0 0, .int .i64 0, .int .i64 0, .slice none 0 0] 59, iB (w.heap.size + 1) [.int .i64 0, .int .i64 0, .slice none 0 0, .slice none 0 0, .int .i64 0, .int .i64 0, .slice none 0 0] 59, iB w.heap.size [p0_0, p0_1, p0_2, p0_3, .int .i64 x1, .int .i64 x2, v3] 153] (((w.alloc (.cells #[p0_0, p0_1, p0_2, p0_3, .int .i64 x1, .int .i64 x2, v3] 153)).alloc (.cells #[.int .i64 0, .int .i64 0, .slice none 0 0, .slice none 0 0, .int .i64 0, .int .i64 0, .slice none 0 0] 59)).alloc (.cells #[.int .i64 0, .int .i64 0, .slice none 0 0, .slice none 0 0, .int .i64 0, .int .i64 0, .slice none 0 0] 59))) := zh (by have := (((St.init w).box [p0_0, p0_1, p0_2, p0_3, .int .i64 x1, .int .i64 x2, v3] 153).box [.int .i64 0, .int .i64 0, .slice none 0 0, .slice none 0 0, .int .i64 0, .int .i64 0, .slice none 0 0] 59).box [.int .i64 0, .int .i64 0, .slice none 0 0, .slice none 0 0, .int .i64 0, .int .i64 0, .slice none 0 0] 59; simpa only [World.size_alloc] using this)
 go_enter Tryz.func128, Tryz.ntmps128
 go_upto_region 2 with fail
 generalize (((w.alloc (.cells #[p0_0, p0_1, p0_2, p0_3, .int .i64 x1, .int .i64 x2, v3] 153)).alloc (.cells #[.int .i64 0, .int .i64 0, .slice none 0 0, .slice none 0 0, .int .i64 0, .int .i64 0, .slice none 0 0] 59)).alloc (.cells #[.int .i64 0, .int .i64 0, .slice none 0 0, .slice none 0 0, .int .i64 0, .int .i64 0, .slice none 0 0] 59)) = W0 at *
 have ld := cell7 (SP.out.gB 2 rfl)
 go_wp2_with fail
 clear ld
 refine (toK_Query (tQuery_law.below H0.out SP.out.d) S0.out).mono ?_
 rintro e V0 ⟨gs, rfl, o, c⟩
 obtain ⟨g0_0, g0_1, g0_2, g0_3, rfl⟩ := len4 (tQuery_law.len (tQuery_law.reads o))
 obtain ⟨F0, sp⟩ := SP.out.pushE tQuery_law c o (fun b h => h)
 replace SP := zh sp
 clear sp o c
 have st0 := store_at (P := Tryz.prog) (j := 0) (SP.out.gB 1 rfl) (by simp) (v := g0_0) (tQuery_one (SP.out.rT 0 rfl) _ (by simp))
 have st1 := store_at (P := Tryz.prog) (j := 1) (setRow_heap V0 (w.heap.size + 1 + 1) _ #[g0_0, .int .i64 0, .slice none 0 0, .slice none 0 0, .int .i64 0, .int .i64 0, .slice none 0 0] 59 (0, 0) (SP.out.gB 1 rfl)) (by simp) (v := g0_1) (tQuery_one (SP.out.rT 0 rfl) _ (by simp))
 rw [setRow_setRow] at st1
 have st2 := store_at (P := Tryz.prog) (j := 2) (setRow_heap V0 (w.heap.size + 1 + 1) _ #[g0_0, g0_1, .slice none 0 0, .slice none 0 0, .int .i64 0, .int .i64 0, .slice none 0 0] 59 (0, 0) (SP.out.gB 1 rfl)) (by simp) (v := g0_2) (tQuery_one (SP.out.rT 0 rfl) _ (by simp))
 rw [setRow_setRow] at st2
 have st3 := store_at (P := Tryz.prog) (j := 3) (setRow_heap V0 (w.heap.size + 1 + 1) _ #[g0_0, g0_1, g0_2, .slice none 0 0, .int .i64 0, .int .i64 0, .slice none 0 0] 59 (0, 0) (SP.out.gB 1 rfl)) (by simp) (v := g0_3) (tQuery_one (SP.out.rT 0 rfl) _ (by simp))
 rw [setRow_setRow] at st3
 simp only [List.setIfInBounds_toArray, List.set_cons_succ, List.set_cons_zero] at st0 st1 st2 st3
 go_upto_region 3 with fail
 clear st0 st1 st2 st3
 replace SP := zh (SP.out.store 1 rfl [g0_0, g0_1, g0_2, g0_3, .int .i64 0, .int .i64 0, .slice none 0 0])
 generalize V0.setRow (w.heap.size + 1 + 1) #[g0_0, g0_1, g0_2, g0_3, .int .i64 0, .int .i64 0, .slice none 0 0] = Y0 at *
 have ld := cell7 (SP.out.gB 3 rfl)
 have le := cell7 (SP.out.gB 1 rfl)
 have fz := froz7 (SP.out.gB 1 rfl)
 go_upto_region 4 with fail
 clear ld le fz
 have e := setCell_box (SP.out.gB 1 rfl) 4 (.int .i64 x1)
 simp only [List.setIfInBounds_toArray, List.set_cons_succ, List.set_cons_zero] at e
 rw [e]
 clear e
 replace SP := zh (SP.out.store 1 rfl [g0_0, g0_1, g0_2, g0_3, .int .i64 x1, .int .i64 0, .slice none 0 0])
 generalize Y0.setRow (w.heap.size + 1 + 1) #[g0_0, g0_1, g0_2, g0_3, .int .i64 x1, .int .i64 0, .slice none 0 0] = Y1 at *
 have ld := cell7 (SP.out.gB 3 rfl)
 have le := cell7 (SP.out.gB 1 rfl)
 have fz := froz7 (SP.out.gB 1 rfl)
 go_upto_region 5 with fail
 clear ld le fz
 have e := setCell_box (SP.out.gB 1 rfl) 5 (.int .i64 x2)
 simp only [List.setIfInBounds_toArray, List.set_cons_succ, List.set_cons_zero] at e
 rw [e]
 clear e
 replace SP := zh (SP.out.store 1 rfl [g0_0, g0_1, g0_2, g0_3, .int .i64 x1, .int .i64 x2, .slice none 0 0])
 generalize Y1.setRow (w.heap.size + 1 + 1) #[g0_0, g0_1, g0_2, g0_3, .int .i64 x1, .int .i64 x2, .slice none 0 0] = Y2 at *
 have ld := cell7 (SP.out.gB 3 rfl)
 go_wp2_with fail
 clear ld
 refine (toKS_RowS (slR_below tRow_law H3.out SP.out.d) S3.out).mono ?_
 rintro e V3 ⟨g3, rfl, o, c⟩
 obtain ⟨ga3, gc3, rfl⟩ := slO_len o
 obtain ⟨F3, sp⟩ := SP.out.pushTE tRow_law tRowS_law c o (fun b h => h)
 replace SP := zh sp
 clear sp o c
 have le := cell7 (SP.out.gB 2 rfl)
 have fz := froz7 (SP.out.gB 2 rfl)
 go_upto_region 6 with fail
 clear le fz
 have e := setCell_box (SP.out.gB 2 rfl) 6 (.slice ga3 x3.length gc3)
 simp only [List.setIfInBounds_toArray, List.set_cons_succ, List.set_cons_zero] at e
 rw [e]
 clear e
 replace SP := zh (SP.out.store 2 rfl [g0_0, g0_1, g0_2, g0_3, .int .i64 x1, .int .i64 x2, .slice ga3 x3.length gc3])
 generalize V3.setRow (w.heap.size + 1 + 1) #[g0_0, g0_1, g0_2, g0_3, .int .i64 x1, .int .i64 x2, .slice ga3 x3.length gc3] = Y3 at *
 generalize hu4 : Value.int .i64 x1 = u4 at SP
 have on4 : ∀ v ∈ [u4], v.oneCell' = true := by rw [← hu4]; simp [Value.oneCell']
 have HU4 := zh hu4
 clear hu4
 generalize hu5 : Value.int .i64 x2 = u5 at SP
 have on5 : ∀ v ∈ [u5], v.oneCell' = true := by rw [← hu5]; simp [Value.oneCell']
 have HU5 := zh hu5
 clear hu5
 generalize hu6 : Value.slice ga3 x3.length gc3 = u6 at SP
 have on6 : ∀ v ∈ [u6], v.oneCell' = true := by rw [← hu6]; simp [Value.oneCell']
 have HU6 := zh hu6
 clear hu6
 have hone := (one_app (tQuery_one (SP.out.rT 1 rfl)) (one_app on4 (one_app on5 on6)))
 clear on4 on5 on6
 have ld := cell7 (SP.out.gB 2 rfl)
 have st := rst7 (P := Tryz.prog) (SP.out.gB 3 rfl) hone
 go_wp2
 clear ld st hone
 replace SP := zh (SP.out.store 3 rfl [g0_0, g0_1, g0_2, g0_3, u4, u5, u6])
 generalize Y3.setRow (w.heap.size + 1) #[g0_0, g0_1, g0_2, g0_3, u4, u5, u6] = YY at *
 have ld := cell7 (SP.out.gB 3 rfl)
 have J := SP.out.sub [0, 1] (by decide)
 refine bodyPost_ret (v := .agg #[g0_0, g0_1, g0_2, g0_3, u4, u5, u6]) (by simp [results, Tryz.f128, go_sem, ld]) rfl ?_
 replace J := J.intp x2
 replace J := J.intp x1
 obtain ⟨_, J⟩ := J.cat
 obtain rfl := HU4.out
 obtain rfl := HU5.out
 obtain rfl := HU6.out
 exact ⟨_, rfl, J.outC, SP.out.d⟩
end Go.Proofs.YtnepfacnmaoieaaGreatDoor
