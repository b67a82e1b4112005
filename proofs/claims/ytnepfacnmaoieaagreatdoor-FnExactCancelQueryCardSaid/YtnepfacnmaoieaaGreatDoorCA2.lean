/-
 Texts of the proof, merged: SetMath, SetSpec, RowSpec, RowSl, RowOwn, RowLaw1, RowLaws, RowEq, Pk, PkN, PkS.
-/
import Derived.Test.YtnepfacnmaoieaaGreatDoorCA1
import Derived.WalkKit
import Derived.Deep.RegionHeld3
import Derived.IntWalk
import Derived.BigQuiet
import Derived.Deep.QuietTactic
import Derived.Laws.Cells
import Derived.Laws.CopyRow
namespace Go.Proofs.YtnepfacnmaoieaaGreatDoor
open Go.RowKit
open Go renaming frozen_of_row → Ez, cell_of_row → Ia, heap_alloc_new → Ic
open Go.World renaming size_alloc → Ie
open Nat renaming le_refl → Ii, zero_le → Ij
open Go.Value.slice renaming injEq → Ik
open Go.RowKit.Below renaming refl → Il
set_option maxRecDepth 100000
set_option linter.unusedVariables false
set_option linter.unusedSimpArgs false
/-- Is the list a set? -/
def SetL (l : List Int) : Prop := (∀ i, i < l.length → 0 ≤ l.getD i 0 ∧ l.getD i 0 ≤ 23) ∧ ∀ i, i + 1 < l.length → l.getD i 0 < l.getD (i + 1) 0
/-- The same as a test. -/
def setB (l : List Int) : Bool := (List.range l.length).all fun i => decide (0 ≤ l.getD i 0) && decide (l.getD i 0 ≤ 23) && (decide (i = 0) || decide (l.getD (i - 1) 0 < l.getD i 0))
theorem setB_iff (l : List Int) : setB l = true ↔ SetL l := by
 unfold setB SetL
 rw [List.all_eq_true]
 simp only [List.mem_range, Bool.and_eq_true, Bool.or_eq_true, decide_eq_true_eq]
 constructor
 ·
  intro h
  refine ⟨fun i hi => (h i hi).1, fun i hi => ?_⟩
  rcases (h (i + 1) hi).2 with h1 | h1
  ·
   omega
  ·
   simpa using h1
 ·
  rintro ⟨h1, h2⟩ i hi
  refine ⟨h1 i hi, ?_⟩
  by_cases e : i = 0
  ·
   exact Or.inl e
  ·
   right
   have := h2 (i - 1) (by omega)
   rwa [show i - 1 + 1 = i by omega] at this
theorem setB_no {l : List Int} (h : ¬ SetL l) : setB l = false := by
 cases e : setB l with
 | false => rfl
 | true => exact absurd ((setB_iff l).1 e) h
/-- As far as k the list is a set. -/
def SetTo (l : List Int) (k : Nat) : Prop := (∀ i, i < k → 0 ≤ l.getD i 0 ∧ l.getD i 0 ≤ 23) ∧ ∀ i, i + 1 < k → l.getD i 0 < l.getD (i + 1) 0
theorem setTo_all (l : List Int) : SetTo l l.length ↔ SetL l := Iff.rfl
theorem setTo_step {l : List Int} {k : Nat} (h : SetTo l k) (h0 : 0 ≤ l.getD k 0) (h1 : l.getD k 0 ≤ 23) (h2 : 0 < k → l.getD (k - 1) 0 < l.getD k 0) : SetTo l (k + 1) := by
 refine ⟨fun i hi => ?_, fun i hi => ?_⟩
 ·
  by_cases e : i = k
  ·
   subst e; exact ⟨h0, h1⟩
  ·
   exact h.1 i (by omega)
 ·
  by_cases e : i + 1 = k
  ·
   subst e; have := h2 (by omega); simpa using this
  ·
   exact h.2 i (by omega)
theorem not_set_range {l : List Int} {k : Nat} (hk : k < l.length) (h : ¬ (0 ≤ l.getD k 0 ∧ l.getD k 0 ≤ 23)) : ¬ SetL l := fun g => h (g.1 k hk)
theorem not_set_order {l : List Int} {k : Nat} (hk : k < l.length) (h0 : 0 < k) (h : ¬ l.getD (k - 1) 0 < l.getD k 0) : ¬ SetL l := fun g => by
 have := g.2 (k - 1) (by omega)
 rw [show k - 1 + 1 = k by omega] at this
 exact h this
theorem member_iff (l : List Int) (x : Int) : x ∈ l ↔ ∃ i, i < l.length ∧ l.getD i 0 = x := by
 constructor
 ·
  intro h
  obtain ⟨i, hi, e⟩ := List.getElem_of_mem h
  exact ⟨i, hi, by simp [List.getD, hi, e]⟩
 ·
  rintro ⟨i, hi, e⟩
  have : l[i] = x := by simpa [List.getD, hi] using e
  rw [← this]; exact List.getElem_mem hi
theorem Jy {b c : Bool} (h : b = c) : Ending.returned (.bool b) = .returned (.bool c) := by rw [h]
theorem Xe (a l h : Int) (w : World) (h1 : l ≤ a) (h2 : a ≤ h) : Calls Tryz.prog 55 #[.int .i64 a, .int .i64 l, .int .i64 h] w fun e w' => e = .returned (.bool true) ∧ w' = w := by
 go_enter Tryz.func55, Tryz.ntmps55
 go_wp2
 go_ret
 exact ⟨rfl, rfl⟩
theorem in_no (a l h : Int) (w : World) (hh : ¬ (l ≤ a ∧ a ≤ h)) : Calls Tryz.prog 55 #[.int .i64 a, .int .i64 l, .int .i64 h] w fun e w' => e = .returned (.bool false) ∧ w' = w := by
 by_cases h1 : l ≤ a
 ·
  have h2 : ¬ a ≤ h := by omega
  clear hh
  go_enter Tryz.func55, Tryz.ntmps55
  go_wp2
  go_ret
  exact ⟨rfl, rfl⟩
 ·
  clear hh
  go_enter Tryz.func55, Tryz.ntmps55
  go_wp2
  go_ret
  exact ⟨rfl, rfl⟩
/-! ### HasMember -/
theorem specHas (v : Value) (xs : List Int) (x : Int) (w : World) (h : Uc w v xs) (hn : xs.length ≤ 1048576) :
  Calls Tryz.prog 187 #[v, .int .i64 x] w fun e w' => e = .returned (.bool (decide (x ∈ xs))) ∧ w = w' := by
 have H := Lib.hid h
 obtain ⟨a, cap, rfl⟩ := Yg h
 clear h
 go_enter Tryz.func187, Tryz.ntmps187
 go_wp2
 go_loop [5] (fun i => ∃ k : Nat, k ≤ xs.length ∧ i = .int .i64 k ∧ Hid (∀ j, j < k → xs.getD j 0 ≠ x)) (fun i => xs.length - (intOf i).toNat)
 case atStart => exact ⟨0, Ij _, rfl, Lib.hid (fun j hj => by omega)⟩
 case round =>
  obtain ⟨k, hk, rfl, hne⟩ := hrel
  by_cases hlt : k < xs.length
  ·
   obtain ⟨b, off, cap', hv, hbl, hc⟩ := Vq H.out (by omega)
   simp only [Ik] at hv
   obtain ⟨rfl, _, rfl⟩ := hv
   have hcell := hc k hlt
   have i1 : (0 : Int) ≤ (k : Int) := by omega
   have i2 : (k : Int) < (xs.length : Int) := by omega
   clear hc
   by_cases he : xs.getD k 0 = x
   ·
    have HY := Lib.hid (show decide (x ∈ xs) = true from decide_eq_true ((member_iff xs x).2 ⟨k, hlt, he⟩))
    rw [he] at hcell
    have heq : (x == x) = true := by simp
    clear he
    go_wp2
    go_ret
    exact ⟨Jy HY.out.symm, rfl⟩
   ·
    have HN : Hid (∀ j, j < k + 1 → xs.getD j 0 ≠ x) := Lib.hid (fun j hj => by
     by_cases e : j = k
     ·
      exact e ▸ he
     ·
      exact hne.out j (by omega))
    have heq : (xs.getD k 0 == x) = false := by rw [beq_eq_false_iff_ne]; exact he
    clear he
    generalize xs.getD k 0 = y at hcell heq
    go_wp2
    go_round
    case rel => exact ⟨k + 1, by omega, by go_num, HN⟩
    case measure => simp [intOf]; omega
  ·
   have HN := Lib.hid (show decide (x ∈ xs) = false from decide_eq_false (fun g => by
    obtain ⟨j, hj, e⟩ := (member_iff xs x).1 g
    exact hne.out j (by omega) e))
   go_wp2
   go_ret
   exact ⟨Jy HN.out.symm, rfl⟩
/-! ### IsSet -/
set_option maxHeartbeats 1000000 in
theorem specIsSetBig (v : Value) (xs : List Int) (w : World) (h : Uc w v xs) (hn : xs.length ≤ 1073741824) :
  Calls Tryz.prog 190 #[v] w fun e w' => e = .returned (.bool (setB xs)) ∧ Below w w w' := by
 have H := Lib.hid h
 obtain ⟨a, cap, rfl⟩ := Yg h
 clear h
 go_enter Tryz.func190, Tryz.ntmps190
 go_wp2
 go_loopw [3] (fun i wr => ∃ k : Nat, k ≤ xs.length ∧ i = .int .i64 k ∧ Hid (SetTo xs k) ∧ Below w w wr) (fun i _ => xs.length - (intOf i).toNat)
 case atStart => exact ⟨0, Ij _, rfl, Lib.hid ⟨fun i hi => by omega, fun i hi => by omega⟩, Il _ _⟩
 case round =>
  obtain ⟨k, hk, rfl, hset, hbel⟩ := hrel
  by_cases hlt : k < xs.length
  ·
   obtain ⟨b, off, cap', hv, hbl, hc⟩ := Vq H.out (by omega)
   simp only [Ik] at hv
   obtain ⟨rfl, _, rfl⟩ := hv
   have hcell := (hbel.cell (p := ⟨b, off + k, none⟩) hbl).trans (hc k hlt)
   have i1 : (0 : Int) ≤ (k : Int) := by omega
   have i2 : (k : Int) < (xs.length : Int) := by omega
   by_cases hin : 0 ≤ xs.getD k 0 ∧ xs.getD k 0 ≤ 23
   ·
    by_cases hz : k = 0
    ·
     have HS : Hid (SetTo xs (k + 1)) := Lib.hid (setTo_step hset.out hin.1 hin.2 (fun g => by omega))
     obtain ⟨g0, g1⟩ := hin
     have hd : decide (0 < k) = false := by simp [hz]
     have hd2 : decide ((0 : Int) < (k : Int)) = false := by simp [hz]
     clear hc hz
     generalize xs.getD k 0 = y at hcell g0 g1
     go_wp2
     go_quiet ((go_at_call 55; exact Calls.quiet_of_same (Xe _ _ _ _ (by omega) (by omega))))
     go_wp2
     go_roundw
     case rel => exact ⟨k + 1, by omega, by go_num, HS, Yq hbel rfl rfl rfl rfl⟩
     case measure => simp [intOf]; omega
    ·
     have hcellp := (hbel.cell (p := ⟨b, off + (k - 1), none⟩) hbl).trans (hc (k - 1) (by omega))
     obtain ⟨g0, g1⟩ := hin
     have hd : 0 < k := by omega
     have i3 : (0 : Int) ≤ (k : Int) - 1 := by omega
     have i4 : (k : Int) - 1 < (xs.length : Int) := by omega
     have i5 : ((k : Int) - 1).toNat = k - 1 := by omega
     have e1 : IntKind.i64.wrap ((k : Int) - 1) = (k : Int) - 1 := IntWalk.i64_in _ (by omega)
     by_cases hle : xs.getD k 0 ≤ xs.getD (k - 1) 0
     ·
      have HNO := Lib.hid (setB_no (not_set_order hlt hd (by omega)))
      clear hc hz
      generalize xs.getD (k - 1) 0 = z at hcellp hle
      generalize xs.getD k 0 = y at hcell g0 g1 hle
      have hdl : decide (y ≤ z) = true := decide_eq_true hle
      go_wp2
      go_quiet ((go_at_call 55; exact Calls.quiet_of_same (Xe _ _ _ _ (by omega) (by omega))))
      go_wp2
      go_ret
      exact ⟨Jy HNO.out.symm, Yq hbel rfl rfl rfl rfl⟩
     ·
      have HS : Hid (SetTo xs (k + 1)) := Lib.hid (setTo_step hset.out g0 g1 (fun _ => by omega))
      clear hc hz
      generalize xs.getD (k - 1) 0 = z at hcellp hle
      generalize xs.getD k 0 = y at hcell g0 g1 hle
      have hdl : decide (y ≤ z) = false := decide_eq_false hle
      go_wp2
      go_quiet ((go_at_call 55; exact Calls.quiet_of_same (Xe _ _ _ _ (by omega) (by omega))))
      go_wp2
      go_roundw
      case rel => exact ⟨k + 1, by omega, by go_num, HS, Yq hbel rfl rfl rfl rfl⟩
      case measure => simp [intOf]; omega
   ·
    have HNO := Lib.hid (setB_no (not_set_range hlt hin))
    clear hc
    generalize xs.getD k 0 = y at hcell hin
    have HI := Lib.hid hin
    clear hin
    go_wp2
    go_quiet ((go_at_call 55; exact Calls.quiet_of_same (in_no _ _ _ _ HI.out)))
    go_wp2
    go_ret
    exact ⟨Jy HNO.out.symm, Yq hbel rfl rfl rfl rfl⟩
  ·
   obtain rfl : k = xs.length := by omega
   have HY := Lib.hid ((setB_iff xs).2 hset.out)
   go_wp2
   go_ret
   exact ⟨Jy HY.out.symm, hbel⟩
theorem specIsSet (v : Value) (xs : List Int) (w : World) (h : Uc w v xs) (hn : xs.length ≤ 1048576) :
  Calls Tryz.prog 190 #[v] w fun e w' => e = .returned (.bool (setB xs)) ∧ Below w w w' := specIsSetBig v xs w h (by omega)
/-- Is it a row? -/
def Ui (r : Ej) : Bool := decide (0 ≤ r.1 ∧ r.1 ≤ 999) && (r.2.all (fun x => decide (0 ≤ x ∧ x ≤ 99)) && decide (r.2.length = 3))
theorem rowB_bad {id : Int} {xs : List Int} {k : Nat} (hk : k < xs.length) (h : ¬ (0 ≤ xs.getD k 0 ∧ xs.getD k 0 ≤ 99)) : Ui (id, xs) = false := by
 have e : xs.getD k 0 = xs[k] := by simp [List.getD, hk]
 rw [e] at h
 have : (xs.all fun x => decide (0 ≤ x ∧ x ≤ 99)) = false := by
  rw [Bool.eq_false_iff]
  intro g
  rw [List.all_eq_true] at g
  exact h (of_decide_eq_true (g _ (List.getElem_mem hk)))
 unfold Ui
 simp only [this]
 simp
theorem rowB_all {id : Int} {xs : List Int} (h : ∀ k, k < xs.length → 0 ≤ xs.getD k 0 ∧ xs.getD k 0 ≤ 99) : Ui (id, xs) = (decide (0 ≤ id ∧ id ≤ 999) && decide (xs.length = 3)) := by
 have : (xs.all fun x => decide (0 ≤ x ∧ x ≤ 99)) = true := by
  rw [List.all_eq_true]
  intro x hx
  obtain ⟨k, hk, rfl⟩ := List.getElem_of_mem hx
  have := h k hk
  have e : xs.getD k 0 = xs[k] := by simp [List.getD, hk]
  rw [e] at this
  exact decide_eq_true this
 unfold Ui
 simp only [this, Bool.true_and]
set_option maxHeartbeats 2000000 in
theorem specIsRow (id : Int) (vv : Value) (xs : List Int) (w : World) (h : Uc w vv xs) (hn : xs.length ≤ 1048576) :
  Calls Tryz.prog 189 #[.agg #[.int .i64 id, vv]] w fun e w' => e = .returned (.bool (Ui (id, xs))) ∧ Below w w w' := by
 have H := Lib.hid h
 obtain ⟨a, cap, rfl⟩ := Yg h
 clear h
 go_enter Tryz.func189, Tryz.ntmps189
 go_wp2
 have hb0 : Below w w (w.alloc (.cells #[.int .i64 id, .slice a xs.length cap] 75)) := (Il _ w).alloc (Ii _) _
 have hc0 : (w.alloc (.cells #[.int .i64 id, .slice a xs.length cap] 75)).heap[w.heap.size]? = some (.cells #[.int .i64 id, .slice a xs.length cap] 75 (0, 0)) := Ic w _
 have d0 := (Ia _ _ 0 _ _ _ hc0).trans (show _ = some (Value.int .i64 id) from rfl)
 have d1 := (Ia _ _ 1 _ _ _ hc0).trans (show _ = some (Value.slice a xs.length cap) from rfl)
 have H1 := Lib.hid (Kx H.out hb0)
 have hlt1 : w.heap.size < (w.alloc (.cells #[.int .i64 id, .slice a xs.length cap] 75)).heap.size := by simp [Ie]
 generalize w.alloc (.cells #[.int .i64 id, .slice a xs.length cap] 75) = W at *
 clear hc0
 go_loopw [3] (fun i wr => ∃ k : Nat, k ≤ xs.length ∧ i = .int .i64 k ∧ Hid (∀ j, j < k → 0 ≤ xs.getD j 0 ∧ xs.getD j 0 ≤ 99) ∧ Below W W wr) (fun i _ => xs.length - (intOf i).toNat)
 case atStart => exact ⟨0, Ij _, rfl, Lib.hid (fun j hj => by omega), Il _ _⟩
 case round =>
  obtain ⟨k, hk, rfl, hall, hbel⟩ := hrel
  have c0 := (hbel.cell (p := ⟨w, 0, none⟩) hlt1).trans d0
  have c1 := (hbel.cell (p := ⟨w, 1, none⟩) hlt1).trans d1
  by_cases hlt : k < xs.length
  ·
   obtain ⟨b, off, cap', hv, hbl, hc⟩ := Vq H1.out (by omega)
   simp only [Ik] at hv
   obtain ⟨rfl, _, rfl⟩ := hv
   have hcell := (hbel.cell (p := ⟨b, off + k, none⟩) hbl).trans (hc k hlt)
   have i1 : (0 : Int) ≤ (k : Int) := by omega
   have i2 : (k : Int) < (xs.length : Int) := by omega
   clear hc
   by_cases hr : 0 ≤ xs.getD k 0 ∧ xs.getD k 0 ≤ 99
   ·
    have HA : Hid (∀ j, j < k + 1 → 0 ≤ xs.getD j 0 ∧ xs.getD j 0 ≤ 99) := Lib.hid (fun j hj => by
     by_cases e : j = k
     ·
      exact e ▸ hr
     ·
      exact hall.out j (by omega))
    have HI := Lib.hid (fun w => Xe (xs.getD k 0) 0 99 w hr.1 hr.2)
    clear hr hall
    generalize xs.getD k 0 = y at *
    go_wp2_with fail
    refine (HI.out _).mono ?_
    rintro e wx ⟨rfl, rfl⟩
    go_wp2
    go_roundw
    case rel => exact ⟨k + 1, by omega, by go_num, HA, hbel⟩
    case measure => simp [intOf]; omega
   ·
    have HF := Lib.hid (rowB_bad (id := id) hlt hr)
    have HI := Lib.hid (fun w => in_no (xs.getD k 0) 0 99 w hr)
    clear hr hall
    generalize xs.getD k 0 = y at *
    go_wp2_with fail
    refine (HI.out _).mono ?_
    rintro e wx ⟨rfl, rfl⟩
    go_wp2
    go_ret
    exact ⟨Jy HF.out.symm, hb0.trans (hbel.mono hb0.size)⟩
  ·
   obtain rfl : k = xs.length := by omega
   have HF := Lib.hid (rowB_all (id := id) hall.out)
   clear hall
   by_cases hr : 0 ≤ id ∧ id ≤ 999
   ·
    have HI := Lib.hid (fun w => Xe id 0 999 w hr.1 hr.2)
    have HD := Lib.hid (decide_eq_true hr)
    rw [HD.out] at HF
    clear hr HD
    go_wp2_with fail
    refine (HI.out _).mono ?_
    rintro e wx ⟨rfl, rfl⟩
    by_cases h3 : xs.length = 3
    ·
     have h3' : ((xs.length : Int) == 3) = true := by rw [beq_iff_eq]; omega
     have HE : Hid (Ui (id, xs) = true) := Lib.hid (by rw [HF.out, decide_eq_true h3]; rfl)
     clear h3
     go_wp2
     go_ret
     exact ⟨Jy HE.out.symm, hb0.trans (hbel.mono hb0.size)⟩
    ·
     have h3' : ((xs.length : Int) == 3) = false := by rw [beq_eq_false_iff_ne]; omega
     have HE : Hid (Ui (id, xs) = false) := Lib.hid (by rw [HF.out, decide_eq_false h3]; rfl)
     clear h3
     go_wp2
     go_ret
     exact ⟨Jy HE.out.symm, hb0.trans (hbel.mono hb0.size)⟩
   ·
    have HI := Lib.hid (fun w => in_no id 0 999 w hr)
    have HE : Hid (Ui (id, xs) = false) := Lib.hid (by rw [HF.out, decide_eq_false hr]; rfl)
    clear hr HF
    go_wp2_with fail
    refine (HI.out _).mono ?_
    rintro e wx ⟨rfl, rfl⟩
    go_wp2
    go_ret
    exact ⟨Jy HE.out.symm, hb0.trans (hbel.mono hb0.size)⟩
/-- The slice v reads as the rows rs; vs: where their values lie. -/
def RowsR (w : World) (v : Value) (rs : List Ej) : Prop :=
 (rs = [] ∧ ∃ a cap, v = .slice a 0 cap) ∨ ∃ (b off cap : Nat) (vs : Nat → Value), v = .slice (some ⟨b, off, none⟩) rs.length cap ∧ rs.length ≤ cap ∧ b < w.heap.size ∧
  ∀ j, j < rs.length → w.cell? ⟨b, off + j * 2, none⟩ = some (.int .i64 (rs.getD j (0, [])).1) ∧ w.cell? ⟨b, off + j * 2 + 1, none⟩ = some (vs j) ∧ Uc w (vs j) (rs.getD j (0, [])).2
/-- The slice v owns the rows rs, in blocks from B on, each block once. -/
def OwnsR (w : World) (B : Nat) (v : Value) (rs : List Ej) : Prop :=
 ∃ (cs : List Value) (vs : Nat → Value), w.ownsRow B 75 2 v rs.length cs ∧
  (∀ j, j < rs.length → cs[j * 2]? = some (.int .i64 (rs.getD j (0, [])).1) ∧ cs[j * 2 + 1]? = some (vs j) ∧ Ey w B (vs j) (rs.getD j (0, [])).2 ∧ ∀ b, (vs j).ownBlock = some b → v.ownBlock ≠ some b) ∧
  ∀ i j, i < rs.length → j < rs.length → i ≠ j → ∀ b, (vs i).ownBlock = some b → (vs j).ownBlock ≠ some b
theorem Kc {B : Nat} {a w : World} (h : Below B a w) : Below B a w.drew := ⟨h.os, h.tape, h.output, h.size, h.block⟩
theorem below_dn {B : Nat} {a w : World} (h : Below B a w) (q : Nat) : Below B a (w.drewN q) := ⟨h.os, h.tape, h.output, h.size, h.block⟩
theorem list_ne_at {xs ys : List Int} {k : Nat} (hx : k < xs.length) (h : ¬ xs.getD k 0 = ys.getD k 0) : ¬ xs = ys := fun e => h (by rw [e])
theorem list_eq_all {xs ys : List Int} (hl : xs.length = ys.length) (h : ∀ j, j < xs.length → xs.getD j 0 = ys.getD j 0) : xs = ys := by
 apply List.ext_getElem hl
 intro i h1 h2
 have := h i h1
 simpa [List.getD, h1, h2] using this
/-- Something that lies in blocks of its own. -/
structure Xf where
 F : Nat → Prop
 φ : World → Prop
 st : ∀ {w w' : World} {G : Nat → Prop}, φ w → Kb G w w' → (∀ b, F b → ¬ G b) → φ w'
/-- A datum by its cells. -/
def iT {α : Type} {T : Ty α} (L : T.Law) (F : Nat → Prop) (cs : List Value) (x : α) : Xf := ⟨F, fun w => T.O w F cs x, fun h t d => L.turn h t d⟩
/-- A slice. -/
def iS {α : Type} {T : Ty α} (e : TypeId) (L : T.Law) (F : Nat → Prop) (v : Value) (xs : List α) : Xf := ⟨F, fun w => Kp e T w F v xs, fun h t d => Ka L h t d⟩
/-- A block known whole. -/
def iB (b : Nat) (cs : List Value) (t : TypeId) : Xf :=
 ⟨fun k => k = b, fun w => w.heap[b]? = some (.cells cs.toArray t (0, 0)), fun h t d => (t.block b (Array.getElem?_eq_some_iff.1 h).1 (d b rfl)).trans h⟩
def Sep : List Xf → World → Prop
 | [], _ => True
 | i :: l, w => i.φ w ∧ (∀ b, i.F b → b < w.heap.size ∧ ∀ j, j ∈ l → ¬ j.F b) ∧ Sep l w
theorem Sep.lt : ∀ {l : List Xf} {w : World}, Sep l w → ∀ i ∈ l, ∀ b, i.F b → b < w.heap.size
 | _ :: _, _, h, i, hi, b, hb => by
  rcases List.mem_cons.1 hi with rfl | hm
  ·
   exact (h.2.1 b hb).1
  ·
   exact Sep.lt h.2.2 i hm b hb
theorem Sep.turn : ∀ {l : List Xf} {w w' : World} {G : Nat → Prop}, Sep l w → Kb G w w' → (∀ i ∈ l, ∀ b, i.F b → ¬ G b) → Sep l w'
 | [], _, _, _, _, _, _ => trivial
 | i :: l, w, w', G, h, t, d => ⟨i.st h.1 t (d i List.mem_cons_self), fun b hb => ⟨Nat.lt_of_lt_of_le (h.2.1 b hb).1 t.size, (h.2.1 b hb).2⟩, Sep.turn h.2.2 t (fun j hj => d j (List.mem_cons_of_mem _ hj))⟩
theorem Sep.get : ∀ {l : List Xf} {w : World}, Sep l w → ∀ (k : Nat) {i : Xf}, l[k]? = some i → i.φ w
 | i :: l, w, h, 0, j, e => by simp at e; subst e; exact h.1
 | i :: l, w, h, k + 1, j, e => Sep.get h.2.2 k (by simpa using e)
theorem Sep.apart : ∀ {l : List Xf} {w : World}, Sep l w → ∀ (k : Nat) {i : Xf}, l[k]? = some i → ∀ (n : Nat) {j : Xf}, l[n]? = some j → k ≠ n → ∀ b, i.F b → ¬ j.F b
 | i :: l, w, h, 0, x, e, 0, y, e', hn, b, hb => absurd rfl hn
 | i :: l, w, h, 0, x, e, n + 1, y, e', hn, b, hb => by simp at e e'; subst e; exact (h.2.1 b hb).2 y (List.mem_of_getElem? e')
 | i :: l, w, h, k + 1, x, e, 0, y, e', hn, b, hb => by simp at e e'; subst e'; exact fun hy => (h.2.1 b hy).2 x (List.mem_of_getElem? e) hb
 | i :: l, w, h, k + 1, x, e, n + 1, y, e', hn, b, hb => by simp at e e'; exact Sep.apart h.2.2 k e n e' (fun q => hn (by rw [q])) b hb
theorem Sep.set : ∀ {l : List Xf} {w w' : World}, Sep l w → ∀ (k : Nat) {i : Xf}, l[k]? = some i → ∀ (i' : Xf), (∀ b, i'.F b → i.F b) → Kb i.F w w' → i'.φ w' → Sep (l.set k i') w'
 | i :: l, w, w', h, 0, x, e, i', hF, t, hp => by
  simp at e; subst e
  exact ⟨hp, fun b hb => ⟨Nat.lt_of_lt_of_le (h.2.1 b (hF b hb)).1 t.size, (h.2.1 b (hF b hb)).2⟩, h.2.2.turn t (fun j hj b hb hc => (h.2.1 b hc).2 j hj hb)⟩
 | i :: l, w, w', h, k + 1, x, e, i', hF, t, hp => by
  simp at e
  have hx := List.mem_of_getElem? e
  refine ⟨i.st h.1 t (fun b hb => (h.2.1 b hb).2 x hx), fun b hb => ⟨Nat.lt_of_lt_of_le (h.2.1 b hb).1 t.size, fun j hj => ?_⟩, Sep.set h.2.2 k e i' hF t hp⟩
  rcases List.mem_or_eq_of_mem_set hj with q | rfl
  ·
   exact (h.2.1 b hb).2 j q
  ·
   exact fun q => (h.2.1 b hb).2 x hx (hF b q)
/-- Where a walk stands: Kw w0 it has turned nothing that was there, and owns what is listed. -/
structure St (w0 : World) (l : List Xf) (w : World) : Prop where
 d : Below w0 w0 w
 s : Sep l w
 lo : ∀ i ∈ l, ∀ b, i.F b → w0.heap.size ≤ b
theorem St.init (w : World) : St w [] w := ⟨Il _ _, trivial, fun _ h => by cases h⟩
section
variable {w0 w w' : World} {l : List Xf}
theorem St.le (h : St w0 l w) : w0.heap.size ≤ w.heap.size := h.d.size
theorem St.below (h : St w0 l w) (c : Below w w w') : St w0 l w' :=
 ⟨h.d.trans (c.mono h.d.size), h.s.turn (Yo c) (fun _ _ _ _ => not_false), h.lo⟩
theorem St.drew (h : St w0 l w) : St w0 l w.drew := h.below ⟨rfl, rfl, rfl, Ii _, fun _ _ => rfl⟩
theorem St.cons (h : St w0 l w) (c : Below w w w') (i : Xf) (hi : i.φ w') (hF : ∀ b, i.F b → w.heap.size ≤ b ∧ b < w'.heap.size) : St w0 (i :: l) w' :=
 ⟨(h.below c).d, ⟨hi, fun b hb => ⟨(hF b hb).2, fun j hj q => by have h1 := h.s.lt j hj b q; have h2 := (hF b hb).1; omega⟩, (h.below c).s⟩, fun j hj b hb => by
  rcases List.mem_cons.1 hj with rfl | hm
  ·
   exact Nat.le_trans h.d.size (hF b hb).1
  ·
   exact h.lo j hm b hb⟩
theorem St.push {α : Type} {T : Ty α} (L : T.Law) (h : St w0 l w) (c : Below w w w') {G : Nat → Prop} {cs : List Value} {x : α} (o : T.O w' G cs x) (hG : ∀ b, G b → w.heap.size ≤ b) : St w0 (iT L (fun b => G b ∧ b < w'.heap.size) cs x :: l) w' :=
 h.cons c _ (L.lt o) (fun b hb => ⟨hG b hb.1, hb.2⟩)
theorem St.pushS {α : Type} {T : Ty α} {e : TypeId} (L : T.Law) (h : St w0 l w) (c : Below w w w') {G : Nat → Prop} {v : Value} {xs : List α} (o : Kp e T w' G v xs) (hG : ∀ b, G b → w.heap.size ≤ b) : St w0 (iS e L (fun b => G b ∧ b < w'.heap.size) v xs :: l) w' :=
 h.cons c (iS e L (fun b => G b ∧ b < w'.heap.size) v xs) (Kn L o) (fun b hb => ⟨hG b hb.1, hb.2⟩)
theorem St.box (h : St w0 l w) (cs : List Value) (t : TypeId) : St w0 (iB w.heap.size cs t :: l) (w.alloc (.cells cs.toArray t)) :=
 h.cons ((Il _ _).alloc (Ii _) _) (iB w.heap.size cs t) (Ic w _) (fun b hb => by have hb : b = w.heap.size := hb; subst hb; exact ⟨Ii _, by rw [Ie]; omega⟩)
theorem St.pushE {α : Type} {T : Ty α} (L : T.Law) (h : St w0 l w) (c : Below w w w') {G : Nat → Prop} {cs : List Value} {x : α} (o : T.O w' G cs x) (hG : ∀ b, G b → w.heap.size ≤ b) : ∃ F, St w0 (iT L F cs x :: l) w' := ⟨_, h.push L c o hG⟩
theorem St.pushSE {α : Type} {T : Ty α} {e : TypeId} (L : T.Law) (h : St w0 l w) (c : Below w w w') {G : Nat → Prop} {v : Value} {xs : List α} (o : Kp e T w' G v xs) (hG : ∀ b, G b → w.heap.size ≤ b) : ∃ F, St w0 (iS e L F v xs :: l) w' := ⟨_, h.pushS L c o hG⟩
theorem St.get (h : St w0 l w) (k : Nat) {i : Xf} (e : l[k]? = some i) : i.φ w := h.s.get k e
theorem St.set (h : St w0 l w) (k : Nat) {i : Xf} (e : l[k]? = some i) (i' : Xf) (hF : ∀ b, i'.F b → i.F b) (t : Kb i.F w w') (hp : i'.φ w') : St w0 (l.set k i') w' :=
 ⟨Js h.d t (fun b hb => h.lo i (List.mem_of_getElem? e) b hb) h.d.size, h.s.set k e i' hF t hp, fun j hj b hb => by
  rcases List.mem_or_eq_of_mem_set hj with q | rfl
  ·
   exact h.lo j q b hb
  ·
   exact h.lo i (List.mem_of_getElem? e) b (hF b hb)⟩
theorem Sep.sub {l : List Xf} {w : World} (h : Sep l w) : ∀ (idx : List Nat), idx.Nodup → Sep (idx.filterMap fun i => l[i]?) w
 | [], _ => trivial
 | k :: idx, hn => by
  have ih := Sep.sub h idx (List.nodup_cons.1 hn).2
  cases e : l[k]? with
  | none => rw [List.filterMap_cons_none e]; exact ih
  | some i =>
   rw [List.filterMap_cons_some e]
   refine ⟨h.get k e, fun b hb => ⟨h.lt i (List.mem_of_getElem? e) b hb, fun j hj => ?_⟩, ih⟩
   obtain ⟨n, hm, hj'⟩ := List.mem_filterMap.1 hj
   exact h.apart k e n hj' (fun q => (List.nodup_cons.1 hn).1 (by rw [q]; exact hm)) b hb
theorem St.sub (h : St w0 l w) (idx : List Nat) (hn : idx.Nodup) : St w0 (idx.filterMap fun i => l[i]?) w :=
 ⟨h.d, h.s.sub idx hn, fun i hi b hb => by
  obtain ⟨n, _, hj'⟩ := List.mem_filterMap.1 hi
  exact h.lo i (List.mem_of_getElem? hj') b hb⟩
theorem St.tail {i : Xf} (h : St w0 (i :: l) w) : St w0 l w := ⟨h.d, h.s.2.2, fun j hj => h.lo j (List.mem_cons_of_mem _ hj)⟩
end
section
variable {w0 w w' : World} {l : List Xf} {α : Type} {T : Ty α}
theorem St.gT {L : T.Law} (h : St w0 l w) (k : Nat) {F : Nat → Prop} {cs : List Value} {x : α} (e : l[k]? = some (iT L F cs x)) : T.O w F cs x := h.s.get k e
theorem St.rT {L : T.Law} (h : St w0 l w) (k : Nat) {F : Nat → Prop} {cs : List Value} {x : α} (e : l[k]? = some (iT L F cs x)) : T.R w cs x := L.reads (h.s.get k e)
theorem St.gS {L : T.Law} {t : TypeId} (h : St w0 l w) (k : Nat) {F : Nat → Prop} {v : Value} {xs : List α} (e : l[k]? = some (iS t L F v xs)) : Kp t T w F v xs := h.s.get k e
theorem St.rS {L : T.Law} {t : TypeId} (h : St w0 l w) (k : Nat) {F : Nat → Prop} {v : Value} {xs : List α} (e : l[k]? = some (iS t L F v xs)) : Ko T w v xs := Up L (h.s.get k e)
theorem St.gB (h : St w0 l w) (k : Nat) {b : Nat} {cs : List Value} {t : TypeId} (e : l[k]? = some (iB b cs t)) : w.heap[b]? = some (.cells cs.toArray t (0, 0)) := h.s.get k e
end
section
variable {w0 w w' : World} {l : List Xf}
theorem Sep.upd : ∀ {l : List Xf} {w w' : World}, Sep l w → ∀ (k : Nat) {i : Xf}, l[k]? = some i → ∀ (i' : Xf), (∀ b, i'.F b → i.F b ∨ w.heap.size ≤ b) → (∀ b, i'.F b → b < w'.heap.size) → Kb i.F w w' → i'.φ w' → Sep (l.set k i') w'
 | i :: l, w, w', h, 0, x, e, i', hF, hl, t, hp => by
  simp at e; subst e
  refine ⟨hp, fun b hb => ⟨hl b hb, fun j hj q => ?_⟩, h.2.2.turn t (fun j hj b hb hc => (h.2.1 b hc).2 j hj hb)⟩
  rcases hF b hb with r | r
  ·
   exact (h.2.1 b r).2 j hj q
  ·
   have := h.2.2.lt j hj b q; omega
 | i :: l, w, w', h, k + 1, x, e, i', hF, hl, t, hp => by
  simp at e
  have hx := List.mem_of_getElem? e
  refine ⟨i.st h.1 t (fun b hb => (h.2.1 b hb).2 x hx), fun b hb => ⟨Nat.lt_of_lt_of_le (h.2.1 b hb).1 t.size, fun j hj => ?_⟩, Sep.upd h.2.2 k e i' hF hl t hp⟩
  rcases List.mem_or_eq_of_mem_set hj with q | rfl
  ·
   exact (h.2.1 b hb).2 j q
  ·
   intro q
   rcases hF b q with r | r
   ·
    exact (h.2.1 b hb).2 x hx r
   ·
    have := (h.2.1 b hb).1; omega
theorem St.upd (h : St w0 l w) (k : Nat) {i : Xf} (e : l[k]? = some i) (i' : Xf) (hF : ∀ b, i'.F b → i.F b ∨ w.heap.size ≤ b) (hl : ∀ b, i'.F b → b < w'.heap.size) (t : Kb i.F w w') (hp : i'.φ w') : St w0 (l.set k i') w' :=
 ⟨Js h.d t (fun b hb => h.lo i (List.mem_of_getElem? e) b hb) h.d.size, h.s.upd k e i' hF hl t hp, fun j hj b hb => by
  rcases List.mem_or_eq_of_mem_set hj with q | rfl
  ·
   exact h.lo j q b hb
  ·
   rcases hF b hb with r | r
   ·
    exact h.lo i (List.mem_of_getElem? e) b r
   ·
    exact Nat.le_trans h.d.size r⟩
/-- A slice has grown by an append. -/
theorem St.appS {α : Type} {T : Ty α} {L : T.Law} {t : TypeId} (h : St w0 l w) (k : Nat) {F G : Nat → Prop} {v v' : Value} {xs ys : List α} (e : l[k]? = some (iS t L F v xs)) (o : Kp t T w' G v' ys) (n : Kb F w w') (hG : ∀ b, G b → F b ∨ w.heap.size ≤ b) : ∃ F', St w0 (l.set k (iS t L F' v' ys)) w' :=
 ⟨_, h.upd k e (iS t L (fun b => G b ∧ b < w'.heap.size) v' ys) (fun b hb => hG b hb.1) (fun b hb => hb.2) n (Kn L o)⟩
theorem St.cell (h : St w0 l w) (k : Nat) {b : Nat} {cs : List Value} {t : TypeId} (e : l[k]? = some (iB b cs t)) (j : Nat) {u : Value} (hu : cs[j]? = some u) : w.cell? ⟨b, j, none⟩ = some u := (Ia w b j _ _ _ (h.gB k e)).trans (by simpa using hu)
theorem St.froz (h : St w0 l w) (k : Nat) {b : Nat} {cs : List Value} {t : TypeId} (e : l[k]? = some (iB b cs t)) (j : Nat) : w.frozen? ⟨b, j, none⟩ = false := Ez w b j _ _ (h.gB k e)
end
/-- One number in a block. -/
theorem slR_num {w : World} {b : Nat} {t : TypeId} {f : Nat × Nat} {x : Int} (h : w.heap[b]? = some (.cells #[.int .i64 x] t f)) : Ko Je w (.slice (some ⟨b, 0, none⟩) 1 1) [x] :=
 Or.inr ⟨b, 0, 1, fun _ => [.int .i64 x], rfl, Ii _, (Array.getElem?_eq_some_iff.1 h).1, fun j hj => by
  obtain rfl : j = 0 := by simpa using hj
  refine ⟨fun i hi => ?_, rfl⟩
  obtain rfl : i = 0 := by have : i < 1 := hi; omega
  simp [World.cell?, h]⟩
/-- Each cell of what is read is one cell. -/
def Ty.One {α : Type} (T : Ty α) : Prop := ∀ {w cs x}, T.R w cs x → ∀ v ∈ cs, v.oneCell' = true
theorem Vh : Je.One := fun {w cs x} h v hv => by
 have h : cs = [.int .i64 x] := h
 subst h; simp at hv; subst hv; rfl
theorem Kl {α β : Type} {a : Ty α} {b : Ty β} (A : a.One) (B : b.One) : (Yl a b).One := fun {w cs x} h v hv => by
 obtain ⟨c1, c2, rfl, h1, h2⟩ := h
 rcases List.mem_append.1 hv with q | q
 ·
  exact A h1 v q
 ·
  exact B h2 v q
theorem Xm {α : Type} (e : TypeId) (T : Ty α) : (tSl e T).One := fun {w cs x} h v hv => by
 obtain ⟨u, rfl, h⟩ := h
 obtain ⟨a, c, rfl⟩ := Jl h
 simp at hv; subst hv; rfl
/-- A block known whole is read whole. -/
theorem load_cells {P : Program} {w : World} {b : Nat} {cs : List Value} {t : TypeId} {f : Nat × Nat} (h : w.heap[b]? = some (.cells cs.toArray t f)) {n : Nat} (hn : cs.length = n) : (loadCellsFrom ⟨b, 0, none⟩ 0 n #[]).run P w = .ok cs.toArray w := by
 subst hn
 have := run_loadCells_list (P := P) w ⟨b, 0, none⟩ cs (fun j v hj => by
  have e : (⟨b, 0, none⟩ : Addr).add j = ⟨b, j, none⟩ := by unfold Addr.add; split <;> simp_all
  rw [e]
  simp [World.cell?, h, hj])
 simpa [loadCells] using this
theorem St.ld {P : Program} {w0 w : World} {l : List Xf} (h : St w0 l w) (k : Nat) {b : Nat} {cs : List Value} {t : TypeId} (e : l[k]? = some (iB b cs t)) {n : Nat} (hn : cs.length = n) : (loadCellsFrom ⟨b, 0, none⟩ 0 n #[]).run P w = .ok cs.toArray w := load_cells (h.gB k e) hn
theorem box_set {w : World} {b : Nat} {z c : List Value} {t : TypeId} (h : w.heap[b]? = some (.cells z.toArray t (0, 0))) : (w.setRow b c.toArray).heap[b]? = some (.cells c.toArray t (0, 0)) := setRow_heap w b z.toArray c.toArray t (0, 0) h
theorem Vk {w : World} {b : Nat} {c : Array Value} : Kb (fun k => k = b) w (w.setRow b c) :=
 ⟨rfl, rfl, rfl, by simp [World.setRow], fun k _ hn => by
  simp only [World.setRow]
  rw [Array.getElem?_modify]
  rw [if_neg (fun e => hn e.symm)]⟩
theorem St.store {w0 w : World} {l : List Xf} (h : St w0 l w) (k : Nat) {b : Nat} {z : List Value} {t : TypeId} (e : l[k]? = some (iB b z t)) (c : List Value) : St w0 (l.set k (iB b c t)) (w.setRow b c.toArray) :=
 h.set k e (iB b c t) (fun _ q => q) Vk (box_set (h.gB k e))
theorem Jx {P : Program} {W : World} {b j : Nat} {c : Array Value} {t : TypeId} {v : Value} (h : W.heap[b]? = some (.cells c t (0, 0))) (hj : j < c.size) (h1 : v.oneCell' = true) : (store ⟨b, j, none⟩ v).run P W = .ok () (W.setRow b (c.setIfInBounds j v)) := by
 have hcell : W.cell? ⟨b, j, none⟩ = some c[j] := by simp [World.cell?, h, hj]
 have hfro : W.frozen? ⟨b, j, none⟩ = false := by simp [World.frozen?, h]
 rw [run_store P W _ v _ h1, hcell]
 simp [hfro, setCell_eq_setRow W b j c t (0, 0) v h]
theorem len2 {cs : List Value} (h : cs.length = 2) : ∃ y0 y1 : Value, cs = [y0, y1] := by
 match cs, h with
 | [y0, y1], _ => exact ⟨y0, y1, rfl⟩
theorem Xk {w : World} {b : Nat} {t : TypeId} {f : Nat × Nat} {y0 y1 : Value} (h : w.heap[b]? = some (.cells #[y0, y1] t f)) : w.cell? ⟨b, 0, none⟩ = some y0 ∧ w.cell? ⟨b, 1, none⟩ = some y1 :=
 ⟨Ia w b 0 _ _ _ h, Ia w b 1 _ _ _ h⟩
theorem froz2 {w : World} {b : Nat} {t : TypeId} {y0 y1 : Value} (h : w.heap[b]? = some (.cells #[y0, y1] t (0, 0))) : w.frozen? ⟨b, 0, none⟩ = false ∧ w.frozen? ⟨b, 1, none⟩ = false :=
 ⟨Ez w b 0 _ _ h, Ez w b 1 _ _ h⟩
theorem rst2 {P : Program} {w : World} {b : Nat} {t : TypeId} {z0 z1 y0 y1 : Value} (h : w.heap[b]? = some (.cells #[z0, z1] t (0, 0))) (h1 : ∀ v ∈ [y0, y1], v.oneCell' = true) : (store ⟨b, 0, none⟩ y0).run P w = .ok () (w.setRow b #[y0, z1]) ∧ (store ⟨b, 1, none⟩ y1).run P (w.setRow b #[y0, z1]) = .ok () (w.setRow b #[y0, y1]) :=
 ⟨by have := Jx (P := P) (j := 0) h (by simp) (h1 y0 (by simp)); simpa using this,
 by have := Jx (P := P) (j := 1) (setRow_heap w b _ #[y0, z1] t (0, 0) h) (by simp) (h1 y1 (by simp)); rw [setRow_setRow] at this; simpa using this⟩
theorem len3 {cs : List Value} (h : cs.length = 3) : ∃ y0 y1 y2 : Value, cs = [y0, y1, y2] := by
 match cs, h with
 | [y0, y1, y2], _ => exact ⟨y0, y1, y2, rfl⟩
theorem len4 {cs : List Value} (h : cs.length = 4) : ∃ y0 y1 y2 y3 : Value, cs = [y0, y1, y2, y3] := by
 match cs, h with
 | [y0, y1, y2, y3], _ => exact ⟨y0, y1, y2, y3, rfl⟩
theorem Vv {w : World} {b : Nat} {t : TypeId} {f : Nat × Nat} {y0 y1 y2 y3 : Value} (h : w.heap[b]? = some (.cells #[y0, y1, y2, y3] t f)) : w.cell? ⟨b, 0, none⟩ = some y0 ∧ w.cell? ⟨b, 1, none⟩ = some y1 ∧ w.cell? ⟨b, 2, none⟩ = some y2 ∧ w.cell? ⟨b, 3, none⟩ = some y3 :=
 ⟨Ia w b 0 _ _ _ h, Ia w b 1 _ _ _ h, Ia w b 2 _ _ _ h, Ia w b 3 _ _ _ h⟩
theorem froz4 {w : World} {b : Nat} {t : TypeId} {y0 y1 y2 y3 : Value} (h : w.heap[b]? = some (.cells #[y0, y1, y2, y3] t (0, 0))) : w.frozen? ⟨b, 0, none⟩ = false ∧ w.frozen? ⟨b, 1, none⟩ = false ∧ w.frozen? ⟨b, 2, none⟩ = false ∧ w.frozen? ⟨b, 3, none⟩ = false :=
 ⟨Ez w b 0 _ _ h, Ez w b 1 _ _ h, Ez w b 2 _ _ h, Ez w b 3 _ _ h⟩
theorem rst4 {P : Program} {w : World} {b : Nat} {t : TypeId} {z0 z1 z2 z3 y0 y1 y2 y3 : Value} (h : w.heap[b]? = some (.cells #[z0, z1, z2, z3] t (0, 0))) (h1 : ∀ v ∈ [y0, y1, y2, y3], v.oneCell' = true) : (store ⟨b, 0, none⟩ y0).run P w = .ok () (w.setRow b #[y0, z1, z2, z3]) ∧ (store ⟨b, 1, none⟩ y1).run P (w.setRow b #[y0, z1, z2, z3]) = .ok () (w.setRow b #[y0, y1, z2, z3]) ∧ (store ⟨b, 2, none⟩ y2).run P (w.setRow b #[y0, y1, z2, z3]) = .ok () (w.setRow b #[y0, y1, y2, z3]) ∧ (store ⟨b, 3, none⟩ y3).run P (w.setRow b #[y0, y1, y2, z3]) = .ok () (w.setRow b #[y0, y1, y2, y3]) :=
 ⟨by have := Jx (P := P) (j := 0) h (by simp) (h1 y0 (by simp)); simpa using this,
 by have := Jx (P := P) (j := 1) (setRow_heap w b _ #[y0, z1, z2, z3] t (0, 0) h) (by simp) (h1 y1 (by simp)); rw [setRow_setRow] at this; simpa using this,
 by have := Jx (P := P) (j := 2) (setRow_heap w b _ #[y0, y1, z2, z3] t (0, 0) h) (by simp) (h1 y2 (by simp)); rw [setRow_setRow] at this; simpa using this,
 by have := Jx (P := P) (j := 3) (setRow_heap w b _ #[y0, y1, y2, z3] t (0, 0) h) (by simp) (h1 y3 (by simp)); rw [setRow_setRow] at this; simpa using this⟩
theorem len5 {cs : List Value} (h : cs.length = 5) : ∃ y0 y1 y2 y3 y4 : Value, cs = [y0, y1, y2, y3, y4] := by
 match cs, h with
 | [y0, y1, y2, y3, y4], _ => exact ⟨y0, y1, y2, y3, y4, rfl⟩
theorem Xh {w : World} {b : Nat} {t : TypeId} {f : Nat × Nat} {y0 y1 y2 y3 y4 : Value} (h : w.heap[b]? = some (.cells #[y0, y1, y2, y3, y4] t f)) : w.cell? ⟨b, 0, none⟩ = some y0 ∧ w.cell? ⟨b, 1, none⟩ = some y1 ∧ w.cell? ⟨b, 2, none⟩ = some y2 ∧ w.cell? ⟨b, 3, none⟩ = some y3 ∧ w.cell? ⟨b, 4, none⟩ = some y4 :=
 ⟨Ia w b 0 _ _ _ h, Ia w b 1 _ _ _ h, Ia w b 2 _ _ _ h, Ia w b 3 _ _ _ h, Ia w b 4 _ _ _ h⟩
theorem froz5 {w : World} {b : Nat} {t : TypeId} {y0 y1 y2 y3 y4 : Value} (h : w.heap[b]? = some (.cells #[y0, y1, y2, y3, y4] t (0, 0))) : w.frozen? ⟨b, 0, none⟩ = false ∧ w.frozen? ⟨b, 1, none⟩ = false ∧ w.frozen? ⟨b, 2, none⟩ = false ∧ w.frozen? ⟨b, 3, none⟩ = false ∧ w.frozen? ⟨b, 4, none⟩ = false :=
 ⟨Ez w b 0 _ _ h, Ez w b 1 _ _ h, Ez w b 2 _ _ h, Ez w b 3 _ _ h, Ez w b 4 _ _ h⟩
theorem rst5 {P : Program} {w : World} {b : Nat} {t : TypeId} {z0 z1 z2 z3 z4 y0 y1 y2 y3 y4 : Value} (h : w.heap[b]? = some (.cells #[z0, z1, z2, z3, z4] t (0, 0))) (h1 : ∀ v ∈ [y0, y1, y2, y3, y4], v.oneCell' = true) : (store ⟨b, 0, none⟩ y0).run P w = .ok () (w.setRow b #[y0, z1, z2, z3, z4]) ∧ (store ⟨b, 1, none⟩ y1).run P (w.setRow b #[y0, z1, z2, z3, z4]) = .ok () (w.setRow b #[y0, y1, z2, z3, z4]) ∧ (store ⟨b, 2, none⟩ y2).run P (w.setRow b #[y0, y1, z2, z3, z4]) = .ok () (w.setRow b #[y0, y1, y2, z3, z4]) ∧ (store ⟨b, 3, none⟩ y3).run P (w.setRow b #[y0, y1, y2, z3, z4]) = .ok () (w.setRow b #[y0, y1, y2, y3, z4]) ∧ (store ⟨b, 4, none⟩ y4).run P (w.setRow b #[y0, y1, y2, y3, z4]) = .ok () (w.setRow b #[y0, y1, y2, y3, y4]) :=
 ⟨by have := Jx (P := P) (j := 0) h (by simp) (h1 y0 (by simp)); simpa using this,
 by have := Jx (P := P) (j := 1) (setRow_heap w b _ #[y0, z1, z2, z3, z4] t (0, 0) h) (by simp) (h1 y1 (by simp)); rw [setRow_setRow] at this; simpa using this,
 by have := Jx (P := P) (j := 2) (setRow_heap w b _ #[y0, y1, z2, z3, z4] t (0, 0) h) (by simp) (h1 y2 (by simp)); rw [setRow_setRow] at this; simpa using this,
 by have := Jx (P := P) (j := 3) (setRow_heap w b _ #[y0, y1, y2, z3, z4] t (0, 0) h) (by simp) (h1 y3 (by simp)); rw [setRow_setRow] at this; simpa using this,
 by have := Jx (P := P) (j := 4) (setRow_heap w b _ #[y0, y1, y2, y3, z4] t (0, 0) h) (by simp) (h1 y4 (by simp)); rw [setRow_setRow] at this; simpa using this⟩
theorem len7 {cs : List Value} (h : cs.length = 7) : ∃ y0 y1 y2 y3 y4 y5 y6 : Value, cs = [y0, y1, y2, y3, y4, y5, y6] := by
 match cs, h with
 | [y0, y1, y2, y3, y4, y5, y6], _ => exact ⟨y0, y1, y2, y3, y4, y5, y6, rfl⟩
theorem Uv {w : World} {b : Nat} {t : TypeId} {f : Nat × Nat} {y0 y1 y2 y3 y4 y5 y6 : Value} (h : w.heap[b]? = some (.cells #[y0, y1, y2, y3, y4, y5, y6] t f)) : w.cell? ⟨b, 0, none⟩ = some y0 ∧ w.cell? ⟨b, 1, none⟩ = some y1 ∧ w.cell? ⟨b, 2, none⟩ = some y2 ∧ w.cell? ⟨b, 3, none⟩ = some y3 ∧ w.cell? ⟨b, 4, none⟩ = some y4 ∧ w.cell? ⟨b, 5, none⟩ = some y5 ∧ w.cell? ⟨b, 6, none⟩ = some y6 :=
 ⟨Ia w b 0 _ _ _ h, Ia w b 1 _ _ _ h, Ia w b 2 _ _ _ h, Ia w b 3 _ _ _ h, Ia w b 4 _ _ _ h, Ia w b 5 _ _ _ h, Ia w b 6 _ _ _ h⟩
theorem froz7 {w : World} {b : Nat} {t : TypeId} {y0 y1 y2 y3 y4 y5 y6 : Value} (h : w.heap[b]? = some (.cells #[y0, y1, y2, y3, y4, y5, y6] t (0, 0))) : w.frozen? ⟨b, 0, none⟩ = false ∧ w.frozen? ⟨b, 1, none⟩ = false ∧ w.frozen? ⟨b, 2, none⟩ = false ∧ w.frozen? ⟨b, 3, none⟩ = false ∧ w.frozen? ⟨b, 4, none⟩ = false ∧ w.frozen? ⟨b, 5, none⟩ = false ∧ w.frozen? ⟨b, 6, none⟩ = false :=
 ⟨Ez w b 0 _ _ h, Ez w b 1 _ _ h, Ez w b 2 _ _ h, Ez w b 3 _ _ h, Ez w b 4 _ _ h, Ez w b 5 _ _ h, Ez w b 6 _ _ h⟩
theorem rst7 {P : Program} {w : World} {b : Nat} {t : TypeId} {z0 z1 z2 z3 z4 z5 z6 y0 y1 y2 y3 y4 y5 y6 : Value} (h : w.heap[b]? = some (.cells #[z0, z1, z2, z3, z4, z5, z6] t (0, 0))) (h1 : ∀ v ∈ [y0, y1, y2, y3, y4, y5, y6], v.oneCell' = true) : (store ⟨b, 0, none⟩ y0).run P w = .ok () (w.setRow b #[y0, z1, z2, z3, z4, z5, z6]) ∧ (store ⟨b, 1, none⟩ y1).run P (w.setRow b #[y0, z1, z2, z3, z4, z5, z6]) = .ok () (w.setRow b #[y0, y1, z2, z3, z4, z5, z6]) ∧ (store ⟨b, 2, none⟩ y2).run P (w.setRow b #[y0, y1, z2, z3, z4, z5, z6]) = .ok () (w.setRow b #[y0, y1, y2, z3, z4, z5, z6]) ∧ (store ⟨b, 3, none⟩ y3).run P (w.setRow b #[y0, y1, y2, z3, z4, z5, z6]) = .ok () (w.setRow b #[y0, y1, y2, y3, z4, z5, z6]) ∧ (store ⟨b, 4, none⟩ y4).run P (w.setRow b #[y0, y1, y2, y3, z4, z5, z6]) = .ok () (w.setRow b #[y0, y1, y2, y3, y4, z5, z6]) ∧ (store ⟨b, 5, none⟩ y5).run P (w.setRow b #[y0, y1, y2, y3, y4, z5, z6]) = .ok () (w.setRow b #[y0, y1, y2, y3, y4, y5, z6]) ∧ (store ⟨b, 6, none⟩ y6).run P (w.setRow b #[y0, y1, y2, y3, y4, y5, z6]) = .ok () (w.setRow b #[y0, y1, y2, y3, y4, y5, y6]) :=
 ⟨by have := Jx (P := P) (j := 0) h (by simp) (h1 y0 (by simp)); simpa using this,
 by have := Jx (P := P) (j := 1) (setRow_heap w b _ #[y0, z1, z2, z3, z4, z5, z6] t (0, 0) h) (by simp) (h1 y1 (by simp)); rw [setRow_setRow] at this; simpa using this,
 by have := Jx (P := P) (j := 2) (setRow_heap w b _ #[y0, y1, z2, z3, z4, z5, z6] t (0, 0) h) (by simp) (h1 y2 (by simp)); rw [setRow_setRow] at this; simpa using this,
 by have := Jx (P := P) (j := 3) (setRow_heap w b _ #[y0, y1, y2, z3, z4, z5, z6] t (0, 0) h) (by simp) (h1 y3 (by simp)); rw [setRow_setRow] at this; simpa using this,
 by have := Jx (P := P) (j := 4) (setRow_heap w b _ #[y0, y1, y2, y3, z4, z5, z6] t (0, 0) h) (by simp) (h1 y4 (by simp)); rw [setRow_setRow] at this; simpa using this,
 by have := Jx (P := P) (j := 5) (setRow_heap w b _ #[y0, y1, y2, y3, y4, z5, z6] t (0, 0) h) (by simp) (h1 y5 (by simp)); rw [setRow_setRow] at this; simpa using this,
 by have := Jx (P := P) (j := 6) (setRow_heap w b _ #[y0, y1, y2, y3, y4, y5, z6] t (0, 0) h) (by simp) (h1 y6 (by simp)); rw [setRow_setRow] at this; simpa using this⟩
theorem len8 {cs : List Value} (h : cs.length = 8) : ∃ y0 y1 y2 y3 y4 y5 y6 y7 : Value, cs = [y0, y1, y2, y3, y4, y5, y6, y7] := by
 match cs, h with
 | [y0, y1, y2, y3, y4, y5, y6, y7], _ => exact ⟨y0, y1, y2, y3, y4, y5, y6, y7, rfl⟩
theorem Kh {w : World} {b : Nat} {t : TypeId} {f : Nat × Nat} {y0 y1 y2 y3 y4 y5 y6 y7 : Value} (h : w.heap[b]? = some (.cells #[y0, y1, y2, y3, y4, y5, y6, y7] t f)) : w.cell? ⟨b, 0, none⟩ = some y0 ∧ w.cell? ⟨b, 1, none⟩ = some y1 ∧ w.cell? ⟨b, 2, none⟩ = some y2 ∧ w.cell? ⟨b, 3, none⟩ = some y3 ∧ w.cell? ⟨b, 4, none⟩ = some y4 ∧ w.cell? ⟨b, 5, none⟩ = some y5 ∧ w.cell? ⟨b, 6, none⟩ = some y6 ∧ w.cell? ⟨b, 7, none⟩ = some y7 :=
 ⟨Ia w b 0 _ _ _ h, Ia w b 1 _ _ _ h, Ia w b 2 _ _ _ h, Ia w b 3 _ _ _ h, Ia w b 4 _ _ _ h, Ia w b 5 _ _ _ h, Ia w b 6 _ _ _ h, Ia w b 7 _ _ _ h⟩
theorem Ex {w : World} {b : Nat} {t : TypeId} {y0 y1 y2 y3 y4 y5 y6 y7 : Value} (h : w.heap[b]? = some (.cells #[y0, y1, y2, y3, y4, y5, y6, y7] t (0, 0))) : w.frozen? ⟨b, 0, none⟩ = false ∧ w.frozen? ⟨b, 1, none⟩ = false ∧ w.frozen? ⟨b, 2, none⟩ = false ∧ w.frozen? ⟨b, 3, none⟩ = false ∧ w.frozen? ⟨b, 4, none⟩ = false ∧ w.frozen? ⟨b, 5, none⟩ = false ∧ w.frozen? ⟨b, 6, none⟩ = false ∧ w.frozen? ⟨b, 7, none⟩ = false :=
 ⟨Ez w b 0 _ _ h, Ez w b 1 _ _ h, Ez w b 2 _ _ h, Ez w b 3 _ _ h, Ez w b 4 _ _ h, Ez w b 5 _ _ h, Ez w b 6 _ _ h, Ez w b 7 _ _ h⟩
theorem rst8 {P : Program} {w : World} {b : Nat} {t : TypeId} {z0 z1 z2 z3 z4 z5 z6 z7 y0 y1 y2 y3 y4 y5 y6 y7 : Value} (h : w.heap[b]? = some (.cells #[z0, z1, z2, z3, z4, z5, z6, z7] t (0, 0))) (h1 : ∀ v ∈ [y0, y1, y2, y3, y4, y5, y6, y7], v.oneCell' = true) : (store ⟨b, 0, none⟩ y0).run P w = .ok () (w.setRow b #[y0, z1, z2, z3, z4, z5, z6, z7]) ∧ (store ⟨b, 1, none⟩ y1).run P (w.setRow b #[y0, z1, z2, z3, z4, z5, z6, z7]) = .ok () (w.setRow b #[y0, y1, z2, z3, z4, z5, z6, z7]) ∧ (store ⟨b, 2, none⟩ y2).run P (w.setRow b #[y0, y1, z2, z3, z4, z5, z6, z7]) = .ok () (w.setRow b #[y0, y1, y2, z3, z4, z5, z6, z7]) ∧ (store ⟨b, 3, none⟩ y3).run P (w.setRow b #[y0, y1, y2, z3, z4, z5, z6, z7]) = .ok () (w.setRow b #[y0, y1, y2, y3, z4, z5, z6, z7]) ∧ (store ⟨b, 4, none⟩ y4).run P (w.setRow b #[y0, y1, y2, y3, z4, z5, z6, z7]) = .ok () (w.setRow b #[y0, y1, y2, y3, y4, z5, z6, z7]) ∧ (store ⟨b, 5, none⟩ y5).run P (w.setRow b #[y0, y1, y2, y3, y4, z5, z6, z7]) = .ok () (w.setRow b #[y0, y1, y2, y3, y4, y5, z6, z7]) ∧ (store ⟨b, 6, none⟩ y6).run P (w.setRow b #[y0, y1, y2, y3, y4, y5, z6, z7]) = .ok () (w.setRow b #[y0, y1, y2, y3, y4, y5, y6, z7]) ∧ (store ⟨b, 7, none⟩ y7).run P (w.setRow b #[y0, y1, y2, y3, y4, y5, y6, z7]) = .ok () (w.setRow b #[y0, y1, y2, y3, y4, y5, y6, y7]) :=
 ⟨by have := Jx (P := P) (j := 0) h (by simp) (h1 y0 (by simp)); simpa using this,
 by have := Jx (P := P) (j := 1) (setRow_heap w b _ #[y0, z1, z2, z3, z4, z5, z6, z7] t (0, 0) h) (by simp) (h1 y1 (by simp)); rw [setRow_setRow] at this; simpa using this,
 by have := Jx (P := P) (j := 2) (setRow_heap w b _ #[y0, y1, z2, z3, z4, z5, z6, z7] t (0, 0) h) (by simp) (h1 y2 (by simp)); rw [setRow_setRow] at this; simpa using this,
 by have := Jx (P := P) (j := 3) (setRow_heap w b _ #[y0, y1, y2, z3, z4, z5, z6, z7] t (0, 0) h) (by simp) (h1 y3 (by simp)); rw [setRow_setRow] at this; simpa using this,
 by have := Jx (P := P) (j := 4) (setRow_heap w b _ #[y0, y1, y2, y3, z4, z5, z6, z7] t (0, 0) h) (by simp) (h1 y4 (by simp)); rw [setRow_setRow] at this; simpa using this,
 by have := Jx (P := P) (j := 5) (setRow_heap w b _ #[y0, y1, y2, y3, y4, z5, z6, z7] t (0, 0) h) (by simp) (h1 y5 (by simp)); rw [setRow_setRow] at this; simpa using this,
 by have := Jx (P := P) (j := 6) (setRow_heap w b _ #[y0, y1, y2, y3, y4, y5, z6, z7] t (0, 0) h) (by simp) (h1 y6 (by simp)); rw [setRow_setRow] at this; simpa using this,
 by have := Jx (P := P) (j := 7) (setRow_heap w b _ #[y0, y1, y2, y3, y4, y5, y6, z7] t (0, 0) h) (by simp) (h1 y7 (by simp)); rw [setRow_setRow] at this; simpa using this⟩
theorem len10 {cs : List Value} (h : cs.length = 10) : ∃ y0 y1 y2 y3 y4 y5 y6 y7 y8 y9 : Value, cs = [y0, y1, y2, y3, y4, y5, y6, y7, y8, y9] := by
 match cs, h with
 | [y0, y1, y2, y3, y4, y5, y6, y7, y8, y9], _ => exact ⟨y0, y1, y2, y3, y4, y5, y6, y7, y8, y9, rfl⟩
theorem Vr {w : World} {b : Nat} {t : TypeId} {f : Nat × Nat} {y0 y1 y2 y3 y4 y5 y6 y7 y8 y9 : Value} (h : w.heap[b]? = some (.cells #[y0, y1, y2, y3, y4, y5, y6, y7, y8, y9] t f)) : w.cell? ⟨b, 0, none⟩ = some y0 ∧ w.cell? ⟨b, 1, none⟩ = some y1 ∧ w.cell? ⟨b, 2, none⟩ = some y2 ∧ w.cell? ⟨b, 3, none⟩ = some y3 ∧ w.cell? ⟨b, 4, none⟩ = some y4 ∧ w.cell? ⟨b, 5, none⟩ = some y5 ∧ w.cell? ⟨b, 6, none⟩ = some y6 ∧ w.cell? ⟨b, 7, none⟩ = some y7 ∧ w.cell? ⟨b, 8, none⟩ = some y8 ∧ w.cell? ⟨b, 9, none⟩ = some y9 :=
 ⟨Ia w b 0 _ _ _ h, Ia w b 1 _ _ _ h, Ia w b 2 _ _ _ h, Ia w b 3 _ _ _ h, Ia w b 4 _ _ _ h, Ia w b 5 _ _ _ h, Ia w b 6 _ _ _ h, Ia w b 7 _ _ _ h, Ia w b 8 _ _ _ h, Ia w b 9 _ _ _ h⟩
theorem froz10 {w : World} {b : Nat} {t : TypeId} {y0 y1 y2 y3 y4 y5 y6 y7 y8 y9 : Value} (h : w.heap[b]? = some (.cells #[y0, y1, y2, y3, y4, y5, y6, y7, y8, y9] t (0, 0))) : w.frozen? ⟨b, 0, none⟩ = false ∧ w.frozen? ⟨b, 1, none⟩ = false ∧ w.frozen? ⟨b, 2, none⟩ = false ∧ w.frozen? ⟨b, 3, none⟩ = false ∧ w.frozen? ⟨b, 4, none⟩ = false ∧ w.frozen? ⟨b, 5, none⟩ = false ∧ w.frozen? ⟨b, 6, none⟩ = false ∧ w.frozen? ⟨b, 7, none⟩ = false ∧ w.frozen? ⟨b, 8, none⟩ = false ∧ w.frozen? ⟨b, 9, none⟩ = false :=
 ⟨Ez w b 0 _ _ h, Ez w b 1 _ _ h, Ez w b 2 _ _ h, Ez w b 3 _ _ h, Ez w b 4 _ _ h, Ez w b 5 _ _ h, Ez w b 6 _ _ h, Ez w b 7 _ _ h, Ez w b 8 _ _ h, Ez w b 9 _ _ h⟩
theorem rst10 {P : Program} {w : World} {b : Nat} {t : TypeId} {z0 z1 z2 z3 z4 z5 z6 z7 z8 z9 y0 y1 y2 y3 y4 y5 y6 y7 y8 y9 : Value} (h : w.heap[b]? = some (.cells #[z0, z1, z2, z3, z4, z5, z6, z7, z8, z9] t (0, 0))) (h1 : ∀ v ∈ [y0, y1, y2, y3, y4, y5, y6, y7, y8, y9], v.oneCell' = true) : (store ⟨b, 0, none⟩ y0).run P w = .ok () (w.setRow b #[y0, z1, z2, z3, z4, z5, z6, z7, z8, z9]) ∧ (store ⟨b, 1, none⟩ y1).run P (w.setRow b #[y0, z1, z2, z3, z4, z5, z6, z7, z8, z9]) = .ok () (w.setRow b #[y0, y1, z2, z3, z4, z5, z6, z7, z8, z9]) ∧ (store ⟨b, 2, none⟩ y2).run P (w.setRow b #[y0, y1, z2, z3, z4, z5, z6, z7, z8, z9]) = .ok () (w.setRow b #[y0, y1, y2, z3, z4, z5, z6, z7, z8, z9]) ∧ (store ⟨b, 3, none⟩ y3).run P (w.setRow b #[y0, y1, y2, z3, z4, z5, z6, z7, z8, z9]) = .ok () (w.setRow b #[y0, y1, y2, y3, z4, z5, z6, z7, z8, z9]) ∧ (store ⟨b, 4, none⟩ y4).run P (w.setRow b #[y0, y1, y2, y3, z4, z5, z6, z7, z8, z9]) = .ok () (w.setRow b #[y0, y1, y2, y3, y4, z5, z6, z7, z8, z9]) ∧ (store ⟨b, 5, none⟩ y5).run P (w.setRow b #[y0, y1, y2, y3, y4, z5, z6, z7, z8, z9]) = .ok () (w.setRow b #[y0, y1, y2, y3, y4, y5, z6, z7, z8, z9]) ∧ (store ⟨b, 6, none⟩ y6).run P (w.setRow b #[y0, y1, y2, y3, y4, y5, z6, z7, z8, z9]) = .ok () (w.setRow b #[y0, y1, y2, y3, y4, y5, y6, z7, z8, z9]) ∧ (store ⟨b, 7, none⟩ y7).run P (w.setRow b #[y0, y1, y2, y3, y4, y5, y6, z7, z8, z9]) = .ok () (w.setRow b #[y0, y1, y2, y3, y4, y5, y6, y7, z8, z9]) ∧ (store ⟨b, 8, none⟩ y8).run P (w.setRow b #[y0, y1, y2, y3, y4, y5, y6, y7, z8, z9]) = .ok () (w.setRow b #[y0, y1, y2, y3, y4, y5, y6, y7, y8, z9]) ∧ (store ⟨b, 9, none⟩ y9).run P (w.setRow b #[y0, y1, y2, y3, y4, y5, y6, y7, y8, z9]) = .ok () (w.setRow b #[y0, y1, y2, y3, y4, y5, y6, y7, y8, y9]) :=
 ⟨by have := Jx (P := P) (j := 0) h (by simp) (h1 y0 (by simp)); simpa using this,
 by have := Jx (P := P) (j := 1) (setRow_heap w b _ #[y0, z1, z2, z3, z4, z5, z6, z7, z8, z9] t (0, 0) h) (by simp) (h1 y1 (by simp)); rw [setRow_setRow] at this; simpa using this,
 by have := Jx (P := P) (j := 2) (setRow_heap w b _ #[y0, y1, z2, z3, z4, z5, z6, z7, z8, z9] t (0, 0) h) (by simp) (h1 y2 (by simp)); rw [setRow_setRow] at this; simpa using this,
 by have := Jx (P := P) (j := 3) (setRow_heap w b _ #[y0, y1, y2, z3, z4, z5, z6, z7, z8, z9] t (0, 0) h) (by simp) (h1 y3 (by simp)); rw [setRow_setRow] at this; simpa using this,
 by have := Jx (P := P) (j := 4) (setRow_heap w b _ #[y0, y1, y2, y3, z4, z5, z6, z7, z8, z9] t (0, 0) h) (by simp) (h1 y4 (by simp)); rw [setRow_setRow] at this; simpa using this,
 by have := Jx (P := P) (j := 5) (setRow_heap w b _ #[y0, y1, y2, y3, y4, z5, z6, z7, z8, z9] t (0, 0) h) (by simp) (h1 y5 (by simp)); rw [setRow_setRow] at this; simpa using this,
 by have := Jx (P := P) (j := 6) (setRow_heap w b _ #[y0, y1, y2, y3, y4, y5, z6, z7, z8, z9] t (0, 0) h) (by simp) (h1 y6 (by simp)); rw [setRow_setRow] at this; simpa using this,
 by have := Jx (P := P) (j := 7) (setRow_heap w b _ #[y0, y1, y2, y3, y4, y5, y6, z7, z8, z9] t (0, 0) h) (by simp) (h1 y7 (by simp)); rw [setRow_setRow] at this; simpa using this,
 by have := Jx (P := P) (j := 8) (setRow_heap w b _ #[y0, y1, y2, y3, y4, y5, y6, y7, z8, z9] t (0, 0) h) (by simp) (h1 y8 (by simp)); rw [setRow_setRow] at this; simpa using this,
 by have := Jx (P := P) (j := 9) (setRow_heap w b _ #[y0, y1, y2, y3, y4, y5, y6, y7, y8, z9] t (0, 0) h) (by simp) (h1 y9 (by simp)); rw [setRow_setRow] at this; simpa using this⟩
/-- What is left of k behind a datum of the size z. -/
def szR (k : Int) (z : Nat) : Int := if (z : Int) ≤ k then k - (z : Int) else -1
theorem Yc {k : Int} {z : Nat} (h : (z : Int) ≤ k) : szR k z = k - (z : Int) := if_pos h
theorem Vg {k : Int} {z : Nat} (h : ¬ (z : Int) ≤ k) : szR k z = -1 := if_neg h
/-- The cells l from place o on. -/
def Ki (cur : Array Value) (o : Nat) (l : List Value) : Array Value := (cur.toList.take o ++ l ++ cur.toList.drop (o + l.length)).toArray
theorem Va {cur : Array Value} {o : Nat} {l : List Value} (h : o + l.length ≤ cur.size) : (Ki cur o l).size = cur.size := by
 unfold Ki; simp; omega
theorem putL_get {cur : Array Value} {o : Nat} {l : List Value} (h : o + l.length ≤ cur.size) (p : Nat) : (Ki cur o l)[p]? = if o ≤ p ∧ p < o + l.length then l[p - o]? else cur[p]? := by
 unfold Ki
 have h1 : (cur.toList.take o).length = o := by simp; omega
 rw [List.getElem?_toArray]
 by_cases a : p < o
 ·
  rw [if_neg (by omega), List.append_assoc, List.getElem?_append_left (by omega), List.getElem?_take_of_lt a, Array.getElem?_toList]
 ·
  by_cases b : p < o + l.length
  ·
   rw [if_pos (by omega), List.append_assoc, List.getElem?_append_right (by omega), h1, List.getElem?_append_left (by omega)]
  ·
   rw [if_neg (by omega), List.append_assoc, List.getElem?_append_right (by omega), h1, List.getElem?_append_right (by omega), List.getElem?_drop, Array.getElem?_toList]
   congr 1; omega
theorem Vi {cur : Array Value} {o : Nat} {l : List Value} (h : o + l.length < cur.size) (v : Value) : (Ki cur o l).setIfInBounds (o + l.length) v = Ki cur o (l ++ [v]) := by
 apply Array.ext_getElem?
 intro p
 have h1 : o + (l ++ [v]).length ≤ cur.size := by simp; omega
 rw [putL_get h1, Array.getElem?_setIfInBounds, Va (by omega), putL_get (by omega)]
 simp only [List.length_append, List.length_singleton]
 by_cases e : o + l.length = p
 ·
  subst e
  rw [if_pos rfl, if_pos h, if_pos (by omega)]
  simp
 ·
  rw [if_neg e]
  by_cases a : o ≤ p ∧ p < o + l.length
  ·
   rw [if_pos a, if_pos (by omega), List.getElem?_append_left (by omega)]
  ·
   rw [if_neg a, if_neg (by omega)]
theorem Es {cur : Array Value} {o : Nat} (h : o < cur.size) (v : Value) : cur.setIfInBounds o v = Ki cur o [v] := by
 have := Vi (cur := cur) (o := o) (l := []) (by simpa using h) v
 have e : Ki cur o [] = cur := by
  apply Array.ext_getElem?
  intro p
  rw [putL_get (by simp; omega)]
  simp only [List.length_nil, Nat.add_zero]
  rw [if_neg (by omega)]
 rw [e] at this
 simpa using this
section
variable {α : Type}
/-- An element is written whole, with what it owns in new memory. -/
theorem Xq {e : TypeId} {T : Ty α} (A : T.Law) {w : World} {F : Nat → Prop} {g m cap : Nat} {xs : List α} (h : Kp e T w F (.slice (some ⟨g, 0, none⟩) m cap) xs) {j : Nat} (hj : j < xs.length) :
  ∃ cur : Array Value, w.heap[g]? = some (.cells cur e (0, 0)) ∧ j * T.n + T.n ≤ cur.size ∧ ∀ (w2 : World) (cs : List Value) (x : α) (G : Nat → Prop), Below w w w2 → T.O w2 G cs x → (∀ b, G b → F b ∧ w.heap.size ≤ b) → Kp e T (w2.setRow g (Ki cur (j * T.n) cs)) F (.slice (some ⟨g, 0, none⟩) m cap) (xs.set j x) := by
 obtain ⟨hm, hF, hgw, cs0, Fj, L, hrow, hLc, hO, hFj, hput⟩ := Eb A h hj
 have hr := hrow
 rcases hr.2 with ⟨h', _⟩ | ⟨g', cap', cur, hv, hb, hg, hn, hcm, hcs, htake⟩
 ·
  simp at h'
 simp only [Ik, Option.some.injEq, Addr.mk.injEq] at hv
 obtain ⟨⟨rfl, _⟩, _, rfl⟩ := hv
 have hjn : (j + 1) * T.n ≤ xs.length * T.n := Nat.mul_le_mul_right _ hj
 have hcn : xs.length * T.n ≤ cap * T.n := Nat.mul_le_mul_right _ hn
 rw [Nat.add_mul, Nat.one_mul] at hjn
 refine ⟨cur, hg, by omega, fun w2 cs x G c o hG => ?_⟩
 have hcl : cs.length = T.n := A.len (A.reads o)
 have hg2 : w2.heap[g]? = some (.cells cur e (0, 0)) := (c.block g hgw).trans hg
 have hlen : j * T.n + cs.length ≤ cur.size := by omega
 refine hput (w2.setRow g (Ki cur (j * T.n) cs)) ((Ki cur (j * T.n) cs).toList.take (xs.length * T.n)) cs G x ⟨by have hz := Va hlen; rw [List.length_take]; show min _ (Ki cur (j * T.n) cs).size = _; omega, .inr ⟨g, cap, _, rfl, hb, setRow_heap w2 g cur _ e (0, 0) hg2, hn, hcm, by rw [Va hlen]; exact hcs, rfl⟩⟩ (fun p hp => ?_) (fun i hi => ?_) (A.turn o Vk (fun b hb q => by have := hG b hb; omega)) (fun b hb => ⟨(hG b hb).1, Or.inr (hG b hb).2⟩) ((Kb.mono (G := fun _ => False) ⟨c.os, c.tape, c.output, c.size, fun k hk _ => c.block k hk⟩ (fun _ q => False.elim q)).trans (Vk.mono (fun b q => Or.inl q)))
 ·
  rw [← htake]
  by_cases q : p < xs.length * T.n
  ·
   rw [List.getElem?_take_of_lt q, List.getElem?_take_of_lt q, Array.getElem?_toList, Array.getElem?_toList, putL_get hlen, if_neg (by omega)]
  ·
   rw [List.getElem?_eq_none (by rw [List.length_take]; omega), List.getElem?_eq_none (by rw [List.length_take]; omega)]
 ·
  rw [List.getElem?_take_of_lt (by omega), Array.getElem?_toList, putL_get hlen, if_pos (by omega)]
  congr 1; omega
theorem row2 {w : World} {b o : Nat} {y0 y1 : Value} (h : ∀ i, i < 2 → w.cell? ⟨b, o + i, none⟩ = [y0, y1][i]?) : w.cell? ⟨b, o, none⟩ = some y0 ∧ w.cell? ⟨b, o + 1, none⟩ = some y1 :=
 ⟨h 0 (by decide), h 1 (by decide)⟩
theorem fill2 {P : Program} {w : World} {g o : Nat} {e : TypeId} {cur : Array Value} {y0 y1 : Value} (h : w.heap[g]? = some (.cells cur e (0, 0))) (hs : o + 2 ≤ cur.size) (h1 : ∀ v ∈ [y0, y1], v.oneCell' = true) : (store ⟨g, o, none⟩ y0).run P w = .ok () (w.setRow g (Ki cur o [y0])) ∧ (store ⟨g, o + 1, none⟩ y1).run P (w.setRow g (Ki cur o [y0])) = .ok () (w.setRow g (Ki cur o [y0, y1])) :=
 ⟨by have := Jx (P := P) (j := o) h (by omega) (h1 y0 (by simp)); rw [Es (by omega)] at this; exact this,
 by have := Jx (P := P) (j := o + 1) (setRow_heap w g cur (Ki cur o [y0]) e (0, 0) h) (by rw [Va (by simp; omega)]; omega) (h1 y1 (by simp)); have q : (Ki cur o [y0]).setIfInBounds (o + 1) y1 = Ki cur o [y0, y1] := Vi (by simp; omega) y1; rw [setRow_setRow, q] at this; exact this⟩
theorem row3 {w : World} {b o : Nat} {y0 y1 y2 : Value} (h : ∀ i, i < 3 → w.cell? ⟨b, o + i, none⟩ = [y0, y1, y2][i]?) : w.cell? ⟨b, o, none⟩ = some y0 ∧ w.cell? ⟨b, o + 1, none⟩ = some y1 ∧ w.cell? ⟨b, o + 2, none⟩ = some y2 :=
 ⟨h 0 (by decide), h 1 (by decide), h 2 (by decide)⟩
theorem fill3 {P : Program} {w : World} {g o : Nat} {e : TypeId} {cur : Array Value} {y0 y1 y2 : Value} (h : w.heap[g]? = some (.cells cur e (0, 0))) (hs : o + 3 ≤ cur.size) (h1 : ∀ v ∈ [y0, y1, y2], v.oneCell' = true) : (store ⟨g, o, none⟩ y0).run P w = .ok () (w.setRow g (Ki cur o [y0])) ∧ (store ⟨g, o + 1, none⟩ y1).run P (w.setRow g (Ki cur o [y0])) = .ok () (w.setRow g (Ki cur o [y0, y1])) ∧ (store ⟨g, o + 2, none⟩ y2).run P (w.setRow g (Ki cur o [y0, y1])) = .ok () (w.setRow g (Ki cur o [y0, y1, y2])) :=
 ⟨by have := Jx (P := P) (j := o) h (by omega) (h1 y0 (by simp)); rw [Es (by omega)] at this; exact this,
 by have := Jx (P := P) (j := o + 1) (setRow_heap w g cur (Ki cur o [y0]) e (0, 0) h) (by rw [Va (by simp; omega)]; omega) (h1 y1 (by simp)); have q : (Ki cur o [y0]).setIfInBounds (o + 1) y1 = Ki cur o [y0, y1] := Vi (by simp; omega) y1; rw [setRow_setRow, q] at this; exact this,
 by have := Jx (P := P) (j := o + 2) (setRow_heap w g cur (Ki cur o [y0, y1]) e (0, 0) h) (by rw [Va (by simp; omega)]; omega) (h1 y2 (by simp)); have q : (Ki cur o [y0, y1]).setIfInBounds (o + 2) y2 = Ki cur o [y0, y1, y2] := Vi (by simp; omega) y2; rw [setRow_setRow, q] at this; exact this⟩
theorem row4 {w : World} {b o : Nat} {y0 y1 y2 y3 : Value} (h : ∀ i, i < 4 → w.cell? ⟨b, o + i, none⟩ = [y0, y1, y2, y3][i]?) : w.cell? ⟨b, o, none⟩ = some y0 ∧ w.cell? ⟨b, o + 1, none⟩ = some y1 ∧ w.cell? ⟨b, o + 2, none⟩ = some y2 ∧ w.cell? ⟨b, o + 3, none⟩ = some y3 :=
 ⟨h 0 (by decide), h 1 (by decide), h 2 (by decide), h 3 (by decide)⟩
theorem fill4 {P : Program} {w : World} {g o : Nat} {e : TypeId} {cur : Array Value} {y0 y1 y2 y3 : Value} (h : w.heap[g]? = some (.cells cur e (0, 0))) (hs : o + 4 ≤ cur.size) (h1 : ∀ v ∈ [y0, y1, y2, y3], v.oneCell' = true) : (store ⟨g, o, none⟩ y0).run P w = .ok () (w.setRow g (Ki cur o [y0])) ∧ (store ⟨g, o + 1, none⟩ y1).run P (w.setRow g (Ki cur o [y0])) = .ok () (w.setRow g (Ki cur o [y0, y1])) ∧ (store ⟨g, o + 2, none⟩ y2).run P (w.setRow g (Ki cur o [y0, y1])) = .ok () (w.setRow g (Ki cur o [y0, y1, y2])) ∧ (store ⟨g, o + 3, none⟩ y3).run P (w.setRow g (Ki cur o [y0, y1, y2])) = .ok () (w.setRow g (Ki cur o [y0, y1, y2, y3])) :=
 ⟨by have := Jx (P := P) (j := o) h (by omega) (h1 y0 (by simp)); rw [Es (by omega)] at this; exact this,
 by have := Jx (P := P) (j := o + 1) (setRow_heap w g cur (Ki cur o [y0]) e (0, 0) h) (by rw [Va (by simp; omega)]; omega) (h1 y1 (by simp)); have q : (Ki cur o [y0]).setIfInBounds (o + 1) y1 = Ki cur o [y0, y1] := Vi (by simp; omega) y1; rw [setRow_setRow, q] at this; exact this,
 by have := Jx (P := P) (j := o + 2) (setRow_heap w g cur (Ki cur o [y0, y1]) e (0, 0) h) (by rw [Va (by simp; omega)]; omega) (h1 y2 (by simp)); have q : (Ki cur o [y0, y1]).setIfInBounds (o + 2) y2 = Ki cur o [y0, y1, y2] := Vi (by simp; omega) y2; rw [setRow_setRow, q] at this; exact this,
 by have := Jx (P := P) (j := o + 3) (setRow_heap w g cur (Ki cur o [y0, y1, y2]) e (0, 0) h) (by rw [Va (by simp; omega)]; omega) (h1 y3 (by simp)); have q : (Ki cur o [y0, y1, y2]).setIfInBounds (o + 3) y3 = Ki cur o [y0, y1, y2, y3] := Vi (by simp; omega) y3; rw [setRow_setRow, q] at this; exact this⟩
theorem row5 {w : World} {b o : Nat} {y0 y1 y2 y3 y4 : Value} (h : ∀ i, i < 5 → w.cell? ⟨b, o + i, none⟩ = [y0, y1, y2, y3, y4][i]?) : w.cell? ⟨b, o, none⟩ = some y0 ∧ w.cell? ⟨b, o + 1, none⟩ = some y1 ∧ w.cell? ⟨b, o + 2, none⟩ = some y2 ∧ w.cell? ⟨b, o + 3, none⟩ = some y3 ∧ w.cell? ⟨b, o + 4, none⟩ = some y4 :=
 ⟨h 0 (by decide), h 1 (by decide), h 2 (by decide), h 3 (by decide), h 4 (by decide)⟩
theorem fill5 {P : Program} {w : World} {g o : Nat} {e : TypeId} {cur : Array Value} {y0 y1 y2 y3 y4 : Value} (h : w.heap[g]? = some (.cells cur e (0, 0))) (hs : o + 5 ≤ cur.size) (h1 : ∀ v ∈ [y0, y1, y2, y3, y4], v.oneCell' = true) : (store ⟨g, o, none⟩ y0).run P w = .ok () (w.setRow g (Ki cur o [y0])) ∧ (store ⟨g, o + 1, none⟩ y1).run P (w.setRow g (Ki cur o [y0])) = .ok () (w.setRow g (Ki cur o [y0, y1])) ∧ (store ⟨g, o + 2, none⟩ y2).run P (w.setRow g (Ki cur o [y0, y1])) = .ok () (w.setRow g (Ki cur o [y0, y1, y2])) ∧ (store ⟨g, o + 3, none⟩ y3).run P (w.setRow g (Ki cur o [y0, y1, y2])) = .ok () (w.setRow g (Ki cur o [y0, y1, y2, y3])) ∧ (store ⟨g, o + 4, none⟩ y4).run P (w.setRow g (Ki cur o [y0, y1, y2, y3])) = .ok () (w.setRow g (Ki cur o [y0, y1, y2, y3, y4])) :=
 ⟨by have := Jx (P := P) (j := o) h (by omega) (h1 y0 (by simp)); rw [Es (by omega)] at this; exact this,
 by have := Jx (P := P) (j := o + 1) (setRow_heap w g cur (Ki cur o [y0]) e (0, 0) h) (by rw [Va (by simp; omega)]; omega) (h1 y1 (by simp)); have q : (Ki cur o [y0]).setIfInBounds (o + 1) y1 = Ki cur o [y0, y1] := Vi (by simp; omega) y1; rw [setRow_setRow, q] at this; exact this,
 by have := Jx (P := P) (j := o + 2) (setRow_heap w g cur (Ki cur o [y0, y1]) e (0, 0) h) (by rw [Va (by simp; omega)]; omega) (h1 y2 (by simp)); have q : (Ki cur o [y0, y1]).setIfInBounds (o + 2) y2 = Ki cur o [y0, y1, y2] := Vi (by simp; omega) y2; rw [setRow_setRow, q] at this; exact this,
 by have := Jx (P := P) (j := o + 3) (setRow_heap w g cur (Ki cur o [y0, y1, y2]) e (0, 0) h) (by rw [Va (by simp; omega)]; omega) (h1 y3 (by simp)); have q : (Ki cur o [y0, y1, y2]).setIfInBounds (o + 3) y3 = Ki cur o [y0, y1, y2, y3] := Vi (by simp; omega) y3; rw [setRow_setRow, q] at this; exact this,
 by have := Jx (P := P) (j := o + 4) (setRow_heap w g cur (Ki cur o [y0, y1, y2, y3]) e (0, 0) h) (by rw [Va (by simp; omega)]; omega) (h1 y4 (by simp)); have q : (Ki cur o [y0, y1, y2, y3]).setIfInBounds (o + 4) y4 = Ki cur o [y0, y1, y2, y3, y4] := Vi (by simp; omega) y4; rw [setRow_setRow, q] at this; exact this⟩
theorem row7 {w : World} {b o : Nat} {y0 y1 y2 y3 y4 y5 y6 : Value} (h : ∀ i, i < 7 → w.cell? ⟨b, o + i, none⟩ = [y0, y1, y2, y3, y4, y5, y6][i]?) : w.cell? ⟨b, o, none⟩ = some y0 ∧ w.cell? ⟨b, o + 1, none⟩ = some y1 ∧ w.cell? ⟨b, o + 2, none⟩ = some y2 ∧ w.cell? ⟨b, o + 3, none⟩ = some y3 ∧ w.cell? ⟨b, o + 4, none⟩ = some y4 ∧ w.cell? ⟨b, o + 5, none⟩ = some y5 ∧ w.cell? ⟨b, o + 6, none⟩ = some y6 :=
 ⟨h 0 (by decide), h 1 (by decide), h 2 (by decide), h 3 (by decide), h 4 (by decide), h 5 (by decide), h 6 (by decide)⟩
theorem fill7 {P : Program} {w : World} {g o : Nat} {e : TypeId} {cur : Array Value} {y0 y1 y2 y3 y4 y5 y6 : Value} (h : w.heap[g]? = some (.cells cur e (0, 0))) (hs : o + 7 ≤ cur.size) (h1 : ∀ v ∈ [y0, y1, y2, y3, y4, y5, y6], v.oneCell' = true) : (store ⟨g, o, none⟩ y0).run P w = .ok () (w.setRow g (Ki cur o [y0])) ∧ (store ⟨g, o + 1, none⟩ y1).run P (w.setRow g (Ki cur o [y0])) = .ok () (w.setRow g (Ki cur o [y0, y1])) ∧ (store ⟨g, o + 2, none⟩ y2).run P (w.setRow g (Ki cur o [y0, y1])) = .ok () (w.setRow g (Ki cur o [y0, y1, y2])) ∧ (store ⟨g, o + 3, none⟩ y3).run P (w.setRow g (Ki cur o [y0, y1, y2])) = .ok () (w.setRow g (Ki cur o [y0, y1, y2, y3])) ∧ (store ⟨g, o + 4, none⟩ y4).run P (w.setRow g (Ki cur o [y0, y1, y2, y3])) = .ok () (w.setRow g (Ki cur o [y0, y1, y2, y3, y4])) ∧ (store ⟨g, o + 5, none⟩ y5).run P (w.setRow g (Ki cur o [y0, y1, y2, y3, y4])) = .ok () (w.setRow g (Ki cur o [y0, y1, y2, y3, y4, y5])) ∧ (store ⟨g, o + 6, none⟩ y6).run P (w.setRow g (Ki cur o [y0, y1, y2, y3, y4, y5])) = .ok () (w.setRow g (Ki cur o [y0, y1, y2, y3, y4, y5, y6])) :=
 ⟨by have := Jx (P := P) (j := o) h (by omega) (h1 y0 (by simp)); rw [Es (by omega)] at this; exact this,
 by have := Jx (P := P) (j := o + 1) (setRow_heap w g cur (Ki cur o [y0]) e (0, 0) h) (by rw [Va (by simp; omega)]; omega) (h1 y1 (by simp)); have q : (Ki cur o [y0]).setIfInBounds (o + 1) y1 = Ki cur o [y0, y1] := Vi (by simp; omega) y1; rw [setRow_setRow, q] at this; exact this,
 by have := Jx (P := P) (j := o + 2) (setRow_heap w g cur (Ki cur o [y0, y1]) e (0, 0) h) (by rw [Va (by simp; omega)]; omega) (h1 y2 (by simp)); have q : (Ki cur o [y0, y1]).setIfInBounds (o + 2) y2 = Ki cur o [y0, y1, y2] := Vi (by simp; omega) y2; rw [setRow_setRow, q] at this; exact this,
 by have := Jx (P := P) (j := o + 3) (setRow_heap w g cur (Ki cur o [y0, y1, y2]) e (0, 0) h) (by rw [Va (by simp; omega)]; omega) (h1 y3 (by simp)); have q : (Ki cur o [y0, y1, y2]).setIfInBounds (o + 3) y3 = Ki cur o [y0, y1, y2, y3] := Vi (by simp; omega) y3; rw [setRow_setRow, q] at this; exact this,
 by have := Jx (P := P) (j := o + 4) (setRow_heap w g cur (Ki cur o [y0, y1, y2, y3]) e (0, 0) h) (by rw [Va (by simp; omega)]; omega) (h1 y4 (by simp)); have q : (Ki cur o [y0, y1, y2, y3]).setIfInBounds (o + 4) y4 = Ki cur o [y0, y1, y2, y3, y4] := Vi (by simp; omega) y4; rw [setRow_setRow, q] at this; exact this,
 by have := Jx (P := P) (j := o + 5) (setRow_heap w g cur (Ki cur o [y0, y1, y2, y3, y4]) e (0, 0) h) (by rw [Va (by simp; omega)]; omega) (h1 y5 (by simp)); have q : (Ki cur o [y0, y1, y2, y3, y4]).setIfInBounds (o + 5) y5 = Ki cur o [y0, y1, y2, y3, y4, y5] := Vi (by simp; omega) y5; rw [setRow_setRow, q] at this; exact this,
 by have := Jx (P := P) (j := o + 6) (setRow_heap w g cur (Ki cur o [y0, y1, y2, y3, y4, y5]) e (0, 0) h) (by rw [Va (by simp; omega)]; omega) (h1 y6 (by simp)); have q : (Ki cur o [y0, y1, y2, y3, y4, y5]).setIfInBounds (o + 6) y6 = Ki cur o [y0, y1, y2, y3, y4, y5, y6] := Vi (by simp; omega) y6; rw [setRow_setRow, q] at this; exact this⟩
theorem row10 {w : World} {b o : Nat} {y0 y1 y2 y3 y4 y5 y6 y7 y8 y9 : Value} (h : ∀ i, i < 10 → w.cell? ⟨b, o + i, none⟩ = [y0, y1, y2, y3, y4, y5, y6, y7, y8, y9][i]?) : w.cell? ⟨b, o, none⟩ = some y0 ∧ w.cell? ⟨b, o + 1, none⟩ = some y1 ∧ w.cell? ⟨b, o + 2, none⟩ = some y2 ∧ w.cell? ⟨b, o + 3, none⟩ = some y3 ∧ w.cell? ⟨b, o + 4, none⟩ = some y4 ∧ w.cell? ⟨b, o + 5, none⟩ = some y5 ∧ w.cell? ⟨b, o + 6, none⟩ = some y6 ∧ w.cell? ⟨b, o + 7, none⟩ = some y7 ∧ w.cell? ⟨b, o + 8, none⟩ = some y8 ∧ w.cell? ⟨b, o + 9, none⟩ = some y9 :=
 ⟨h 0 (by decide), h 1 (by decide), h 2 (by decide), h 3 (by decide), h 4 (by decide), h 5 (by decide), h 6 (by decide), h 7 (by decide), h 8 (by decide), h 9 (by decide)⟩
theorem fill10 {P : Program} {w : World} {g o : Nat} {e : TypeId} {cur : Array Value} {y0 y1 y2 y3 y4 y5 y6 y7 y8 y9 : Value} (h : w.heap[g]? = some (.cells cur e (0, 0))) (hs : o + 10 ≤ cur.size) (h1 : ∀ v ∈ [y0, y1, y2, y3, y4, y5, y6, y7, y8, y9], v.oneCell' = true) : (store ⟨g, o, none⟩ y0).run P w = .ok () (w.setRow g (Ki cur o [y0])) ∧ (store ⟨g, o + 1, none⟩ y1).run P (w.setRow g (Ki cur o [y0])) = .ok () (w.setRow g (Ki cur o [y0, y1])) ∧ (store ⟨g, o + 2, none⟩ y2).run P (w.setRow g (Ki cur o [y0, y1])) = .ok () (w.setRow g (Ki cur o [y0, y1, y2])) ∧ (store ⟨g, o + 3, none⟩ y3).run P (w.setRow g (Ki cur o [y0, y1, y2])) = .ok () (w.setRow g (Ki cur o [y0, y1, y2, y3])) ∧ (store ⟨g, o + 4, none⟩ y4).run P (w.setRow g (Ki cur o [y0, y1, y2, y3])) = .ok () (w.setRow g (Ki cur o [y0, y1, y2, y3, y4])) ∧ (store ⟨g, o + 5, none⟩ y5).run P (w.setRow g (Ki cur o [y0, y1, y2, y3, y4])) = .ok () (w.setRow g (Ki cur o [y0, y1, y2, y3, y4, y5])) ∧ (store ⟨g, o + 6, none⟩ y6).run P (w.setRow g (Ki cur o [y0, y1, y2, y3, y4, y5])) = .ok () (w.setRow g (Ki cur o [y0, y1, y2, y3, y4, y5, y6])) ∧ (store ⟨g, o + 7, none⟩ y7).run P (w.setRow g (Ki cur o [y0, y1, y2, y3, y4, y5, y6])) = .ok () (w.setRow g (Ki cur o [y0, y1, y2, y3, y4, y5, y6, y7])) ∧ (store ⟨g, o + 8, none⟩ y8).run P (w.setRow g (Ki cur o [y0, y1, y2, y3, y4, y5, y6, y7])) = .ok () (w.setRow g (Ki cur o [y0, y1, y2, y3, y4, y5, y6, y7, y8])) ∧ (store ⟨g, o + 9, none⟩ y9).run P (w.setRow g (Ki cur o [y0, y1, y2, y3, y4, y5, y6, y7, y8])) = .ok () (w.setRow g (Ki cur o [y0, y1, y2, y3, y4, y5, y6, y7, y8, y9])) :=
 ⟨by have := Jx (P := P) (j := o) h (by omega) (h1 y0 (by simp)); rw [Es (by omega)] at this; exact this,
 by have := Jx (P := P) (j := o + 1) (setRow_heap w g cur (Ki cur o [y0]) e (0, 0) h) (by rw [Va (by simp; omega)]; omega) (h1 y1 (by simp)); have q : (Ki cur o [y0]).setIfInBounds (o + 1) y1 = Ki cur o [y0, y1] := Vi (by simp; omega) y1; rw [setRow_setRow, q] at this; exact this,
 by have := Jx (P := P) (j := o + 2) (setRow_heap w g cur (Ki cur o [y0, y1]) e (0, 0) h) (by rw [Va (by simp; omega)]; omega) (h1 y2 (by simp)); have q : (Ki cur o [y0, y1]).setIfInBounds (o + 2) y2 = Ki cur o [y0, y1, y2] := Vi (by simp; omega) y2; rw [setRow_setRow, q] at this; exact this,
 by have := Jx (P := P) (j := o + 3) (setRow_heap w g cur (Ki cur o [y0, y1, y2]) e (0, 0) h) (by rw [Va (by simp; omega)]; omega) (h1 y3 (by simp)); have q : (Ki cur o [y0, y1, y2]).setIfInBounds (o + 3) y3 = Ki cur o [y0, y1, y2, y3] := Vi (by simp; omega) y3; rw [setRow_setRow, q] at this; exact this,
 by have := Jx (P := P) (j := o + 4) (setRow_heap w g cur (Ki cur o [y0, y1, y2, y3]) e (0, 0) h) (by rw [Va (by simp; omega)]; omega) (h1 y4 (by simp)); have q : (Ki cur o [y0, y1, y2, y3]).setIfInBounds (o + 4) y4 = Ki cur o [y0, y1, y2, y3, y4] := Vi (by simp; omega) y4; rw [setRow_setRow, q] at this; exact this,
 by have := Jx (P := P) (j := o + 5) (setRow_heap w g cur (Ki cur o [y0, y1, y2, y3, y4]) e (0, 0) h) (by rw [Va (by simp; omega)]; omega) (h1 y5 (by simp)); have q : (Ki cur o [y0, y1, y2, y3, y4]).setIfInBounds (o + 5) y5 = Ki cur o [y0, y1, y2, y3, y4, y5] := Vi (by simp; omega) y5; rw [setRow_setRow, q] at this; exact this,
 by have := Jx (P := P) (j := o + 6) (setRow_heap w g cur (Ki cur o [y0, y1, y2, y3, y4, y5]) e (0, 0) h) (by rw [Va (by simp; omega)]; omega) (h1 y6 (by simp)); have q : (Ki cur o [y0, y1, y2, y3, y4, y5]).setIfInBounds (o + 6) y6 = Ki cur o [y0, y1, y2, y3, y4, y5, y6] := Vi (by simp; omega) y6; rw [setRow_setRow, q] at this; exact this,
 by have := Jx (P := P) (j := o + 7) (setRow_heap w g cur (Ki cur o [y0, y1, y2, y3, y4, y5, y6]) e (0, 0) h) (by rw [Va (by simp; omega)]; omega) (h1 y7 (by simp)); have q : (Ki cur o [y0, y1, y2, y3, y4, y5, y6]).setIfInBounds (o + 7) y7 = Ki cur o [y0, y1, y2, y3, y4, y5, y6, y7] := Vi (by simp; omega) y7; rw [setRow_setRow, q] at this; exact this,
 by have := Jx (P := P) (j := o + 8) (setRow_heap w g cur (Ki cur o [y0, y1, y2, y3, y4, y5, y6, y7]) e (0, 0) h) (by rw [Va (by simp; omega)]; omega) (h1 y8 (by simp)); have q : (Ki cur o [y0, y1, y2, y3, y4, y5, y6, y7]).setIfInBounds (o + 8) y8 = Ki cur o [y0, y1, y2, y3, y4, y5, y6, y7, y8] := Vi (by simp; omega) y8; rw [setRow_setRow, q] at this; exact this,
 by have := Jx (P := P) (j := o + 9) (setRow_heap w g cur (Ki cur o [y0, y1, y2, y3, y4, y5, y6, y7, y8]) e (0, 0) h) (by rw [Va (by simp; omega)]; omega) (h1 y9 (by simp)); have q : (Ki cur o [y0, y1, y2, y3, y4, y5, y6, y7, y8]).setIfInBounds (o + 9) y9 = Ki cur o [y0, y1, y2, y3, y4, y5, y6, y7, y8, y9] := Vi (by simp; omega) y9; rw [setRow_setRow, q] at this; exact this⟩
end
section
variable {w0 w : World} {l : List Xf} {α β : Type} {A : Ty α} {B : Ty β} {LA : A.Law} {LB : B.Law}
theorem St.turnHead {i i' : Xf} (h : St w0 (i :: l) w) (hF : ∀ b, i'.F b → i.F b) (hp : i.φ w → i'.φ w) : St w0 (i' :: l) w :=
 h.set 0 rfl i' hF (Kb.refl _ _) (hp (h.get 0 rfl))
/-- A number ahead. -/
theorem St.intp {F : Nat → Prop} {c : List Value} {x : β} (h : St w0 (iT LB F c x :: l) w) (a : Int) : St w0 (iT (Km Jc LB) F (.int .i64 a :: c) (a, x) :: l) w :=
 h.turnHead (i' := iT (Km Jc LB) F (.int .i64 a :: c) (a, x)) (fun _ q => q) (fun q => ⟨[.int .i64 a], c, fun _ => False, F, rfl, rfl, q, fun _ k => k.elim, fun _ k => k, fun _ k => k.elim⟩)
/-- Plain data behind. -/
theorem St.pval {F : Nat → Prop} {c d : List Value} {x : α} {y : β} (h : St w0 (iT LA F c x :: l) w) (LB : B.Law) (o : B.O w (fun _ => False) d y) : St w0 (iT (Km LA LB) F (c ++ d) (x, y) :: l) w :=
 h.turnHead (i' := iT (Km LA LB) F (c ++ d) (x, y)) (fun _ q => q) (fun q => ⟨c, d, F, fun _ => False, rfl, q, o, fun _ k => k, fun _ k => k.elim, fun _ _ k => k⟩)
/-- Two that lie apart make a pair. -/
theorem St.cat {F1 F2 : Nat → Prop} {c1 c2 : List Value} {x : α} {y : β} (h : St w0 (iT LB F2 c2 y :: iT LA F1 c1 x :: l) w) : ∃ F, St w0 (iT (Km LA LB) F (c1 ++ c2) (x, y) :: l) w := by
 have h1 := h.gT 0 rfl
 have h2 := h.gT 1 rfl
 have hd := h.s.apart 1 rfl 0 rfl (by decide)
 refine ⟨fun b => F1 b ∨ F2 b, h.d, ⟨⟨c1, c2, F1, F2, rfl, h2, h1, fun _ k => Or.inl k, fun _ k => Or.inr k, hd⟩, fun b hb => ⟨?_, fun j hj => ?_⟩, h.s.2.2.2.2⟩, fun j hj b hb => ?_⟩
 ·
  rcases hb with q | q
  ·
   exact h.s.lt (iT LA F1 c1 x) (by simp) b q
  ·
   exact h.s.lt (iT LB F2 c2 y) (by simp) b q
 ·
  rcases hb with q | q
  ·
   exact (h.s.2.2.2.1 b q).2 j hj
  ·
   exact (h.s.2.1 b q).2 j (by simp [hj])
 ·
  rcases List.mem_cons.1 hj with rfl | hm
  ·
   rcases hb with q | q
   ·
    exact h.lo (iT LA F1 c1 x) (by simp) b q
   ·
    exact h.lo (iT LB F2 c2 y) (by simp) b q
  ·
   exact h.lo j (by simp [hm]) b hb
theorem St.outC {α : Type} {T : Ty α} {L : T.Law} {F : Nat → Prop} {c : List Value} {x : α} (h : St w0 (iT L F c x :: l) w) : T.O w (Kw w0) c x := L.mono (h.gT 0 rfl) (fun b hb => h.lo (iT L F c x) (by simp) b hb)
theorem St.pushTE {e : TypeId} {T : Ty α} {w' : World} (L : T.Law) (L2 : (tSl e T).Law) (h : St w0 l w) (c : Below w w w') {G : Nat → Prop} {v : Value} {xs : List α} (o : Kp e T w' G v xs) (hG : ∀ b, G b → w.heap.size ≤ b) : ∃ F, St w0 (iT L2 F [v] xs :: l) w' := h.pushE L2 c ⟨v, rfl, o⟩ hG
end
theorem Jv {W : World} {b : Nat} {c : Array Value} {t : TypeId} (h : W.heap[b]? = some (.cells c t (0, 0))) (j : Nat) (v : Value) : W.setCell ⟨b, j, none⟩ v = W.setRow b (c.setIfInBounds j v) := setCell_eq_setRow W b j c t (0, 0) v h
theorem cell_ex {W : World} {b k : Nat} {c : Array Value} {t : TypeId} {f : Nat × Nat} (h : W.heap[b]? = some (.cells c t f)) (hk : k < c.size) : ∃ u, W.cell? ⟨b, k, none⟩ = some u := ⟨c[k], by simp [World.cell?, h, hk]⟩
theorem Kk {a b : List Value} (h : ∀ v ∈ a, v.oneCell' = true) (k : ∀ v ∈ b, v.oneCell' = true) : ∀ v ∈ a ++ b, v.oneCell' = true := fun v hv => (List.mem_append.1 hv).elim (h v) (k v)
theorem o_int {w : World} (a : Int) : Je.O w (fun _ => False) [.int .i64 a] a := rfl
theorem o_pair {α β : Type} {A : Ty α} {B : Ty β} {w : World} {c d : List Value} {x : α} {y : β} (h : A.O w (fun _ => False) c x) (k : B.O w (fun _ => False) d y) : (Yl A B).O w (fun _ => False) (c ++ d) (x, y) :=
 ⟨c, d, _, _, rfl, h, k, fun _ q => q, fun _ q => q, fun _ _ q => q⟩
end Go.Proofs.YtnepfacnmaoieaaGreatDoor
