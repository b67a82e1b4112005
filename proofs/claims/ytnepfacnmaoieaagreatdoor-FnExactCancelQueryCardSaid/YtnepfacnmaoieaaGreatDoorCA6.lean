/-
 Texts of the proof, merged: RowAre, RowLess, RowCopy, RowIns, VerMath, UpdMath, QuerySpec, QuerySl, AdmitSpec, QueryOwn, QueryAre, StabMath, FindSpec, IndexMath, EngMath, CanM, EngBr, BrQuery, VerSpec1, VerBr, VerSpec2, VerSpec4, Uni, VerSpec3, RowInsM, RowSort, VerSpec5, NewMath, VerSpec6, VerSpec7, UpdSpec2, UpdSpec3.
-/
import Derived.Test.YtnepfacnmaoieaaGreatDoorCA1
import Derived.Test.YtnepfacnmaoieaaGreatDoorCA2
import Derived.Test.YtnepfacnmaoieaaGreatDoorCA3
import Derived.Test.YtnepfacnmaoieaaGreatDoorCA4
import Derived.Test.YtnepfacnmaoieaaGreatDoorCA5
import Derived.Maps.AppendAt
namespace Go.Proofs.YtnepfacnmaoieaaGreatDoor
open Go.RowKit
open Go renaming frozen_of_row → Ez, cell_of_row → Ia, heap_alloc_new → Ic
open Go.World renaming size_alloc → Ie
open Nat renaming le_refl → Ii, zero_le → Ij
open Go.Value.slice renaming injEq → Ik
open Go.RowKit.Below renaming refl → Il
open ZD0
set_option maxRecDepth 100000
set_option linter.unusedVariables false
set_option linter.unusedSimpArgs false
/-- Are they rows? -/
def areB (rs : List Ej) : Bool := (List.range rs.length).all (fun i => Ui (rs.getD i (0, [])) && (decide (i = 0) || decide ((rs.getD (i - 1) (0, [])).1 < (rs.getD i (0, [])).1))) && decide (rs.length ≤ 32)
/-- A version: its number, values, birth and death. -/
abbrev Kj := Int × List Int × Int × Int
def Uq : Kj := (0, [], 0, 0)
def Uz (born died t : Int) : Prop := born ≤ t ∧ (died = -1 ∨ t < died)
instance (a b c : Int) : Decidable (Uz a b c) := by unfold Uz; infer_instance
def visB (v : Kj) (t : Int) : Bool := decide (Uz v.2.2.1 v.2.2.2 t)
def Uj (born died now : Int) : Prop := 0 ≤ born ∧ born ≤ now ∧ (died = -1 ∨ born < died ∧ died ≤ now)
instance (a b c : Int) : Decidable (Uj a b c) := by unfold Uj; infer_instance
def verB (v : Kj) (now : Int) : Bool := Ui (v.1, v.2.1) && decide (Uj v.2.2.1 v.2.2.2 now)
def Ug (i1 b1 d1 i2 b2 d2 : Int) : Prop := i1 ≠ i2 ∨ (d1 ≠ -1 ∧ d1 ≤ b2) ∨ (d2 ≠ -1 ∧ d2 ≤ b1)
instance (a b c d e f : Int) : Decidable (Ug a b c d e f) := by unfold Ug; infer_instance
def apartB (a b : Kj) : Bool := decide (Ug a.1 a.2.2.1 a.2.2.2 b.1 b.2.2.1 b.2.2.2)
/-- Two valid versions are apart iff they are not seen together when the later one is born. -/
def seenP (i1 b1 d1 i2 b2 d2 : Int) : Prop := i1 = i2 ∧ Uz b1 d1 (max b1 b2) ∧ Uz b2 d2 (max b1 b2)
instance (a b c d e f : Int) : Decidable (seenP a b c d e f) := by unfold seenP; infer_instance
def seenB (a b : Kj) : Bool := decide (seenP a.1 a.2.2.1 a.2.2.2 b.1 b.2.2.1 b.2.2.2)
theorem seen_apart {i1 b1 d1 i2 b2 d2 now : Int} (h1 : Uj b1 d1 now) (h2 : Uj b2 d2 now) : seenP i1 b1 d1 i2 b2 d2 ↔ ¬ Ug i1 b1 d1 i2 b2 d2 := by
 unfold seenP Ug Uz
 unfold Uj at h1 h2
 omega
theorem ver_life {v : Kj} {now : Int} (h : verB v now = true) : Uj v.2.2.1 v.2.2.2 now := by
 unfold verB at h
 rw [Bool.and_eq_true] at h
 exact of_decide_eq_true h.2
theorem seenB_apart {a b : Kj} {now : Int} (h1 : verB a now = true) (h2 : verB b now = true) : seenB a b = !apartB a b := by
 unfold seenB apartB
 by_cases h : Ug a.1 a.2.2.1 a.2.2.2 b.1 b.2.2.1 b.2.2.2
 ·
  rw [decide_eq_true h, decide_eq_false (fun g => (seen_apart (ver_life h1) (ver_life h2)).1 g h)]; rfl
 ·
  rw [decide_eq_false h, decide_eq_true ((seen_apart (ver_life h1) (ver_life h2)).2 h)]; rfl
/-- The first n versions are valid and apart. -/
def VersP (l : List Kj) (now : Int) (n : Nat) : Prop := ∀ i, i < n → verB (l.getD i Uq) now = true ∧ ∀ k, k < i → apartB (l.getD i Uq) (l.getD k Uq) = true
instance (l : List Kj) (now : Int) (n : Nat) : Decidable (VersP l now n) := by unfold VersP; infer_instance
def ShortP (ss : List (List Kj)) (n : Nat) : Prop := ∀ i, i < n → (ss.getD i []).length ≤ 4
instance (ss : List (List Kj)) (n : Nat) : Decidable (ShortP ss n) := by unfold ShortP; infer_instance
def storeP (ss : List (List Kj)) (now : Int) : Prop := ((1 ≤ ss.length ∧ ss.length ≤ 8) ∧ (0 ≤ now ∧ now ≤ 100000)) ∧ ShortP ss ss.length ∧ VersP ss.flatten now ss.flatten.length
instance (ss : List (List Kj)) (now : Int) : Decidable (storeP ss now) := by unfold storeP; infer_instance
def Yb (ss : List (List Kj)) (now : Int) : Bool := decide (storeP ss now)
theorem vers_step {l : List Kj} {now : Int} {n : Nat} (h : VersP l now n) (h1 : verB (l.getD n Uq) now = true) (h2 : ∀ k, k < n → apartB (l.getD n Uq) (l.getD k Uq) = true) : VersP l now (n + 1) := fun i hi => by
 by_cases e : i = n
 ·
  subst e; exact ⟨h1, h2⟩
 ·
  exact h i (by omega)
theorem store_no_count {ss : List (List Kj)} {now : Int} (h : ¬ (1 ≤ ss.length ∧ ss.length ≤ 8)) : Yb ss now = false := decide_eq_false (fun g => h g.1.1)
theorem store_no_now {ss : List (List Kj)} {now : Int} (h : ¬ (0 ≤ now ∧ now ≤ 100000)) : Yb ss now = false := decide_eq_false (fun g => h g.1.2)
theorem store_no_short {ss : List (List Kj)} {now : Int} {i : Nat} (hi : i < ss.length) (h : ¬ (ss.getD i []).length ≤ 4) : Yb ss now = false := decide_eq_false (fun g => h (g.2.1 i hi))
theorem store_no_ver {ss : List (List Kj)} {now : Int} {i : Nat} (hi : i < ss.flatten.length) (h : verB (ss.flatten.getD i Uq) now = false) : Yb ss now = false := decide_eq_false (fun g => by
 have := (g.2.2 i hi).1; rw [h] at this; cases this)
theorem store_no_apart {ss : List (List Kj)} {now : Int} {i k : Nat} (hi : i < ss.flatten.length) (hk : k < i) (h : apartB (ss.flatten.getD i Uq) (ss.flatten.getD k Uq) = false) : Yb ss now = false := decide_eq_false (fun g => by
 have := (g.2.2 i hi).2 k hk; rw [h] at this; cases this)
theorem store_yes {ss : List (List Kj)} {now : Int} (h1 : 1 ≤ ss.length ∧ ss.length ≤ 8) (h2 : 0 ≤ now ∧ now ≤ 100000) (h3 : ShortP ss ss.length) (h4 : VersP ss.flatten now ss.flatten.length) : Yb ss now = true := decide_eq_true ⟨⟨h1, h2⟩, h3, h4⟩
theorem store_iff {ss : List (List Kj)} {now : Int} (h : Yb ss now = true) : storeP ss now := of_decide_eq_true h
/-- The segments as far as k, one behind the other. -/
def cat (ss : List (List Kj)) (k : Nat) : List Kj := (ss.take k).flatten
theorem cat_zero (ss : List (List Kj)) : cat ss 0 = [] := by simp [cat]
theorem cat_all (ss : List (List Kj)) : cat ss ss.length = ss.flatten := by simp [cat]
theorem cat_step {ss : List (List Kj)} {k : Nat} (h : k < ss.length) : cat ss k ++ ss.getD k [] = cat ss (k + 1) := by
 unfold cat
 have e : ss.getD k [] = ss[k] := by simp [List.getD, h]
 rw [e, List.take_succ_eq_append_getElem h, List.flatten_append]
 simp
theorem cat_len {ss : List (List Kj)} {k : Nat} (h : k < ss.length) : (cat ss (k + 1)).length = (cat ss k).length + (ss.getD k []).length := by rw [← cat_step h, List.length_append]
theorem cat_le (ss : List (List Kj)) (k : Nat) : (cat ss k).length ≤ ss.flatten.length := by
 unfold cat
 have e : ss.flatten = (ss.take k).flatten ++ (ss.drop k).flatten := by rw [← List.flatten_append, List.take_append_drop]
 rw [e, List.length_append]; omega
theorem cat_at {ss : List (List Kj)} {k i : Nat} (h : i < (cat ss k).length) : ss.flatten.getD i Uq = (cat ss k).getD i Uq := by
 unfold cat at h ⊢
 have e : ss.flatten = (ss.take k).flatten ++ (ss.drop k).flatten := by rw [← List.flatten_append, List.take_append_drop]
 rw [e]
 simp only [List.getD, List.getElem?_append_left h]
theorem cat_in {ss : List (List Kj)} {k j : Nat} (h : k < ss.length) (hj : j < (ss.getD k []).length) : ss.flatten.getD ((cat ss k).length + j) Uq = (ss.getD k []).getD j Uq := by
 have hl := cat_len h
 rw [cat_at (k := k + 1) (by omega), ← cat_step h]
 simp only [List.getD]
 rw [List.getElem?_append_right (by omega), Nat.add_sub_cancel_left]
theorem take_getD {l : List Kj} {k : Nat} (h : k < l.length) : l.take (k + 1) = l.take k ++ [l.getD k Uq] := by
 have e : l.getD k Uq = l[k] := by simp [List.getD, h]
 rw [e, List.take_succ_eq_append_getElem h]
/-- An update: its kind, row, field and value. -/
abbrev UpdD := Int × (Int × List Int) × Int × Int
def insP (u : UpdD) : Prop := u.1 = 1 ∧ Ui u.2.1 = true ∧ u.2.2.1 = 0 ∧ u.2.2.2 = 0
def delP (u : UpdD) : Prop := u.1 = 2 ∧ (0 ≤ u.2.1.1 ∧ u.2.1.1 ≤ 999) ∧ u.2.1.2.length = 0 ∧ u.2.2.1 = 0 ∧ u.2.2.2 = 0
def setP (u : UpdD) : Prop := u.1 = 3 ∧ (0 ≤ u.2.1.1 ∧ u.2.1.1 ≤ 999) ∧ u.2.1.2.length = 0 ∧ (0 ≤ u.2.2.1 ∧ u.2.2.1 ≤ 2) ∧ (0 ≤ u.2.2.2 ∧ u.2.2.2 ≤ 99)
instance (u : UpdD) : Decidable (insP u) := by unfold insP; infer_instance
instance (u : UpdD) : Decidable (delP u) := by unfold delP; infer_instance
instance (u : UpdD) : Decidable (setP u) := by unfold setP; infer_instance
def updB (u : UpdD) : Bool := decide (insP u) || (decide (delP u) || decide (setP u))
/- Where the living version of a row lies, and where there is room. -/
def aliveB (id : Int) (v : Kj) : Bool := decide (v.1 = id ∧ v.2.2.2 = -1)
def hasB (id : Int) (l : List Kj) : Bool := l.any (aliveB id)
def segI (ss : List (List Kj)) (id : Int) : Nat := ss.findIdx (hasB id)
def freeB (l : List Kj) : Bool := decide (l.length < 4)
def roomI (ss : List (List Kj)) : Nat := ss.findIdx freeB
/- What an update makes. -/
def okP (ss : List (List Kj)) (now : Int) (u : UpdD) : Prop := Yb ss now = true ∧ updB u = true ∧ now < 100000 ∧ (u.1 = 1 ↔ ¬ segI ss u.2.1.1 < ss.length) ∧ (u.1 ≠ 2 → roomI ss < ss.length)
instance (ss : List (List Kj)) (now : Int) (u : UpdD) : Decidable (okP ss now u) := by unfold okP; infer_instance
abbrev Yx := List (List Kj) × Int
/- A store stays valid. -/
/- Reclaiming. -/
def needB (keep : List Int) (v : Kj) : Bool := decide (v.2.2.2 = -1) || keep.any (fun t => visB v t)
def Xa (keep : List Int) (l : List Kj) : List Kj := l.filter (needB keep)
def Vn (keep : List Int) (ss : List (List Kj)) : List (List Kj) := ss.map (Xa keep)
def Xj (s : Yx) (keep : List Int) : Yx × Int := if Yb s.1 s.2 then ((Vn keep s.1, s.2), (s.1.flatten.length : Int) - ((Vn keep s.1).flatten.length : Int)) else (s, 0)
theorem reclaim_no {s : Yx} {keep : List Int} (h : Yb s.1 s.2 = false) : Xj s keep = (s, 0) := by unfold Xj; rw [h]; rfl
theorem reclaim_yes {s : Yx} {keep : List Int} (h : Yb s.1 s.2 = true) : Xj s keep = ((Vn keep s.1, s.2), (s.1.flatten.length : Int) - ((Vn keep s.1).flatten.length : Int)) := by unfold Xj; rw [h]; rfl
theorem need_len (keep : List Int) (l : List Kj) : (Xa keep l).length ≤ l.length := List.length_filter_le _ _
theorem need_yes {keep : List Int} {l : List Kj} {k : Nat} (h : k < l.length) (g : needB keep (l.getD k Uq) = true) : Xa keep (l.take (k + 1)) = Xa keep (l.take k) ++ [l.getD k Uq] := by
 rw [take_getD h]
 unfold Xa
 rw [List.filter_append]
 generalize l.getD k Uq = v at *
 simp [g]
theorem need_no {keep : List Int} {l : List Kj} {k : Nat} (h : k < l.length) (g : needB keep (l.getD k Uq) = false) : Xa keep (l.take (k + 1)) = Xa keep (l.take k) := by
 rw [take_getD h]
 unfold Xa
 rw [List.filter_append]
 generalize l.getD k Uq = v at *
 simp [g]
abbrev c0D : Ul := (0, 0, 0)
/-- As far as k the conditions are conditions, in ascending order of their fields. -/
def CondsTo (cs : List Ul) (k : Nat) : Prop := ∀ i, i < k → Uy (cs.getD i c0D) = true ∧ (0 < i → (cs.getD (i - 1) c0D).1 < (cs.getD i c0D).1)
def condsB (cs : List Ul) : Bool := (List.range cs.length).all (fun i => Uy (cs.getD i c0D) && (decide (i = 0) || decide ((cs.getD (i - 1) c0D).1 < (cs.getD i c0D).1)))
def Yw (os : List Int) : Bool := os.all (fun x => decide (0 ≤ x ∧ x ≤ 2)) && decide (1 ≤ os.length ∧ os.length ≤ 3)
def Xc (id tn : Int) (cs : List Ul) (os : List Int) : Bool := condsB cs && (decide (0 ≤ id ∧ id ≤ 23) && (decide (0 ≤ tn ∧ tn ≤ 3) && (decide (cs.length ≤ 3) && Yw os)))
theorem condsB_all {cs : List Ul} (h : CondsTo cs cs.length) : condsB cs = true := by
 unfold condsB
 rw [List.all_eq_true]
 intro i hi
 rw [List.mem_range] at hi
 obtain ⟨h1, h2⟩ := h i hi
 rw [h1]
 by_cases e : i = 0
 ·
  simp [e]
 ·
  rw [decide_eq_true (h2 (by omega))]; simp
theorem condsB_bad {cs : List Ul} {k : Nat} (hk : k < cs.length) (h : Uy (cs.getD k c0D) = false ∨ (0 < k ∧ ¬ (cs.getD (k - 1) c0D).1 < (cs.getD k c0D).1)) : condsB cs = false := by
 unfold condsB
 rw [Bool.eq_false_iff]
 intro g
 rw [List.all_eq_true] at g
 have := g k (List.mem_range.2 hk)
 rw [Bool.and_eq_true, Bool.or_eq_true, decide_eq_true_eq, decide_eq_true_eq] at this
 rcases h with h | ⟨h1, h2⟩
 ·
  rw [h] at this; exact Bool.noConfusion this.1
 ·
  rcases this.2 with e | e
  ·
   omega
  ·
   exact h2 e
theorem condsTo_step {cs : List Ul} {k : Nat} (h : CondsTo cs k) (h1 : Uy (cs.getD k c0D) = true) (h2 : 0 < k → (cs.getD (k - 1) c0D).1 < (cs.getD k c0D).1) : CondsTo cs (k + 1) := fun i hi => by
 by_cases e : i = k
 ·
  subst e; exact ⟨h1, h2⟩
 ·
  exact h i (by omega)
theorem fieldsB_bad {os : List Int} {k : Nat} (hk : k < os.length) (h : ¬ (0 ≤ os.getD k 0 ∧ os.getD k 0 ≤ 2)) : Yw os = false := by
 have e : os.getD k 0 = os[k] := by simp [List.getD, hk]
 rw [e] at h
 have : (os.all fun x => decide (0 ≤ x ∧ x ≤ 2)) = false := by
  rw [Bool.eq_false_iff]
  intro g
  rw [List.all_eq_true] at g
  exact h (of_decide_eq_true (g _ (List.getElem_mem hk)))
 unfold Yw
 rw [this]; rfl
theorem fieldsB_all {os : List Int} (h : ∀ k, k < os.length → 0 ≤ os.getD k 0 ∧ os.getD k 0 ≤ 2) : Yw os = decide (1 ≤ os.length ∧ os.length ≤ 3) := by
 have : (os.all fun x => decide (0 ≤ x ∧ x ≤ 2)) = true := by
  rw [List.all_eq_true]
  intro x hx
  obtain ⟨k, hk, rfl⟩ := List.getElem_of_mem hx
  have := h k hk
  have e : os.getD k 0 = os[k] := by simp [List.getD, hk]
  rw [e] at this
  exact decide_eq_true this
 unfold Yw
 rw [this]; rfl
set_option maxHeartbeats 4000000 in
theorem specFields (v : Value) (os : List Int) (w : World) (h : Uc w v os) (hn : os.length ≤ 1048576) :
  Calls Tryz.prog 156 #[v] w fun e w' => e = .returned (.bool (Yw os)) ∧ w' = w := by
 have H := Lib.hid h
 obtain ⟨a, cap, rfl⟩ := Yg h
 clear h
 go_enter Tryz.func156, Tryz.ntmps156
 go_wp2
 go_loopw [3] (fun i wr => ∃ k : Nat, k ≤ os.length ∧ i = .int .i64 k ∧ Hid (∀ j, j < k → 0 ≤ os.getD j 0 ∧ os.getD j 0 ≤ 2) ∧ wr = w) (fun i _ => os.length - (intOf i).toNat)
 case atStart => exact ⟨0, Ij _, rfl, Lib.hid (fun j hj => by omega), rfl⟩
 case round =>
  obtain ⟨k, hk, rfl, hall, rfl⟩ := hrel
  by_cases hlt : k < os.length
  ·
   obtain ⟨b, off, cap', hv, hbl, hc⟩ := Vq H.out (by omega)
   simp only [Ik] at hv
   obtain ⟨rfl, _, rfl⟩ := hv
   have hcell := hc k hlt
   have i1 : (0 : Int) ≤ (k : Int) := by omega
   have i2 : (k : Int) < (os.length : Int) := by omega
   clear hc
   by_cases hi : 0 ≤ os.getD k 0 ∧ os.getD k 0 ≤ 2
   ·
    have HA : Hid (∀ j, j < k + 1 → 0 ≤ os.getD j 0 ∧ os.getD j 0 ≤ 2) := Lib.hid (fun j hj => by
     by_cases e : j = k
     ·
      subst e; exact hi
     ·
      exact hall.out j (by omega))
    have HI := Lib.hid (fun w => Xe (os.getD k 0) 0 2 w hi.1 hi.2)
    clear hi hall
    generalize os.getD k 0 = x at *
    go_wp2_with fail
    refine (HI.out _).mono ?_
    rintro e w1 ⟨rfl, rfl⟩
    go_wp2
    go_roundw
    case rel => exact ⟨k + 1, by omega, by go_num, HA, by simp⟩
    case measure => simp [intOf]; omega
   ·
    have HF := Lib.hid (fieldsB_bad hlt hi)
    have HI := Lib.hid (fun w => in_no (os.getD k 0) 0 2 w hi)
    clear hi hall
    generalize os.getD k 0 = x at *
    go_wp2_with fail
    refine (HI.out _).mono ?_
    rintro e w1 ⟨rfl, rfl⟩
    go_wp2
    go_ret
    exact ⟨Jy HF.out.symm, rfl⟩
  ·
   obtain rfl : k = os.length := by omega
   have HE := Lib.hid (fieldsB_all hall.out)
   clear hall
   by_cases hl : 1 ≤ os.length ∧ os.length ≤ 3
   ·
    have HT : Hid (Yw os = true) := Lib.hid (by rw [HE.out]; exact decide_eq_true hl)
    have HI := Lib.hid (fun w => Xe (os.length : Int) 1 3 w (by omega) (by omega))
    clear hl HE
    go_wp2_with fail
    refine (HI.out _).mono ?_
    rintro e w1 ⟨rfl, rfl⟩
    go_wp2
    go_ret
    exact ⟨Jy HT.out.symm, rfl⟩
   ·
    have HT : Hid (Yw os = false) := Lib.hid (by rw [HE.out]; exact decide_eq_false hl)
    have HI := Lib.hid (fun w => in_no (os.length : Int) 1 3 w (by omega))
    clear hl HE
    go_wp2_with fail
    refine (HI.out _).mono ?_
    rintro e w1 ⟨rfl, rfl⟩
    go_wp2
    go_ret
    exact ⟨Jy HT.out.symm, rfl⟩
set_option maxHeartbeats 16000000 in
theorem specIsQuery (id tn : Int) (cv ov : Value) (cs : List Ul) (os : List Int) (w : World) (h : CondsR w cv cs) (hn : cs.length ≤ 1048576) (g : Uc w ov os) (hm : os.length ≤ 1048576) :
  Calls Tryz.prog 91 #[qV id tn cv ov] w fun e w' => e = .returned (.bool (Xc id tn cs os)) ∧ Below w w w' := by
 obtain ⟨va, vcap, rfl⟩ := condsR_len h
 obtain ⟨oa, ocap, rfl⟩ := Yg g
 have hb0 : Below w w (w.alloc (.cells #[.int .i64 id, .int .i64 tn, .slice va cs.length vcap, .slice oa os.length ocap] 53)) := (Il _ w).alloc (Ii _) _
 have HB0 := Lib.hid hb0
 have HG0 := Lib.hid (Ic w (.cells #[.int .i64 id, .int .i64 tn, .slice va cs.length vcap, .slice oa os.length ocap] 53))
 have HH := Lib.hid (condsR_below h hb0)
 have HO := Lib.hid (Kx g hb0)
 have HFD := Lib.hid (fun w h => specFields (.slice oa os.length ocap) os w h hm)
 have HZ : Hid (w.heap.size < (w.alloc (.cells #[.int .i64 id, .int .i64 tn, .slice va cs.length vcap, .slice oa os.length ocap] 53)).heap.size) := Lib.hid (by simp)
 clear h g hm hb0
 go_enter Tryz.func91, Tryz.ntmps91
 go_wp2
 generalize w.alloc (.cells #[.int .i64 id, .int .i64 tn, .slice va cs.length vcap, .slice oa os.length ocap] 53) = W at *
 go_loopw [3] (fun i wr => ∃ k : Nat, k ≤ cs.length ∧ i = .int .i64 k ∧ Hid (CondsTo cs k) ∧ Below W W wr) (fun i _ => cs.length - (intOf i).toNat)
 case atStart => exact ⟨0, Ij _, rfl, Lib.hid (fun i hi => by omega), Il _ _⟩
 case round =>
  obtain ⟨k, hk, rfl, hall, hbel⟩ := hrel
  have kb := (hbel.block w.heap.size HZ.out).trans HG0.out
  have hwl := (Array.getElem?_eq_some_iff.1 kb).1
  have p2 := (Ia wr _ 2 _ _ _ kb).trans (show _ = some (Value.slice va cs.length vcap) from rfl)
  by_cases hlt : k < cs.length
  ·
   have H1 := Lib.hid (condsR_below HH.out hbel)
   obtain ⟨b, off, cap', hv, hbl, hc1, hc2, hc3⟩ := condsR_at H1.out hlt
   simp only [Ik] at hv
   obtain ⟨rfl, _, rfl⟩ := hv
   have HBAD := Lib.hid (condsB_bad (cs := cs) (k := k) hlt)
   have HSTEP := Lib.hid (condsTo_step hall.out)
   have HR := Lib.hid (fun w => specIsCond (cs.getD k c0D).1 (cs.getD k c0D).2.1 (cs.getD k c0D).2.2 w)
   have i1 : (0 : Int) ≤ (k : Int) := by omega
   have i2 : (k : Int) < (cs.length : Int) := by omega
   clear hall kb
   have er : (((cs.getD k c0D).1, (cs.getD k c0D).2.1, (cs.getD k c0D).2.2) : Ul) = cs.getD k c0D := rfl
   rw [er] at HR
   clear er
   cases hrb : Uy (cs.getD k c0D) with
   | false =>
    have HF : Hid (Xc id tn cs os = false) := Lib.hid (by unfold Xc; rw [HBAD.out (Or.inl hrb)]; rfl)
    rw [hrb] at HR
    clear hrb HBAD HSTEP H1
    generalize cs.getD k c0D = c at *
    obtain ⟨f, l, hh⟩ := c
    simp only at hc1 hc2 hc3 HR
    go_wp2
    refine wp_region_held_drew (S := fun w' => w'.cell? ⟨w, 2, none⟩ = some (.slice (some ⟨b, off, none⟩) cs.length vcap) ∧ w'.cell? ⟨b, off + k * 3, none⟩ = some (.int .i64 f) ∧ w'.cell? ⟨b, off + k * 3 + 1, none⟩ = some (.int .i64 l) ∧ w'.cell? ⟨b, off + k * 3 + 2, none⟩ = some (.int .i64 hh)) (by kernel_rfl) ⟨p2, hc1, hc2, hc3⟩ (fun hHeld => ?_)
    refine tQ (i := 0) ?_
    try simp only [Act.put, lA, lB, lC]
    refine tQ (i := 1) ?_
    try simp only [Act.put, lA, lB, lC]
    refine tQ (i := 2) ?_
    try simp only [Act.put, lA, lB, lC]
    refine tQ (i := 3) ?_
    try simp only [Act.put, lA, lB, lC]
    refine tQ (i := 4) ?_
    try simp only [Act.put, lA, lB, lC]
    refine rA 5 (fun K hK => ?_)
    go_simp
    refine (HR.out _).mono ?_
    rintro e w8 ⟨rfl, b9⟩
    have b10 : Below wr wr w8 := ⟨b9.os, b9.tape, b9.output, b9.size, b9.block⟩
    have s0 := (b10.cell (p := ⟨w, 2, none⟩) hwl).trans p2
    have s1 := (b10.cell (p := ⟨b, off + k * 3, none⟩) hbl).trans hc1
    have s2 := (b10.cell (p := ⟨b, off + k * 3 + 1, none⟩) hbl).trans hc2
    have s3 := (b10.cell (p := ⟨b, off + k * 3 + 2, none⟩) hbl).trans hc3
    refine hK.out _ _ ⟨s0, s1, s2, s3⟩ (fun hHeld => ?_)
    clear hK K
    try simp only [Act.put, lA, lB, lC]
    refine tQ (i := 6) ?_
    try simp only [Act.put, lA, lB, lC]
    refine tQ (i := 7) ?_
    try simp only [Act.put, lA, lB, lC]
    refine tO (i := 8) ?_
    try simp only [Act.put, lA, lB, lC]
    refine tO (i := 9) ?_
    try simp only [Act.put, lA, lB, lC]
    refine tO (i := 10) ?_
    try simp only [Act.put, lA, lB, lC]
    refine tO (i := 11) ?_
    try simp only [Act.put, lA, lB, lC]
    refine tO (i := 12) ?_
    try simp only [Act.put, lA, lB, lC]
    refine tO (i := 13) ?_
    try simp only [Act.put, lA, lB, lC]
    refine tO (i := 14) ?_
    try simp only [Act.put, lA, lB, lC]
    refine tO (i := 15) ?_
    try simp only [Act.put, lA, lB, lC]
    refine tO (i := 16) ?_
    try simp only [Act.put, lA, lB, lC]
    refine tO (i := 17) ?_
    try simp only [Act.put, lA, lB, lC]
    refine tO (i := 18) ?_
    try simp only [Act.put, lA, lB, lC]
    refine tO (i := 19) ?_
    try simp only [Act.put, lA, lB, lC]
    refine tO (i := 20) ?_
    try simp only [Act.put, lA, lB, lC]
    refine tO (i := 21) ?_
    try simp only [Act.put, lA, lB, lC]
    refine tO (i := 22) ?_
    try simp only [Act.put, lA, lB, lC]
    refine tO (i := 23) ?_
    try simp only [Act.put, lA, lB, lC]
    refine tO (i := 24) ?_
    try simp only [Act.put, lA, lB, lC]
    refine tO (i := 25) ?_
    try simp only [Act.put, lA, lB, lC]
    refine tQ (i := 26) ?_
    try simp only [Act.put, lA, lB, lC]
    refine wpAnyH_done (by kernel_rfl) ?_ _
    have b11 := hbel.trans (b10.mono hbel.size)
    clear s0 s1 s2 s3 hHeld b9 b10
    try clear s4
    go_wp2
    go_ret
    exact ⟨Jy HF.out.symm, HB0.out.trans (b11.mono HB0.out.size)⟩
   | true =>
    rw [hrb] at HR
    by_cases hz : k = 0
    ·
     have HA := Lib.hid (HSTEP.out hrb (fun g => absurd g (by omega)))
     have hg : decide ((0 : Int) < (k : Int)) = false := decide_eq_false (by omega)
     have hgn : decide (0 < k) = false := decide_eq_false (by omega)
     clear hrb HBAD HSTEP H1 hz
     generalize cs.getD k c0D = c at *
     obtain ⟨f, l, hh⟩ := c
     simp only at hc1 hc2 hc3 HR
     go_wp2
     refine wp_region_held_drew (S := fun w' => w'.cell? ⟨w, 2, none⟩ = some (.slice (some ⟨b, off, none⟩) cs.length vcap) ∧ w'.cell? ⟨b, off + k * 3, none⟩ = some (.int .i64 f) ∧ w'.cell? ⟨b, off + k * 3 + 1, none⟩ = some (.int .i64 l) ∧ w'.cell? ⟨b, off + k * 3 + 2, none⟩ = some (.int .i64 hh)) (by kernel_rfl) ⟨p2, hc1, hc2, hc3⟩ (fun hHeld => ?_)
     refine tQ (i := 0) ?_
     try simp only [Act.put, lA, lB, lC]
     refine tQ (i := 1) ?_
     try simp only [Act.put, lA, lB, lC]
     refine tQ (i := 2) ?_
     try simp only [Act.put, lA, lB, lC]
     refine tQ (i := 3) ?_
     try simp only [Act.put, lA, lB, lC]
     refine tQ (i := 4) ?_
     try simp only [Act.put, lA, lB, lC]
     refine rA 5 (fun K hK => ?_)
     go_simp
     refine (HR.out _).mono ?_
     rintro e w8 ⟨rfl, b9⟩
     have b10 : Below wr wr w8 := ⟨b9.os, b9.tape, b9.output, b9.size, b9.block⟩
     have s0 := (b10.cell (p := ⟨w, 2, none⟩) hwl).trans p2
     have s1 := (b10.cell (p := ⟨b, off + k * 3, none⟩) hbl).trans hc1
     have s2 := (b10.cell (p := ⟨b, off + k * 3 + 1, none⟩) hbl).trans hc2
     have s3 := (b10.cell (p := ⟨b, off + k * 3 + 2, none⟩) hbl).trans hc3
     refine hK.out _ _ ⟨s0, s1, s2, s3⟩ (fun hHeld => ?_)
     clear hK K
     try simp only [Act.put, lA, lB, lC]
     refine tQ (i := 6) ?_
     try simp only [Act.put, lA, lB, lC]
     refine tQ (i := 7) ?_
     try simp only [Act.put, lA, lB, lC]
     refine tQ (i := 8) ?_
     try simp only [Act.put, lA, lB, lC]
     refine tQ (i := 9) ?_
     try simp only [Act.put, lA, lB, lC]
     refine tQ (i := 10) ?_
     try simp only [Act.put, lA, lB, lC]
     refine tO (i := 11) ?_
     try simp only [Act.put, lA, lB, lC]
     refine tO (i := 12) ?_
     try simp only [Act.put, lA, lB, lC]
     refine tO (i := 13) ?_
     try simp only [Act.put, lA, lB, lC]
     refine tO (i := 14) ?_
     try simp only [Act.put, lA, lB, lC]
     refine tO (i := 15) ?_
     try simp only [Act.put, lA, lB, lC]
     refine tO (i := 16) ?_
     try simp only [Act.put, lA, lB, lC]
     refine tO (i := 17) ?_
     try simp only [Act.put, lA, lB, lC]
     refine tO (i := 18) ?_
     try simp only [Act.put, lA, lB, lC]
     refine tO (i := 19) ?_
     try simp only [Act.put, lA, lB, lC]
     refine tO (i := 20) ?_
     try simp only [Act.put, lA, lB, lC]
     refine tO (i := 21) ?_
     try simp only [Act.put, lA, lB, lC]
     refine tO (i := 22) ?_
     try simp only [Act.put, lA, lB, lC]
     refine tO (i := 23) ?_
     try simp only [Act.put, lA, lB, lC]
     refine tO (i := 24) ?_
     try simp only [Act.put, lA, lB, lC]
     refine tQ (i := 25) ?_
     try simp only [Act.put, lA, lB, lC]
     refine tQ (i := 26) ?_
     try simp only [Act.put, lA, lB, lC]
     refine wpAnyH_done (by kernel_rfl) ?_ _
     have b11 := hbel.trans (b10.mono hbel.size)
     clear s0 s1 s2 s3 hHeld b9 b10
     try clear s4
     go_wp2
     go_roundw
     case rel => exact ⟨k + 1, by omega, by go_num, HA, b11⟩
     case measure => simp [intOf]; omega
    ·
     obtain ⟨m, hkm⟩ : ∃ m, k = m + 1 := ⟨k - 1, by omega⟩
     have hml : m < cs.length := by omega
     obtain ⟨b', off', cap'', hv', _, hc0, _, _⟩ := condsR_at H1.out hml
     simp only [Ik, Option.some.injEq, Addr.mk.injEq] at hv'
     obtain ⟨⟨rfl, rfl, _⟩, _, rfl⟩ := hv'
     have hg : decide ((0 : Int) < (k : Int)) = true := decide_eq_true (by omega)
     have hgn : decide (0 < k) = true := decide_eq_true (by omega)
     have j1 : (0 : Int) ≤ (m : Int) := by omega
     have j2 : (m : Int) < (cs.length : Int) := by omega
     have hsub : IntKind.i64.wrap ((k : Int) - 1) = (m : Int) := by rw [IntWalk.i64_in _ (by omega)]; omega
     rw [show k - 1 = m by omega] at HBAD HSTEP
     by_cases hle : (cs.getD k c0D).1 ≤ (cs.getD m c0D).1
     ·
      have HF : Hid (Xc id tn cs os = false) := Lib.hid (by unfold Xc; rw [HBAD.out (Or.inr ⟨by omega, by omega⟩)]; rfl)
      have hd := decide_eq_true hle
      clear hrb HBAD HSTEP H1 hz hle hkm
      generalize (cs.getD m c0D).1 = fp at *
      generalize cs.getD k c0D = c at *
      obtain ⟨f, l, hh⟩ := c
      simp only at hc1 hc2 hc3 HR hd
      go_wp2
      refine wp_region_held_drew (S := fun w' => w'.cell? ⟨w, 2, none⟩ = some (.slice (some ⟨b, off, none⟩) cs.length vcap) ∧ w'.cell? ⟨b, off + k * 3, none⟩ = some (.int .i64 f) ∧ w'.cell? ⟨b, off + k * 3 + 1, none⟩ = some (.int .i64 l) ∧ w'.cell? ⟨b, off + k * 3 + 2, none⟩ = some (.int .i64 hh) ∧ w'.cell? ⟨b, off + m * 3, none⟩ = some (.int .i64 fp)) (by kernel_rfl) ⟨p2, hc1, hc2, hc3, hc0⟩ (fun hHeld => ?_)
      refine tQ (i := 0) ?_
      try simp only [Act.put, lA, lB, lC]
      refine tQ (i := 1) ?_
      try simp only [Act.put, lA, lB, lC]
      refine tQ (i := 2) ?_
      try simp only [Act.put, lA, lB, lC]
      refine tQ (i := 3) ?_
      try simp only [Act.put, lA, lB, lC]
      refine tQ (i := 4) ?_
      try simp only [Act.put, lA, lB, lC]
      refine rA 5 (fun K hK => ?_)
      go_simp
      refine (HR.out _).mono ?_
      rintro e w8 ⟨rfl, b9⟩
      have b10 : Below wr wr w8 := ⟨b9.os, b9.tape, b9.output, b9.size, b9.block⟩
      have s0 := (b10.cell (p := ⟨w, 2, none⟩) hwl).trans p2
      have s1 := (b10.cell (p := ⟨b, off + k * 3, none⟩) hbl).trans hc1
      have s2 := (b10.cell (p := ⟨b, off + k * 3 + 1, none⟩) hbl).trans hc2
      have s3 := (b10.cell (p := ⟨b, off + k * 3 + 2, none⟩) hbl).trans hc3
      have s4 := (b10.cell (p := ⟨b, off + m * 3, none⟩) hbl).trans hc0
      refine hK.out _ _ ⟨s0, s1, s2, s3, s4⟩ (fun hHeld => ?_)
      clear hK K
      try simp only [Act.put, lA, lB, lC]
      refine tQ (i := 6) ?_
      try simp only [Act.put, lA, lB, lC]
      refine tQ (i := 7) ?_
      try simp only [Act.put, lA, lB, lC]
      refine tQ (i := 8) ?_
      try simp only [Act.put, lA, lB, lC]
      refine tQ (i := 9) ?_
      try simp only [Act.put, lA, lB, lC]
      refine tQ (i := 10) ?_
      try simp only [Act.put, lA, lB, lC]
      refine tQ (i := 11) ?_
      try simp only [Act.put, lA, lB, lC]
      refine tQ (i := 12) ?_
      try simp only [Act.put, lA, lB, lC]
      refine tQ (i := 13) ?_
      try simp only [Act.put, lA, lB, lC]
      refine tQ (i := 14) ?_
      try simp only [Act.put, lA, lB, lC]
      refine tQ (i := 15) ?_
      try simp only [Act.put, lA, lB, lC]
      refine tQ (i := 16) ?_
      try simp only [Act.put, lA, lB, lC]
      refine tQ (i := 17) ?_
      try simp only [Act.put, lA, lB, lC]
      refine tQ (i := 18) ?_
      try simp only [Act.put, lA, lB, lC]
      refine tQ (i := 19) ?_
      try simp only [Act.put, lA, lB, lC]
      refine tQ (i := 20) ?_
      try simp only [Act.put, lA, lB, lC]
      refine tQ (i := 21) ?_
      try simp only [Act.put, lA, lB, lC]
      refine tQ (i := 22) ?_
      try simp only [Act.put, lA, lB, lC]
      refine tQ (i := 23) ?_
      try simp only [Act.put, lA, lB, lC]
      refine tQ (i := 24) ?_
      try simp only [Act.put, lA, lB, lC]
      refine tQ (i := 25) ?_
      try simp only [Act.put, lA, lB, lC]
      refine tQ (i := 26) ?_
      try simp only [Act.put, lA, lB, lC]
      refine wpAnyH_done (by kernel_rfl) ?_ _
      have b11 := hbel.trans (b10.mono hbel.size)
      clear s0 s1 s2 s3 hHeld b9 b10
      try clear s4
      go_wp2
      go_ret
      exact ⟨Jy HF.out.symm, HB0.out.trans (b11.mono HB0.out.size)⟩
     ·
      have HA := Lib.hid (HSTEP.out hrb (fun _ => by omega))
      have hd := decide_eq_false hle
      clear hrb HBAD HSTEP H1 hz hle hkm
      generalize (cs.getD m c0D).1 = fp at *
      generalize cs.getD k c0D = c at *
      obtain ⟨f, l, hh⟩ := c
      simp only at hc1 hc2 hc3 HR hd
      go_wp2
      refine wp_region_held_drew (S := fun w' => w'.cell? ⟨w, 2, none⟩ = some (.slice (some ⟨b, off, none⟩) cs.length vcap) ∧ w'.cell? ⟨b, off + k * 3, none⟩ = some (.int .i64 f) ∧ w'.cell? ⟨b, off + k * 3 + 1, none⟩ = some (.int .i64 l) ∧ w'.cell? ⟨b, off + k * 3 + 2, none⟩ = some (.int .i64 hh) ∧ w'.cell? ⟨b, off + m * 3, none⟩ = some (.int .i64 fp)) (by kernel_rfl) ⟨p2, hc1, hc2, hc3, hc0⟩ (fun hHeld => ?_)
      refine tQ (i := 0) ?_
      try simp only [Act.put, lA, lB, lC]
      refine tQ (i := 1) ?_
      try simp only [Act.put, lA, lB, lC]
      refine tQ (i := 2) ?_
      try simp only [Act.put, lA, lB, lC]
      refine tQ (i := 3) ?_
      try simp only [Act.put, lA, lB, lC]
      refine tQ (i := 4) ?_
      try simp only [Act.put, lA, lB, lC]
      refine rA 5 (fun K hK => ?_)
      go_simp
      refine (HR.out _).mono ?_
      rintro e w8 ⟨rfl, b9⟩
      have b10 : Below wr wr w8 := ⟨b9.os, b9.tape, b9.output, b9.size, b9.block⟩
      have s0 := (b10.cell (p := ⟨w, 2, none⟩) hwl).trans p2
      have s1 := (b10.cell (p := ⟨b, off + k * 3, none⟩) hbl).trans hc1
      have s2 := (b10.cell (p := ⟨b, off + k * 3 + 1, none⟩) hbl).trans hc2
      have s3 := (b10.cell (p := ⟨b, off + k * 3 + 2, none⟩) hbl).trans hc3
      have s4 := (b10.cell (p := ⟨b, off + m * 3, none⟩) hbl).trans hc0
      refine hK.out _ _ ⟨s0, s1, s2, s3, s4⟩ (fun hHeld => ?_)
      clear hK K
      try simp only [Act.put, lA, lB, lC]
      refine tQ (i := 6) ?_
      try simp only [Act.put, lA, lB, lC]
      refine tQ (i := 7) ?_
      try simp only [Act.put, lA, lB, lC]
      refine tQ (i := 8) ?_
      try simp only [Act.put, lA, lB, lC]
      refine tQ (i := 9) ?_
      try simp only [Act.put, lA, lB, lC]
      refine tQ (i := 10) ?_
      try simp only [Act.put, lA, lB, lC]
      refine tQ (i := 11) ?_
      try simp only [Act.put, lA, lB, lC]
      refine tQ (i := 12) ?_
      try simp only [Act.put, lA, lB, lC]
      refine tQ (i := 13) ?_
      try simp only [Act.put, lA, lB, lC]
      refine tQ (i := 14) ?_
      try simp only [Act.put, lA, lB, lC]
      refine tQ (i := 15) ?_
      try simp only [Act.put, lA, lB, lC]
      refine tQ (i := 16) ?_
      try simp only [Act.put, lA, lB, lC]
      refine tQ (i := 17) ?_
      try simp only [Act.put, lA, lB, lC]
      refine tQ (i := 18) ?_
      try simp only [Act.put, lA, lB, lC]
      refine tQ (i := 19) ?_
      try simp only [Act.put, lA, lB, lC]
      refine tQ (i := 20) ?_
      try simp only [Act.put, lA, lB, lC]
      refine tQ (i := 21) ?_
      try simp only [Act.put, lA, lB, lC]
      refine tQ (i := 22) ?_
      try simp only [Act.put, lA, lB, lC]
      refine tQ (i := 23) ?_
      try simp only [Act.put, lA, lB, lC]
      refine tQ (i := 24) ?_
      try simp only [Act.put, lA, lB, lC]
      refine tQ (i := 25) ?_
      try simp only [Act.put, lA, lB, lC]
      refine tQ (i := 26) ?_
      try simp only [Act.put, lA, lB, lC]
      refine wpAnyH_done (by kernel_rfl) ?_ _
      have b11 := hbel.trans (b10.mono hbel.size)
      clear s0 s1 s2 s3 hHeld b9 b10
      try clear s4
      go_wp2
      go_roundw
      case rel => exact ⟨k + 1, by omega, by go_num, HA, b11⟩
      case measure => simp [intOf]; omega
  ·
   obtain rfl : k = cs.length := by omega
   have HCB := Lib.hid (condsB_all hall.out)
   have p0 := (Ia wr _ 0 _ _ _ kb).trans (show _ = some (Value.int .i64 id) from rfl)
   have p1 := (Ia wr _ 1 _ _ _ kb).trans (show _ = some (Value.int .i64 tn) from rfl)
   have p3 := (Ia wr _ 3 _ _ _ kb).trans (show _ = some (Value.slice oa os.length ocap) from rfl)
   have b11 := HB0.out.trans (hbel.mono HB0.out.size)
   have IO := Lib.hid (Kx HO.out hbel)
   clear hall kb hbel
   by_cases h1 : 0 ≤ id ∧ id ≤ 23
   ·
    have H1 := Lib.hid (fun w => Xe id 0 23 w h1.1 h1.2)
    by_cases h2 : 0 ≤ tn ∧ tn ≤ 3
    ·
     have H2 := Lib.hid (fun w => Xe tn 0 3 w h2.1 h2.2)
     by_cases h3 : cs.length ≤ 3
     ·
      have HQ : Hid (Xc id tn cs os = Yw os) := Lib.hid (by unfold Xc; rw [HCB.out, decide_eq_true h1, decide_eq_true h2, decide_eq_true h3]; simp)
      have h3i : (cs.length : Int) ≤ 3 := by omega
      clear h1 h2 h3
      generalize Yw os = r at *
      go_wp2_with fail
      refine (H1.out _).mono ?_
      rintro e w1 ⟨rfl, rfl⟩
      go_wp2_with fail
      refine (H2.out _).mono ?_
      rintro e w1 ⟨rfl, rfl⟩
      go_wp2_with fail
      refine (HFD.out _ IO.out).mono ?_
      rintro e w1 ⟨rfl, rfl⟩
      go_wp2
      go_ret
      exact ⟨Jy HQ.out.symm, b11⟩
     ·
      have HQ : Hid (Xc id tn cs os = false) := Lib.hid (by unfold Xc; rw [decide_eq_false h3]; simp)
      have h3i : ¬ (cs.length : Int) ≤ 3 := by omega
      clear h1 h2 h3
      go_wp2_with fail
      refine (H1.out _).mono ?_
      rintro e w1 ⟨rfl, rfl⟩
      go_wp2_with fail
      refine (H2.out _).mono ?_
      rintro e w1 ⟨rfl, rfl⟩
      go_wp2
      go_ret
      exact ⟨Jy HQ.out.symm, b11⟩
    ·
     have H2 := Lib.hid (fun w => in_no tn 0 3 w h2)
     have HQ : Hid (Xc id tn cs os = false) := Lib.hid (by unfold Xc; rw [decide_eq_false h2]; simp)
     clear h1 h2
     go_wp2_with fail
     refine (H1.out _).mono ?_
     rintro e w1 ⟨rfl, rfl⟩
     go_wp2_with fail
     refine (H2.out _).mono ?_
     rintro e w1 ⟨rfl, rfl⟩
     go_wp2
     go_ret
     exact ⟨Jy HQ.out.symm, b11⟩
   ·
    have H1 := Lib.hid (fun w => in_no id 0 23 w h1)
    have HQ : Hid (Xc id tn cs os = false) := Lib.hid (by unfold Xc; rw [decide_eq_false h1]; simp)
    clear h1
    go_wp2_with fail
    refine (H1.out _).mono ?_
    rintro e w1 ⟨rfl, rfl⟩
    go_wp2
    go_ret
    exact ⟨Jy HQ.out.symm, b11⟩
/-- A query's data: number, tenant, conditions, fields. -/
abbrev QD := Int × Int × List Ul × List Int
def q0D : QD := (0, 0, [], [])
/-- The slice v reads as the queries qs. -/
def QueriesR (w : World) (v : Value) (qs : List QD) : Prop :=
 (qs = [] ∧ ∃ a cap, v = .slice a 0 cap) ∨ ∃ (b off cap : Nat) (vs us : Nat → Value), v = .slice (some ⟨b, off, none⟩) qs.length cap ∧ qs.length ≤ cap ∧ b < w.heap.size ∧
  ∀ j, j < qs.length → w.cell? ⟨b, off + j * 4, none⟩ = some (.int .i64 (qs.getD j q0D).1) ∧ w.cell? ⟨b, off + j * 4 + 1, none⟩ = some (.int .i64 (qs.getD j q0D).2.1) ∧ w.cell? ⟨b, off + j * 4 + 2, none⟩ = some (vs j) ∧ w.cell? ⟨b, off + j * 4 + 3, none⟩ = some (us j) ∧
   CondsR w (vs j) (qs.getD j q0D).2.2.1 ∧ Uc w (us j) (qs.getD j q0D).2.2.2
/-- The slice v owns the queries qs, in blocks from B on, each block once: the conditions of query j lie in vs (2 j), its fields in vs (2 j + 1). -/
def OwnsQ (w : World) (B : Nat) (v : Value) (qs : List QD) : Prop :=
 ∃ (cs : List Value) (vs : Nat → Value), w.ownsRow B 53 4 v qs.length cs ∧
  (∀ j, j < qs.length → cs[j * 4]? = some (.int .i64 (qs.getD j q0D).1) ∧ cs[j * 4 + 1]? = some (.int .i64 (qs.getD j q0D).2.1) ∧ cs[j * 4 + 2]? = some (vs (2 * j)) ∧ cs[j * 4 + 3]? = some (vs (2 * j + 1)) ∧
   OwnsC w B (vs (2 * j)) (qs.getD j q0D).2.2.1 ∧ Ey w B (vs (2 * j + 1)) (qs.getD j q0D).2.2.2) ∧
  (∀ i, i < 2 * qs.length → ∀ b, (vs i).ownBlock = some b → v.ownBlock ≠ some b) ∧
  ∀ i j, i < 2 * qs.length → j < 2 * qs.length → i ≠ j → ∀ b, (vs i).ownBlock = some b → (vs j).ownBlock ≠ some b
/-- Does the order hold each field once? -/
def Xd (os : List Int) : Bool := decide (os.length = 3) && (List.range os.length).all fun i => decide (0 ≤ os.getD i 0 ∧ os.getD i 0 ≤ 2) && !decide (os.getD i 0 ∈ os.take i)
def Et : List (List Int) := [[0, 1, 2], [0, 2, 1], [1, 0, 2], [1, 2, 0], [2, 0, 1], [2, 1, 0]]
abbrev Xu := Int × Int × List Int × List Int × List Int
abbrev Ua := QD × Int × List Int × Int × Int × Int × List Ej
abbrev FinD := QD × Int × Int × List Ej
abbrev EngD := Yx × Int × List Int × List Ua × List FinD × List Xu × Int
def x0D : Xu := (0, 0, [], [], [])
def Uh : Ua := (q0D, 0, [], 0, 0, 0, [])
def f0D : FinD := (q0D, 0, 0, [])
def e0D : EngD := (([], 0), 0, [], [], [], [], 0)
/- All of a list. -/
theorem allB_at {α : Type} {p : α → Bool} {l : List α} (d : α) (h : l.all p = true) {k : Nat} (hk : k < l.length) : p (l.getD k d) = true := by
 rw [List.all_eq_true] at h
 have e : l.getD k d = l[k] := by simp [List.getD, hk]
 rw [e]; exact h _ (List.getElem_mem hk)
theorem allB_no {α : Type} {p : α → Bool} {l : List α} (d : α) {k : Nat} (hk : k < l.length) (h : p (l.getD k d) = false) : l.all p = false := by
 rw [← Bool.not_eq_true]
 intro g
 have := allB_at d g hk
 rw [h] at this; cases this
theorem Ee {α : Type} {p : α → Bool} {l : List α} (d : α) (h : ∀ i, i < l.length → p (l.getD i d) = true) : l.all p = true := by
 rw [List.all_eq_true]
 intro x hx
 obtain ⟨i, hi, rfl⟩ := List.getElem_of_mem hx
 have := h i hi
 have e : l.getD i d = l[i] := by simp [List.getD, hi]
 rw [e] at this; exact this
def Ux {α : Type} (p : α → Bool) (d : α) (l : List α) (k : Nat) : Prop := ∀ i, i < k → p (l.getD i d) = true
theorem Xz {α : Type} {p : α → Bool} {d : α} {l : List α} {k : Nat} (h : Ux p d l k) (g : p (l.getD k d) = true) : Ux p d l (k + 1) := fun i hi => by
 by_cases e : i = k
 ·
  subst e; exact g
 ·
  exact h i (by omega)
theorem Xy {α : Type} (p : α → Bool) (d : α) (l : List α) : Ux p d l 0 := fun i hi => absurd hi (Nat.not_lt_zero i)
/- What is valid. -/
def chargeHP (x : Xu) : Prop := (1 ≤ x.2.2.1.length ∧ x.2.2.1.length ≤ 8) ∧ (x.2.2.2.1.length = x.2.2.1.length ∧ x.2.2.2.2.length = x.2.2.1.length) ∧ (0 ≤ x.1 ∧ x.1 ≤ 7) ∧ (0 ≤ x.2.1 ∧ x.2.1 ≤ 4)
instance (x : Xu) : Decidable (chargeHP x) := by unfold chargeHP; infer_instance
def tenB (t : Int) : Bool := decide (0 ≤ t ∧ t ≤ 3)
def getB (b r : Int) : Bool := decide (0 ≤ r ∧ r ≤ b)
def Ve (x : Xu) : Bool := (setB x.2.2.1 && decide (chargeHP x)) && (x.2.2.2.1.all tenB && x.2.2.2.2.all (getB x.2.1))
theorem charge_no1 {x : Xu} (h : setB x.2.2.1 = false) : Ve x = false := by unfold Ve; rw [h]; rfl
theorem Yh {x : Xu} (h : ¬ chargeHP x) : Ve x = false := by unfold Ve; rw [decide_eq_false h]; simp
theorem charge_no3 {x : Xu} (h : x.2.2.2.1.all tenB = false) : Ve x = false := by unfold Ve; rw [h]; simp
theorem charge_no4 {x : Xu} (h : x.2.2.2.2.all (getB x.2.1) = false) : Ve x = false := by unfold Ve; rw [h]; simp
theorem charge_yes {x : Xu} (h1 : setB x.2.2.1 = true) (h2 : chargeHP x) (h3 : x.2.2.2.1.all tenB = true) (h4 : x.2.2.2.2.all (getB x.2.1) = true) : Ve x = true := by unfold Ve; rw [h1, decide_eq_true h2, h3, h4]; rfl
def Uw (l : List Int) (n : Nat) (k : Nat) : Prop := ∀ i, i < k → (0 ≤ l.getD i 0 ∧ l.getD i 0 < n) ∧ (0 < i → l.getD (i - 1) 0 < l.getD i 0)
instance (l : List Int) (n k : Nat) : Decidable (Uw l n k) := by unfold Uw; infer_instance
def todoP (l : List Int) (n : Nat) : Prop := 1 ≤ l.length ∧ Uw l n l.length
instance (l : List Int) (n : Nat) : Decidable (todoP l n) := by unfold todoP; infer_instance
def todoB (l : List Int) (n : Nat) : Bool := decide (todoP l n)
theorem todoTo_zero (l : List Int) (n : Nat) : Uw l n 0 := fun i hi => absurd hi (Nat.not_lt_zero i)
theorem todoTo_step {l : List Int} {n k : Nat} (h : Uw l n k) (h1 : 0 ≤ l.getD k 0) (h2 : l.getD k 0 < n) (h3 : 0 < k → l.getD (k - 1) 0 < l.getD k 0) : Uw l n (k + 1) := fun i hi => by
 by_cases e : i = k
 ·
  subst e; exact ⟨⟨h1, h2⟩, h3⟩
 ·
  exact h i (by omega)
theorem todo_no {l : List Int} {n k : Nat} (hk : k < l.length) (h : ¬ ((0 ≤ l.getD k 0 ∧ l.getD k 0 < n) ∧ (0 < k → l.getD (k - 1) 0 < l.getD k 0))) : ¬ Uw l n l.length := fun g => h (g k hk)
def Ec (l : List Ej) : Bool := decide (l.length ≤ 1000) && l.all Ui
def qdB (q : QD) : Bool := Xc q.1 q.2.1 q.2.2.1 q.2.2.2
def actHP (s : Yx) (a : Ua) : Prop := (0 ≤ a.2.1 ∧ a.2.1 ≤ s.2) ∧ (0 ≤ a.2.2.2.1 ∧ a.2.2.2.1 ≤ 100000) ∧ (0 ≤ a.2.2.2.2.1 ∧ a.2.2.2.2.1 ≤ 1000) ∧ (0 ≤ a.2.2.2.2.2.1 ∧ a.2.2.2.2.2.1 ≤ 32)
instance (s : Yx) (a : Ua) : Decidable (actHP s a) := by unfold actHP; infer_instance
def actB (s : Yx) (a : Ua) : Bool := (qdB a.1 && decide (actHP s a)) && (todoB a.2.2.1 s.1.length && Ec a.2.2.2.2.2.2)
theorem act_no1 {s : Yx} {a : Ua} (h : qdB a.1 = false) : actB s a = false := by unfold actB; rw [h]; rfl
theorem act_no2 {s : Yx} {a : Ua} (h : ¬ actHP s a) : actB s a = false := by unfold actB; rw [decide_eq_false h]; simp
theorem act_no3 {s : Yx} {a : Ua} (h : todoB a.2.2.1 s.1.length = false) : actB s a = false := by unfold actB; rw [h]; simp
theorem act_no4 {s : Yx} {a : Ua} (h : Ec a.2.2.2.2.2.2 = false) : actB s a = false := by unfold actB; rw [h]; simp
theorem act_yes {s : Yx} {a : Ua} (h1 : qdB a.1 = true) (h2 : actHP s a) (h3 : todoB a.2.2.1 s.1.length = true) (h4 : Ec a.2.2.2.2.2.2 = true) : actB s a = true := by unfold actB; rw [h1, decide_eq_true h2, h3, h4]; rfl
def finHP (now : Int) (d : FinD) : Prop := (0 ≤ d.2.1 ∧ d.2.1 ≤ now) ∧ (0 ≤ d.2.2.1 ∧ d.2.2.1 ≤ 100000)
instance (now : Int) (d : FinD) : Decidable (finHP now d) := by unfold finHP; infer_instance
def Ea (now : Int) (d : FinD) : Bool := (qdB d.1 && decide (finHP now d)) && Ec d.2.2.2
theorem fin_no1 {now : Int} {d : FinD} (h : qdB d.1 = false) : Ea now d = false := by unfold Ea; rw [h]; rfl
theorem fin_no2 {now : Int} {d : FinD} (h : ¬ finHP now d) : Ea now d = false := by unfold Ea; rw [decide_eq_false h]; simp
theorem fin_no3 {now : Int} {d : FinD} (h : Ec d.2.2.2 = false) : Ea now d = false := by unfold Ea; rw [h]; simp
theorem fin_yes {now : Int} {d : FinD} (h1 : qdB d.1 = true) (h2 : finHP now d) (h3 : Ec d.2.2.2 = true) : Ea now d = true := by unfold Ea; rw [h1, decide_eq_true h2, h3]; rfl
def ActsTo (s : Yx) (l : List Ua) (k : Nat) : Prop := ∀ i, i < k → actB s (l.getD i Uh) = true ∧ (0 < i → (l.getD (i - 1) Uh).1.1 < (l.getD i Uh).1.1)
instance (s : Yx) (l : List Ua) (k : Nat) : Decidable (ActsTo s l k) := by unfold ActsTo; infer_instance
def actsB (s : Yx) (l : List Ua) : Bool := decide (ActsTo s l l.length)
theorem actsTo_zero (s : Yx) (l : List Ua) : ActsTo s l 0 := fun i hi => absurd hi (Nat.not_lt_zero i)
theorem actsTo_step {s : Yx} {l : List Ua} {k : Nat} (h : ActsTo s l k) (h1 : actB s (l.getD k Uh) = true) (h2 : 0 < k → (l.getD (k - 1) Uh).1.1 < (l.getD k Uh).1.1) : ActsTo s l (k + 1) := fun i hi => by
 by_cases e : i = k
 ·
  subst e; exact ⟨h1, h2⟩
 ·
  exact h i (by omega)
theorem acts_no {s : Yx} {l : List Ua} {k : Nat} (hk : k < l.length) (h : actB s (l.getD k Uh) = false ∨ (0 < k ∧ ¬ (l.getD (k - 1) Uh).1.1 < (l.getD k Uh).1.1)) : actsB s l = false := decide_eq_false fun g => by
 have g' := g k hk
 rcases h with h | ⟨h, h'⟩
 ·
  rw [h] at g'; cases g'.1
 ·
  exact h' (g'.2 h)
theorem acts_yes {s : Yx} {l : List Ua} (h : ActsTo s l l.length) : actsB s l = true := decide_eq_true h
def engHP (e : EngD) : Prop := (0 ≤ e.2.1 ∧ e.2.1 < e.1.1.length) ∧ e.2.2.2.1.length ≤ 8 ∧ (0 ≤ e.2.2.2.2.2.2 ∧ e.2.2.2.2.2.2 ≤ 100000) ∧ e.2.2.2.2.1.length ≤ 1000 ∧ e.2.2.2.2.2.1.length ≤ 1000
instance (e : EngD) : Decidable (engHP e) := by unfold engHP; infer_instance
def engB (e : EngD) : Bool := (Yb e.1.1 e.1.2 && (decide (engHP e) && Xd e.2.2.1)) && (actsB e.1 e.2.2.2.1 && (e.2.2.2.2.1.all (Ea e.1.2) && e.2.2.2.2.2.1.all Ve))
theorem eng_no1 {e : EngD} (h : Yb e.1.1 e.1.2 = false) : engB e = false := by unfold engB; rw [h]; rfl
theorem eng_no2 {e : EngD} (h : ¬ engHP e) : engB e = false := by unfold engB; rw [decide_eq_false h]; simp
theorem eng_no3 {e : EngD} (h : Xd e.2.2.1 = false) : engB e = false := by unfold engB; rw [h]; simp
theorem eng_no4 {e : EngD} (h : actsB e.1 e.2.2.2.1 = false) : engB e = false := by unfold engB; rw [h]; simp
theorem eng_no5 {e : EngD} (h : e.2.2.2.2.1.all (Ea e.1.2) = false) : engB e = false := by unfold engB; rw [h]; simp
theorem eng_no6 {e : EngD} (h : e.2.2.2.2.2.1.all Ve = false) : engB e = false := by unfold engB; rw [h]; simp
theorem eng_yes {e : EngD} (h1 : Yb e.1.1 e.1.2 = true) (h2 : engHP e) (h3 : Xd e.2.2.1 = true) (h4 : actsB e.1 e.2.2.2.1 = true) (h5 : e.2.2.2.2.1.all (Ea e.1.2) = true) (h6 : e.2.2.2.2.2.1.all Ve = true) : engB e = true := by
 unfold engB; rw [h1, decide_eq_true h2, h3, h4, h5, h6]; rfl
/- A new engine. -/
/- The active query with a number. -/
def hasA (id : Int) (a : Ua) : Bool := decide (a.1.1 = id)
def Uo (l : List Ua) (id : Int) : Int := if l.findIdx (hasA id) < l.length then (l.findIdx (hasA id) : Int) else -1
theorem findIdx_first {α : Type} {p : α → Bool} {l : List α} (d : α) {k : Nat} (hk : k < l.length) (h : ∀ i, i < k → p (l.getD i d) = false) (g : p (l.getD k d) = true) : l.findIdx p = k := by
 have e : ∀ j (hj : j < l.length), l.getD j d = l[j] := fun j hj => by simp [List.getD, hj]
 rw [List.findIdx_eq hk]
 rw [e k hk] at g
 exact ⟨g, fun j hj => by have := h j hj; rw [e j (by omega)] at this; exact this⟩
theorem findIdx_none {α : Type} {p : α → Bool} {l : List α} (d : α) (h : ∀ i, i < l.length → p (l.getD i d) = false) : l.findIdx p = l.length := by
 rw [List.findIdx_eq_length]
 intro x hx
 obtain ⟨i, hi, rfl⟩ := List.getElem_of_mem hx
 have := h i hi
 have e : l.getD i d = l[i] := by simp [List.getD, hi]
 rw [e] at this; exact this
theorem findA_at {l : List Ua} {id : Int} {k : Nat} (hk : k < l.length) (h : ∀ i, i < k → ¬ (l.getD i Uh).1.1 = id) (g : (l.getD k Uh).1.1 = id) : Uo l id = k := by
 have e := findIdx_first (p := hasA id) Uh hk (fun i hi => decide_eq_false (h i hi)) (decide_eq_true g)
 unfold Uo; rw [e, if_pos hk]
theorem findA_none {l : List Ua} {id : Int} (h : ∀ i, i < l.length → ¬ (l.getD i Uh).1.1 = id) : Uo l id = -1 := by
 have e := findIdx_none (p := hasA id) Uh (fun i hi => decide_eq_false (h i hi))
 unfold Uo; rw [e, if_neg (Nat.lt_irrefl _)]
theorem findA_lt {l : List Ua} {id : Int} (h : 0 ≤ Uo l id) : ∃ k : Nat, Uo l id = k ∧ k < l.length := by
 unfold Uo at h ⊢
 by_cases e : l.findIdx (hasA id) < l.length
 ·
  rw [if_pos e]; exact ⟨_, rfl, e⟩
 ·
  rw [if_neg e] at h; omega
/- Admission: the new query comes before the first with a greater number. -/
theorem take_step {α : Type} (d : α) {l : List α} {k : Nat} (hk : k < l.length) : l.take (k + 1) = l.take k ++ [l.getD k d] := by
 rw [List.take_succ_eq_append_getElem hk]; simp [List.getD, hk]
def limB (c : Int) : Bool := decide (0 ≤ c ∧ c ≤ 32)
def admitP (e : EngD) (q : QD) (c : Int) : Prop := engB e = true ∧ qdB q = true ∧ limB c = true ∧ Uo e.2.2.2.1 q.1 = -1 ∧ e.2.2.2.1.length < 8
instance (e : EngD) (q : QD) (c : Int) : Decidable (admitP e q c) := by unfold admitP; infer_instance
/- Cancellation, updates. -/
def Yj (l : List Ua) : List Int := l.map fun a => a.2.1
theorem timesL_len (l : List Ua) : (Yj l).length = l.length := by unfold Yj; simp
theorem timesL_step {l : List Ua} {k : Nat} (hk : k < l.length) : Yj (l.take (k + 1)) = Yj (l.take k) ++ [(l.getD k Uh).2.1] := by
 unfold Yj; rw [take_step Uh hk, List.map_append]; rfl
def recE (s : Yx) (l : List Ua) : Yx := (Xj s (Yj l)).1
def Ut (e : EngD) (id : Int) : EngD × Bool :=
 if engB e = true ∧ 0 ≤ Uo e.2.2.2.1 id then ((recE e.1 (e.2.2.2.1.eraseIdx (Uo e.2.2.2.1 id).toNat), e.2.1, e.2.2.1, e.2.2.2.1.eraseIdx (Uo e.2.2.2.1 id).toNat, e.2.2.2.2.1, e.2.2.2.2.2.1, e.2.2.2.2.2.2), true) else (e, false)
theorem cancel_yes {e : EngD} {id : Int} {k : Nat} (h : engB e = true) (g : Uo e.2.2.2.1 id = (k : Int)) : Ut e id = ((recE e.1 (e.2.2.2.1.eraseIdx k), e.2.1, e.2.2.1, e.2.2.2.1.eraseIdx k, e.2.2.2.2.1, e.2.2.2.2.2.1, e.2.2.2.2.2.2), true) := by
 unfold Ut; rw [if_pos ⟨h, by omega⟩, g]; rfl
theorem cancel_no1 {e : EngD} {id : Int} (h : engB e = false) : Ut e id = (e, false) := by
 unfold Ut; rw [if_neg (fun g => by rw [h] at g; cases g.1)]
theorem cancel_no2 {e : EngD} {id : Int} (h : Uo e.2.2.2.1 id < 0) : Ut e id = (e, false) := by
 unfold Ut; rw [if_neg (fun g => by have := g.2; omega)]
theorem slO_cap {α : Type} {T : Ty α} {e : TypeId} {w : World} {F : Nat → Prop} {a : Option Addr} {n cap : Nat} {xs : List α} (h : Kp e T w F (.slice a n cap) xs) : cap ≤ 9223372036854775807 := by
 obtain ⟨R, us, Fs, r1, _⟩ := h
 rcases r1.2 with ⟨hv, _⟩ | ⟨_, _, _, hv, _, _, _, hm, _⟩
 ·
  simp only [Ik] at hv; omega
 ·
  simp only [Ik] at hv; unfold maxLen at hm; omega
theorem slR_caps2 {α : Type} {T : Ty α} {w : World} {a : Option Addr} {n cap : Nat} {xs : List α} (h : Ko T w (.slice a n cap) xs) : xs.length ≤ cap := by
 rcases h with ⟨rfl, _⟩ | ⟨b, off, c, us, hv, hc, _⟩
 ·
  exact Ij _
 ·
  simp only [Ik] at hv; omega
theorem act_at {w : World} {v : Value} {l : List Ua} (h : Ko Ji w v l) {k : Nat} (hk : k < l.length) :
  ∃ (b off cap : Nat) (p2 : Option Addr) (c2 : Nat) (p3 : Option Addr) (c3 : Nat) (p5 : Option Addr) (c5 : Nat) (p9 : Option Addr) (c9 : Nat), v = .slice (some ⟨b, off, none⟩) l.length cap ∧ b < w.heap.size ∧ w.cell? ⟨b, off + k * 10, none⟩ = some (.int .i64 (l.getD k Uh).1.1) ∧ w.cell? ⟨b, off + k * 10 + 1, none⟩ = some (.int .i64 (l.getD k Uh).1.2.1) ∧ w.cell? ⟨b, off + k * 10 + 2, none⟩ = some (.slice p2 (l.getD k Uh).1.2.2.1.length c2) ∧ w.cell? ⟨b, off + k * 10 + 3, none⟩ = some (.slice p3 (l.getD k Uh).1.2.2.2.length c3) ∧ w.cell? ⟨b, off + k * 10 + 4, none⟩ = some (.int .i64 (l.getD k Uh).2.1) ∧ w.cell? ⟨b, off + k * 10 + 5, none⟩ = some (.slice p5 (l.getD k Uh).2.2.1.length c5) ∧ w.cell? ⟨b, off + k * 10 + 6, none⟩ = some (.int .i64 (l.getD k Uh).2.2.2.1) ∧ w.cell? ⟨b, off + k * 10 + 7, none⟩ = some (.int .i64 (l.getD k Uh).2.2.2.2.1) ∧ w.cell? ⟨b, off + k * 10 + 8, none⟩ = some (.int .i64 (l.getD k Uh).2.2.2.2.2.1) ∧ w.cell? ⟨b, off + k * 10 + 9, none⟩ = some (.slice p9 (l.getD k Uh).2.2.2.2.2.2.length c9) ∧ Ko Jk w (.slice p2 (l.getD k Uh).1.2.2.1.length c2) (l.getD k Uh).1.2.2.1 ∧ Ko Je w (.slice p3 (l.getD k Uh).1.2.2.2.length c3) (l.getD k Uh).1.2.2.2 ∧ Ko Je w (.slice p5 (l.getD k Uh).2.2.1.length c5) (l.getD k Uh).2.2.1 ∧ Ko Ke w (.slice p9 (l.getD k Uh).2.2.2.2.2.2.length c9) (l.getD k Uh).2.2.2.2.2.2 := by
 obtain ⟨b, off, cap, cs, hv, hb, hc, hR⟩ := Ku h hk
 change Ji.R w cs (l.getD k Uh) at hR
 generalize l.getD k Uh = r at *
 obtain ⟨⟨a0, a1, x2, x3⟩, a4, x5, a6, a7, a8, x9⟩ := r
 obtain ⟨v2, v3, v5, v9, rfl, h2, h3, h5, h9⟩ := tActive_R hR
 obtain ⟨p2, c2, rfl⟩ := Jl h2
 obtain ⟨p3, c3, rfl⟩ := Jl h3
 obtain ⟨p5, c5, rfl⟩ := Jl h5
 obtain ⟨p9, c9, rfl⟩ := Jl h9
 exact ⟨b, off, cap, p2, c2, p3, c3, p5, c5, p9, c9, hv, hb, hc 0 (by decide), hc 1 (by decide), hc 2 (by decide), hc 3 (by decide), hc 4 (by decide), hc 5 (by decide), hc 6 (by decide), hc 7 (by decide), hc 8 (by decide), hc 9 (by decide), h2, h3, h5, h9⟩
theorem fin_at {w : World} {v : Value} {l : List FinD} (h : Ko Jg w v l) {k : Nat} (hk : k < l.length) :
  ∃ (b off cap : Nat) (p2 : Option Addr) (c2 : Nat) (p3 : Option Addr) (c3 : Nat) (p6 : Option Addr) (c6 : Nat), v = .slice (some ⟨b, off, none⟩) l.length cap ∧ b < w.heap.size ∧ w.cell? ⟨b, off + k * 7, none⟩ = some (.int .i64 (l.getD k f0D).1.1) ∧ w.cell? ⟨b, off + k * 7 + 1, none⟩ = some (.int .i64 (l.getD k f0D).1.2.1) ∧ w.cell? ⟨b, off + k * 7 + 2, none⟩ = some (.slice p2 (l.getD k f0D).1.2.2.1.length c2) ∧ w.cell? ⟨b, off + k * 7 + 3, none⟩ = some (.slice p3 (l.getD k f0D).1.2.2.2.length c3) ∧ w.cell? ⟨b, off + k * 7 + 4, none⟩ = some (.int .i64 (l.getD k f0D).2.1) ∧ w.cell? ⟨b, off + k * 7 + 5, none⟩ = some (.int .i64 (l.getD k f0D).2.2.1) ∧ w.cell? ⟨b, off + k * 7 + 6, none⟩ = some (.slice p6 (l.getD k f0D).2.2.2.length c6) ∧ Ko Jk w (.slice p2 (l.getD k f0D).1.2.2.1.length c2) (l.getD k f0D).1.2.2.1 ∧ Ko Je w (.slice p3 (l.getD k f0D).1.2.2.2.length c3) (l.getD k f0D).1.2.2.2 ∧ Ko Ke w (.slice p6 (l.getD k f0D).2.2.2.length c6) (l.getD k f0D).2.2.2 := by
 obtain ⟨b, off, cap, cs, hv, hb, hc, hR⟩ := Ku h hk
 change Jg.R w cs (l.getD k f0D) at hR
 generalize l.getD k f0D = r at *
 obtain ⟨⟨a0, a1, x2, x3⟩, a4, a5, x6⟩ := r
 obtain ⟨v2, v3, v6, rfl, h2, h3, h6⟩ := tFinished_R hR
 obtain ⟨p2, c2, rfl⟩ := Jl h2
 obtain ⟨p3, c3, rfl⟩ := Jl h3
 obtain ⟨p6, c6, rfl⟩ := Jl h6
 exact ⟨b, off, cap, p2, c2, p3, c3, p6, c6, hv, hb, hc 0 (by decide), hc 1 (by decide), hc 2 (by decide), hc 3 (by decide), hc 4 (by decide), hc 5 (by decide), hc 6 (by decide), h2, h3, h6⟩
theorem chg_at {w : World} {v : Value} {l : List Xu} (h : Ko Jo w v l) {k : Nat} (hk : k < l.length) :
  ∃ (b off cap : Nat) (p2 : Option Addr) (c2 : Nat) (p3 : Option Addr) (c3 : Nat) (p4 : Option Addr) (c4 : Nat), v = .slice (some ⟨b, off, none⟩) l.length cap ∧ b < w.heap.size ∧ w.cell? ⟨b, off + k * 5, none⟩ = some (.int .i64 (l.getD k x0D).1) ∧ w.cell? ⟨b, off + k * 5 + 1, none⟩ = some (.int .i64 (l.getD k x0D).2.1) ∧ w.cell? ⟨b, off + k * 5 + 2, none⟩ = some (.slice p2 (l.getD k x0D).2.2.1.length c2) ∧ w.cell? ⟨b, off + k * 5 + 3, none⟩ = some (.slice p3 (l.getD k x0D).2.2.2.1.length c3) ∧ w.cell? ⟨b, off + k * 5 + 4, none⟩ = some (.slice p4 (l.getD k x0D).2.2.2.2.length c4) ∧ Ko Je w (.slice p2 (l.getD k x0D).2.2.1.length c2) (l.getD k x0D).2.2.1 ∧ Ko Je w (.slice p3 (l.getD k x0D).2.2.2.1.length c3) (l.getD k x0D).2.2.2.1 ∧ Ko Je w (.slice p4 (l.getD k x0D).2.2.2.2.length c4) (l.getD k x0D).2.2.2.2 := by
 obtain ⟨b, off, cap, cs, hv, hb, hc, hR⟩ := Ku h hk
 change Jo.R w cs (l.getD k x0D) at hR
 generalize l.getD k x0D = r at *
 obtain ⟨a0, a1, x2, x3, x4⟩ := r
 obtain ⟨v2, v3, v4, rfl, h2, h3, h4⟩ := tCharge_R hR
 obtain ⟨p2, c2, rfl⟩ := Jl h2
 obtain ⟨p3, c3, rfl⟩ := Jl h3
 obtain ⟨p4, c4, rfl⟩ := Jl h4
 exact ⟨b, off, cap, p2, c2, p3, c3, p4, c4, hv, hb, hc 0 (by decide), hc 1 (by decide), hc 2 (by decide), hc 3 (by decide), hc 4 (by decide), h2, h3, h4⟩
/-- An engine of the call's own, and whether it is one. -/
def FreshEB (w : World) (r : EngD × Bool) (e : Ending) (w' : World) : Prop := ∃ (g0 : List Value) (G0 : Nat → Prop), e = .returned (.tuple #[.agg g0.toArray, .bool r.2]) ∧ Kf.O w' G0 g0 r.1 ∧ (∀ b, G0 b → w.heap.size ≤ b) ∧ Below w w w'
theorem ret_n {a b : Int} (h : a = b) : Ending.returned (.int .i64 a) = .returned (.int .i64 b) := by rw [h]
theorem slR_conds {w : World} {v : Value} {cs : List Ul} (h : Ko Jk w v cs) : CondsR w v cs := by
 rcases h with h | ⟨b, off, cap, us, h1, h2, h3, h4⟩
 ·
  exact Or.inl h
 ·
  refine Or.inr ⟨b, off, cap, h1, h2, h3, fun j hj => ?_⟩
  obtain ⟨hc, hR⟩ := h4 j hj
  have e := tCond_R (a0 := (cs.getD j (0, 0, 0)).1) (a1 := (cs.getD j (0, 0, 0)).2.1) (a2 := (cs.getD j (0, 0, 0)).2.2) hR
  have c0 := hc 0 (by decide); have c1 := hc 1 (by decide); have c2 := hc 2 (by decide)
  simp only [e] at c0 c1 c2
  exact ⟨c0, c1, c2⟩
set_option maxHeartbeats 4000000 in
theorem specVisible (id born died t : Int) (vv : Value) (w : World) :
  Calls Tryz.prog 219 #[.agg #[.int .i64 id, vv, .int .i64 born, .int .i64 died], .int .i64 t] w fun e w' => e = .returned (.bool (decide (Uz born died t))) ∧ Below w w w' := by
 have hb : Below w w (w.alloc (.cells #[.int .i64 id, vv, .int .i64 born, .int .i64 died] 212)) := (Il _ w).alloc (Ii _) _
 by_cases h1 : born ≤ t
 ·
  by_cases h2 : died = -1
  ·
   have HD : Hid (decide (Uz born died t) = true) := Lib.hid (decide_eq_true ⟨h1, Or.inl h2⟩)
   have e2 : (died == -1) = true := by simp [h2]
   clear h2
   rw [HD.out]
   go_enter Tryz.func219, Tryz.ntmps219
   go_wp2
   go_ret
   exact ⟨rfl, hb⟩
  ·
   have e2 : (died == -1) = false := by simp [h2]
   by_cases h3 : t < died
   ·
    have HD : Hid (decide (Uz born died t) = true) := Lib.hid (decide_eq_true ⟨h1, Or.inr h3⟩)
    clear h2
    rw [HD.out]
    go_enter Tryz.func219, Tryz.ntmps219
    go_wp2
    go_ret
    exact ⟨Jy (by simp [h3]), hb⟩
   ·
    have HD : Hid (decide (Uz born died t) = false) := Lib.hid (decide_eq_false (fun g => by unfold Uz at g; omega))
    have e3 : decide (t < died) = false := decide_eq_false h3
    clear h2
    rw [HD.out]
    go_enter Tryz.func219, Tryz.ntmps219
    go_wp2
    go_ret
    exact ⟨Jy (by simp [h3]), hb⟩
 ·
  have HD : Hid (decide (Uz born died t) = false) := Lib.hid (decide_eq_false (fun g => h1 g.1))
  rw [HD.out]
  go_enter Tryz.func219, Tryz.ntmps219
  go_wp2
  go_ret
  exact ⟨rfl, hb⟩
theorem verR_at {w : World} {v : Value} {l : List Kj} (h : Ko Jh w v l) {k : Nat} (hk : k < l.length) :
  ∃ (b off cap : Nat) (a : Option Addr) (c : Nat), v = .slice (some ⟨b, off, none⟩) l.length cap ∧ b < w.heap.size ∧
   w.cell? ⟨b, off + k * 4, none⟩ = some (.int .i64 (l.getD k Uq).1) ∧ w.cell? ⟨b, off + k * 4 + 1, none⟩ = some (.slice a (l.getD k Uq).2.1.length c) ∧
   w.cell? ⟨b, off + k * 4 + 2, none⟩ = some (.int .i64 (l.getD k Uq).2.2.1) ∧ w.cell? ⟨b, off + k * 4 + 3, none⟩ = some (.int .i64 (l.getD k Uq).2.2.2) ∧
   Uc w (.slice a (l.getD k Uq).2.1.length c) (l.getD k Uq).2.1 := by
 obtain ⟨b, off, cap, cs, hv, hb, hc, hR⟩ := Ku h hk
 change Jh.R w cs (l.getD k Uq) at hR
 generalize l.getD k Uq = r at *
 obtain ⟨i, xs, bo, di⟩ := r
 obtain ⟨v1, rfl, h1⟩ := tVersion_R hR
 obtain ⟨a, c, rfl⟩ := Jl h1
 exact ⟨b, off, cap, a, c, hv, hb, hc 0 (by decide), hc 1 (by decide), hc 2 (by decide), hc 3 (by decide), Yd h1⟩
theorem one_Version : OneC Jh := fun {w cs x} h u hu => by
 obtain ⟨i, xs, bo, di⟩ := x
 obtain ⟨v1, rfl, h1⟩ := tVersion_R h
 obtain ⟨a, c, rfl⟩ := Jl h1
 simp at hu
 rcases hu with rfl | rfl | rfl | rfl <;> rfl
theorem info_T_Version : Yn Jh 212 (.agg #[Ja, (), Ja, Ja]) := Yv (by kernel_rfl)
theorem Ew : Yn (Ub 4) 212 (.agg #[Ja, (), Ja, Ja]) := Yv (by kernel_rfl)
theorem zL_sum {α : Type} (T : Ty α) (xs : List α) : zL T xs = xs.length + (xs.map T.sz).sum := by unfold zL zTo sumN; rw [List.take_length]
theorem ver_sz (v : Kj) : Jh.sz v = v.2.1.length := by
 obtain ⟨i, xs, bo, di⟩ := v
 rw [tVersion_sz, zL_ints]
theorem zL_all (ss : List (List Kj)) : ss.length + zL Jh ss.flatten = zL Jd ss := by
 rw [zL_sum Jd, zL_sum Jh]
 congr 1
 induction ss with
 | nil => rfl
 | cons s ss ih =>
  rw [List.flatten_cons, List.length_append, List.map_append, List.sum_append, List.map_cons, List.sum_cons, ← ih]
  have e : Jd.sz s = s.length + (s.map Jh.sz).sum := zL_sum Jh s
  rw [e]; omega
theorem zL_seg {ss : List (List Kj)} {k : Nat} (hk : k < ss.length) : zL Jh (ss.getD k []) ≤ zL Jd ss := Vj (T := Jd) (Ii _) hk
theorem ver_len {l : List Kj} (hs : zL Jh l ≤ 1048576) {k : Nat} (hk : k < l.length) : (l.getD k Uq).2.1.length ≤ 1048576 := by
 have := Vj (T := Jh) hs hk
 rw [ver_sz] at this
 exact this
set_option maxHeartbeats 8000000 in
theorem specVersion (id born died now : Int) (vv : Value) (xs : List Int) (w : World) (h : Uc w vv xs) (hn : xs.length ≤ 1048576) (hw : now ≤ 100000) :
  Calls Tryz.prog 185 #[.agg #[.int .i64 id, vv, .int .i64 born, .int .i64 died], .int .i64 now] w fun e w' => e = .returned (.bool (verB (id, xs, born, died) now)) ∧ Below w w w' := by
 have HR := zh (fun W g => specIsRow id vv xs W g hn)
 have H := zh h
 clear hn
 obtain ⟨va, vc, rfl⟩ := Yg h
 have d0 := zh (show Below w w (w.alloc (.cells #[.int .i64 id, .slice va xs.length vc, .int .i64 born, .int .i64 died] 212)) from (Il _ _).alloc (Ii _) _)
 have B0 : Hid ((w.alloc (.cells #[.int .i64 id, .slice va xs.length vc, .int .i64 born, .int .i64 died] 212)).heap[w.heap.size]? = some (.cells #[.int .i64 id, .slice va xs.length vc, .int .i64 born, .int .i64 died] 212 (0, 0))) := zh (Ic w _)
 have Y0 : Hid (w.heap.size < (w.alloc (.cells #[.int .i64 id, .slice va xs.length vc, .int .i64 born, .int .i64 died] 212)).heap.size) := zh (by simp [Ie])
 have HV : Hid (∀ r l, Ui (id, xs) = r → decide (Uj born died now) = l → verB (id, xs, born, died) now = (r && l)) := zh (fun r l h1 h2 => by unfold verB; rw [h1]; show (r && decide (Uj born died now)) = _; rw [h2])
 clear h
 cases hr : Ui (id, xs) with
 | false =>
  rw [hr] at HR
  rw [HV.out _ _ hr rfl, Bool.false_and]
  clear hr HV
  go_enter Tryz.func185, Tryz.ntmps185
  go_wp2_with fail
  generalize w.alloc (.cells #[.int .i64 id, .slice va xs.length vc, .int .i64 born, .int .i64 died] 212) = W at *
  refine (HR.out W (Kx H.out d0.out)).mono ?_
  rintro e w1 ⟨rfl, b1⟩
  have k0 := (b1.block w.heap.size Y0.out).trans B0.out
  have b2 := d0.out.trans (b1.mono d0.out.size)
  go_wp2
  go_ret
  exact ⟨rfl, b2⟩
 | true =>
  rw [hr] at HR
  have HV2 := zh (fun l => HV.out _ l hr)
  clear hr HV
  by_cases h1 : 0 ≤ born ∧ born ≤ now
  ·
   obtain ⟨h1a, h1b⟩ := h1
   by_cases h2 : died = -1
   ·
    have hl : decide (Uj born died now) = true := decide_eq_true ⟨h1a, h1b, Or.inl h2⟩
    rw [HV2.out _ hl]
    have e2 : (died == -1) = true := by simp [h2]
    clear hl h2
    go_enter Tryz.func185, Tryz.ntmps185
    go_wp2_with fail
    generalize w.alloc (.cells #[.int .i64 id, .slice va xs.length vc, .int .i64 born, .int .i64 died] 212) = W at *
    refine (HR.out W (Kx H.out d0.out)).mono ?_
    rintro e w1 ⟨rfl, b1⟩
    have k0 := (b1.block w.heap.size Y0.out).trans B0.out
    have b2 := d0.out.trans (b1.mono d0.out.size)
    have p0 := cr 0 (Value.int .i64 id) k0
    have p1 := cr 1 (Value.slice va xs.length vc) k0
    have p2 := cr 2 (Value.int .i64 born) k0
    have p3 := cr 3 (Value.int .i64 died) k0
    clear k0
    go_wp2_with fail
    refine (Xe born 0 now _ h1a h1b).mono ?_
    rintro e wx ⟨rfl, rfl⟩
    go_wp2
    go_ret
    exact ⟨rfl, b2⟩
   ·
    have e2 : (died == -1) = false := by simp [h2]
    by_cases h3 : born + 1 ≤ died ∧ died ≤ now
    ·
     have hl : decide (Uj born died now) = true := decide_eq_true ⟨h1a, h1b, Or.inr ⟨by omega, h3.2⟩⟩
     rw [HV2.out _ hl]
     have H3 := zh h3
     clear hl h2 h3
     go_enter Tryz.func185, Tryz.ntmps185
     go_wp2_with fail
     generalize w.alloc (.cells #[.int .i64 id, .slice va xs.length vc, .int .i64 born, .int .i64 died] 212) = W at *
     refine (HR.out W (Kx H.out d0.out)).mono ?_
     rintro e w1 ⟨rfl, b1⟩
     have k0 := (b1.block w.heap.size Y0.out).trans B0.out
     have b2 := d0.out.trans (b1.mono d0.out.size)
     have p0 := cr 0 (Value.int .i64 id) k0
     have p1 := cr 1 (Value.slice va xs.length vc) k0
     have p2 := cr 2 (Value.int .i64 born) k0
     have p3 := cr 3 (Value.int .i64 died) k0
     clear k0
     go_wp2_with fail
     refine (Xe born 0 now _ h1a h1b).mono ?_
     rintro e wx ⟨rfl, rfl⟩
     go_wp2_with fail
     refine (Xe died (born + 1) now _ H3.out.1 H3.out.2).mono ?_
     rintro e wx ⟨rfl, rfl⟩
     go_wp2
     go_ret
     exact ⟨rfl, b2⟩
    ·
     have hl : decide (Uj born died now) = false := decide_eq_false (fun g => by unfold Uj at g; omega)
     rw [HV2.out _ hl]
     have H3 := zh h3
     clear hl h2 h3
     go_enter Tryz.func185, Tryz.ntmps185
     go_wp2_with fail
     generalize w.alloc (.cells #[.int .i64 id, .slice va xs.length vc, .int .i64 born, .int .i64 died] 212) = W at *
     refine (HR.out W (Kx H.out d0.out)).mono ?_
     rintro e w1 ⟨rfl, b1⟩
     have k0 := (b1.block w.heap.size Y0.out).trans B0.out
     have b2 := d0.out.trans (b1.mono d0.out.size)
     have p0 := cr 0 (Value.int .i64 id) k0
     have p1 := cr 1 (Value.slice va xs.length vc) k0
     have p2 := cr 2 (Value.int .i64 born) k0
     have p3 := cr 3 (Value.int .i64 died) k0
     clear k0
     go_wp2_with fail
     refine (Xe born 0 now _ h1a h1b).mono ?_
     rintro e wx ⟨rfl, rfl⟩
     go_wp2_with fail
     refine (in_no died (born + 1) now _ H3.out).mono ?_
     rintro e wx ⟨rfl, rfl⟩
     go_wp2
     go_ret
     exact ⟨rfl, b2⟩
  ·
   have hl : decide (Uj born died now) = false := decide_eq_false (fun g => h1 ⟨g.1, g.2.1⟩)
   rw [HV2.out _ hl]
   have H1 := zh h1
   clear hl h1
   go_enter Tryz.func185, Tryz.ntmps185
   go_wp2_with fail
   generalize w.alloc (.cells #[.int .i64 id, .slice va xs.length vc, .int .i64 born, .int .i64 died] 212) = W at *
   refine (HR.out W (Kx H.out d0.out)).mono ?_
   rintro e w1 ⟨rfl, b1⟩
   have k0 := (b1.block w.heap.size Y0.out).trans B0.out
   have b2 := d0.out.trans (b1.mono d0.out.size)
   have p0 := cr 0 (Value.int .i64 id) k0
   have p1 := cr 1 (Value.slice va xs.length vc) k0
   have p2 := cr 2 (Value.int .i64 born) k0
   have p3 := cr 3 (Value.int .i64 died) k0
   clear k0
   go_wp2_with fail
   refine (in_no born 0 now _ H1.out).mono ?_
   rintro e wx ⟨rfl, rfl⟩
   go_wp2
   go_ret
   exact ⟨rfl, b2⟩
set_option maxHeartbeats 8000000 in
theorem specApart (i1 b1 d1 i2 b2 d2 : Int) (v1 v2 : Value) (w : World) :
  Calls Tryz.prog 186 #[.agg #[.int .i64 i1, v1, .int .i64 b1, .int .i64 d1], .agg #[.int .i64 i2, v2, .int .i64 b2, .int .i64 d2]] w fun e w' => e = .returned (.bool (decide (Ug i1 b1 d1 i2 b2 d2))) ∧ Below w w w' := by
 have hb : Below w w ((w.alloc (.cells #[.int .i64 i1, v1, .int .i64 b1, .int .i64 d1] 212)).alloc (.cells #[.int .i64 i2, v2, .int .i64 b2, .int .i64 d2] 212)) := ((Il _ w).alloc (Ii _) _).alloc (by simp) _
 by_cases q1 : i1 = i2
 ·
  have e1 : (i1 != i2) = false := by simp [q1]
  have Q1 := zh q1
  clear q1
  by_cases q2 : d1 = -1
  ·
   have e2 : (d1 != -1) = false := by simp [q2]
   have Q2 := zh q2
   clear q2
   by_cases q4 : d2 = -1
   ·
    have e4 : (d2 != -1) = false := by simp [q4]
    have HD : Hid (decide (Ug i1 b1 d1 i2 b2 d2) = false) := zh (by have h1 := Q1.out; have h2 := Q2.out; exact decide_eq_false (fun g => by unfold Ug at g; omega))
    rw [HD.out]
    clear q4
    go_enter Tryz.func186, Tryz.ntmps186
    go_wp2
    go_ret
    exact ⟨Jy (by first | rfl | simp [*]), hb⟩
   ·
    have e4 : (d2 != -1) = true := by simp [q4]
    by_cases q5 : d2 ≤ b1
    ·
     have q6 : d2 ≤ b1 := q5
     have HD : Hid (decide (Ug i1 b1 d1 i2 b2 d2) = true) := zh (decide_eq_true (Or.inr (Or.inr ⟨q4, q5⟩)))
     rw [HD.out]
     clear q4
     go_enter Tryz.func186, Tryz.ntmps186
     go_wp2
     go_ret
     exact ⟨Jy (by first | rfl | simp [*]), hb⟩
    ·
     have e5 : decide (d2 ≤ b1) = false := decide_eq_false q5
     have HD : Hid (decide (Ug i1 b1 d1 i2 b2 d2) = false) := zh (by have h1 := Q1.out; have h2 := Q2.out; exact decide_eq_false (fun g => by unfold Ug at g; omega))
     rw [HD.out]
     clear q4
     go_enter Tryz.func186, Tryz.ntmps186
     go_wp2
     go_ret
     exact ⟨Jy (by first | rfl | simp [*]), hb⟩
  ·
   have e2 : (d1 != -1) = true := by simp [q2]
   have Q2 := zh q2
   clear q2
   by_cases q3 : d1 ≤ b2
   ·
    have q6 : d1 ≤ b2 := q3
    have HD : Hid (decide (Ug i1 b1 d1 i2 b2 d2) = true) := zh (decide_eq_true (Or.inr (Or.inl ⟨Q2.out, q3⟩)))
    rw [HD.out]
    go_enter Tryz.func186, Tryz.ntmps186
    go_wp2
    go_ret
    exact ⟨Jy (by first | rfl | simp [*]), hb⟩
   ·
    have e3 : decide (d1 ≤ b2) = false := decide_eq_false q3
    have Q3 := zh q3
    by_cases q4 : d2 = -1
    ·
     have e4 : (d2 != -1) = false := by simp [q4]
     have HD : Hid (decide (Ug i1 b1 d1 i2 b2 d2) = false) := zh (by have h1 := Q1.out; have h2 := Q2.out; have h3 := Q3.out; exact decide_eq_false (fun g => by unfold Ug at g; omega))
     rw [HD.out]
     clear q4
     go_enter Tryz.func186, Tryz.ntmps186
     go_wp2
     go_ret
     exact ⟨Jy (by first | rfl | simp [*]), hb⟩
    ·
     have e4 : (d2 != -1) = true := by simp [q4]
     by_cases q5 : d2 ≤ b1
     ·
      have q6 : d2 ≤ b1 := q5
      have HD : Hid (decide (Ug i1 b1 d1 i2 b2 d2) = true) := zh (decide_eq_true (Or.inr (Or.inr ⟨q4, q5⟩)))
      rw [HD.out]
      clear q4
      go_enter Tryz.func186, Tryz.ntmps186
      go_wp2
      go_ret
      exact ⟨Jy (by first | rfl | simp [*]), hb⟩
     ·
      have e5 : decide (d2 ≤ b1) = false := decide_eq_false q5
      have HD : Hid (decide (Ug i1 b1 d1 i2 b2 d2) = false) := zh (by have h1 := Q1.out; have h2 := Q2.out; have h3 := Q3.out; exact decide_eq_false (fun g => by unfold Ug at g; omega))
      rw [HD.out]
      clear q4
      go_enter Tryz.func186, Tryz.ntmps186
      go_wp2
      go_ret
      exact ⟨Jy (by first | rfl | simp [*]), hb⟩
 ·
  have e1 : (i1 != i2) = true := by simp [q1]
  have HD : Hid (decide (Ug i1 b1 d1 i2 b2 d2) = true) := zh (decide_eq_true (Or.inl q1))
  rw [HD.out]
  clear q1
  go_enter Tryz.func186, Tryz.ntmps186
  go_wp2
  go_ret
  exact ⟨Jy (by first | rfl | simp [*]), hb⟩
/-- The answer: a slice of the call's own whose cells read as these versions. -/
def AllV (w : World) (l : List Kj) (e : Ending) (w' : World) : Prop := ∃ (v : Value) (L : List (List Value)), e = .returned v ∧ Kp 212 (Ub 4) w' (Kw w) v L ∧ Sh Jh w L l ∧ Below w w w'
set_option maxHeartbeats 8000000 in
theorem specL7All (sv : Value) (ss : List (List Kj)) (now : Int) (w : World) (h : Ko Jd w sv ss) (hs : zL Jd ss ≤ 1048576) :
  Calls Tryz.prog 184 #[.agg #[sv, .int .i64 now]] w (AllV w ss.flatten) := by
 have H := zh h
 have HS := zh hs
 have hlen := Jz hs
 have HF : Hid (ss.flatten.length ≤ 1048576) := zh (by have h1 := zL_all ss; have h2 := Jz (T := Jh) (xs := ss.flatten) (M := 1048576) (by omega); omega)
 obtain ⟨a, cap, rfl⟩ := Jl h
 clear h hs
 have d0 := zh (show Below w w ((w.alloc (.cells #[.slice a ss.length cap, .int .i64 now] 35)).alloc (.cells #[] 212)) from ((Il _ _).alloc (Ii _) _).alloc (by simp) _)
 have B0 : Hid (((w.alloc (.cells #[.slice a ss.length cap, .int .i64 now] 35)).alloc (.cells #[] 212)).heap[w.heap.size]? = some (.cells #[.slice a ss.length cap, .int .i64 now] 35 (0, 0))) := zh (by rw [Below.heap_alloc _ _ _ (by simp)]; exact Ic w _)
 have Y0 : Hid (w.heap.size < ((w.alloc (.cells #[.slice a ss.length cap, .int .i64 now] 35)).alloc (.cells #[] 212)).heap.size) := zh (by simp [Ie]; omega)
 have P0 : Hid (Kp 212 (Ub 4) ((w.alloc (.cells #[.slice a ss.length cap, .int .i64 now] 35)).alloc (.cells #[] 212)) (fun b => w.heap.size < b) (.slice (some ⟨w.heap.size + 1, 0, none⟩) 0 0) []) := zh (by have := Ye (T := Ub 4) (w.alloc (.cells #[.slice a ss.length cap, .int .i64 now] 35)) 212 (fun b => w.heap.size < b) (by simp [Ie]); simpa only [Ie] using this)
 go_enter Tryz.func184, Tryz.ntmps184
 go_wp2
 go_loopw [3, 4] (fun o i wr => ∃ (k : Nat) (L : List (List Value)), k ≤ ss.length ∧ i = .int .i64 k ∧ Kp 212 (Ub 4) wr (fun b => w.heap.size < b) o L ∧ Hid (Sh Jh w L (cat ss k)) ∧ wr.heap[w.heap.size]? = some (.cells #[.slice a ss.length cap, .int .i64 now] 35 (0, 0)) ∧ Below w w wr ∧ w.heap.size < wr.heap.size) (fun _ i _ => ss.length - (intOf i).toNat)
 case atStart => exact ⟨0, [], Ij _, rfl, P0.out, zh (by rw [cat_zero]; exact sh_nil w), B0.out, d0.out, Y0.out⟩
 case round =>
  obtain ⟨k, L, hk, rfl, hown, hsh, hbox, hbel, hy⟩ := hrel
  clear d0 B0 Y0 P0
  obtain ⟨oa, oc, rfl⟩ := Ju hown
  have c0 := cr 0 (Value.slice a ss.length cap) hbox
  by_cases hlt : k < ss.length
  ·
   obtain ⟨b, off, cap2, cs, hv, hbl, hcs, hR⟩ := Ku H.out hlt
   simp only [Ik] at hv
   obtain ⟨rfl, _, rfl⟩ := hv
   obtain ⟨u, rfl, hU⟩ := hR
   have p0 : w.cell? ⟨b, off + k, none⟩ = some u := by have := hcs 0 Nat.one_pos; rw [show Jd.n = 1 from rfl, Nat.mul_one, Nat.add_zero] at this; exact this
   have hel := (hbel.cell (p := ⟨b, off + k, none⟩) hbl).trans p0
   obtain ⟨M, hM, hSh⟩ := slR_raw Jp one_Version hU
   have HM := zh (Jb (Vs (by decide)) hM hbel)
   have HC : Hid (Sh Jh w (L ++ M) (cat ss (k + 1))) := zh (by rw [← cat_step hlt]; exact sh_app hsh.out hSh)
   have HL : Hid (L.length + M.length ≤ 2097152) := zh (by have h1 := sh_len HC.out; have h2 := cat_le ss (k + 1); have h3 := HF.out; rw [List.length_append] at h1; omega)
   have i1 : (0 : Int) ≤ (k : Int) := by omega
   have i2 : (k : Int) < (ss.length : Int) := by omega
   obtain ⟨ua, uc, hu⟩ := Jl hU
   have HOWN := zh hown
   have HB := zh hbox
   have HY := zh hy
   have HD := zh hbel
   have HUV : Hid (∃ m, u = .slice ua m uc) := zh ⟨_, hu⟩
   clear hcs p0 hU hM hSh hsh hown hbox hu hbel hy
   obtain ⟨m, rfl⟩ := HUV.out
   clear HUV
   go_wp2_with (at_builtin; refine Xt (Vs (by decide)) (flat_raw 4) Ew Tryz.underlying213 rfl rfl (.tmp 13) (.tmp 18) rfl (fun b => w.heap.size < b) (fun b => w.heap.size < b) _ _ L M rfl rfl HOWN.out HM.out (fun b h => h) HY.out HL.out ?_)
   intro v' w4 ho4 t4
   have hb4 := (t4.block w.heap.size HY.out (fun h => Nat.lt_irrefl _ h)).trans HB.out
   have hy4 := Nat.lt_of_lt_of_le HY.out t4.size
   have hd4 := Js HD.out t4 (fun b h => Nat.le_of_lt h) (Nat.le_of_lt HY.out)
   clear HOWN HM HL HB HY HD t4 c0 hel
   go_wp2
   go_roundw
   case rel => exact ⟨k + 1, _, by omega, by go_num, ho4, HC, hb4, hd4, hy4⟩
   case measure => simp [intOf]; omega
  ·
   obtain rfl : k = ss.length := by omega
   have HC : Hid (Sh Jh w L ss.flatten) := zh (by rw [← cat_all]; exact hsh.out)
   clear hsh
   go_wp2
   go_ret
   exact ⟨_, L, rfl, Ky hown (fun b h => Nat.le_of_lt h), HC.out, hbel⟩
set_option maxHeartbeats 8000000 in
theorem specIsStore (sv : Value) (ss : List (List Kj)) (now : Int) (w : World) (h : Ko Jd w sv ss) (hs : zL Jd ss ≤ 1048576) :
  Calls Tryz.prog 121 #[.agg #[sv, .int .i64 now]] w (fun e w' => e = .returned (.bool (Yb ss now)) ∧ Below w w w') := by
 have hlen := Jz hs
 obtain ⟨a, cap, rfl⟩ := Jl h
 have HC := zh (fun W g => specL7All (.slice a ss.length cap) ss now W g hs)
 have HZF : Hid (zL Jh ss.flatten ≤ 1048576) := zh (by have := zL_all ss; omega)
 have H := zh h
 have HS := zh hs
 have d0 := zh (show Below w w (w.alloc (.cells #[.slice a ss.length cap, .int .i64 now] 35)) from (Il _ _).alloc (Ii _) _)
 have B0 : Hid ((w.alloc (.cells #[.slice a ss.length cap, .int .i64 now] 35)).heap[w.heap.size]? = some (.cells #[.slice a ss.length cap, .int .i64 now] 35 (0, 0))) := zh (Ic w _)
 have Y0 : Hid (w.heap.size < (w.alloc (.cells #[.slice a ss.length cap, .int .i64 now] 35)).heap.size) := zh (by simp [Ie])
 clear h hs
 by_cases hc : 1 ≤ ss.length ∧ ss.length ≤ 8
 rotate_left
 ·
  have HF := zh (store_no_count (now := now) hc)
  have HI := zh (fun W => in_no (ss.length : Int) 1 8 W (by omega))
  clear hc
  rw [HF.out]
  go_enter Tryz.func121, Tryz.ntmps121
  go_wp2_with fail
  refine (HI.out _).mono ?_
  rintro e wx ⟨rfl, rfl⟩
  go_wp2
  go_ret
  exact ⟨rfl, d0.out⟩
 have HI1 := zh (fun W => Xe (ss.length : Int) 1 8 W (by omega) (by omega))
 have HCN := zh hc
 by_cases hn : 0 ≤ now ∧ now ≤ 100000
 rotate_left
 ·
  have HF := zh (store_no_now (ss := ss) hn)
  have HI := zh (fun W => in_no now 0 100000 W hn)
  clear hn
  rw [HF.out]
  go_enter Tryz.func121, Tryz.ntmps121
  go_wp2_with fail
  refine (HI1.out _).mono ?_
  rintro e wx ⟨rfl, rfl⟩
  go_wp2_with fail
  refine (HI.out _).mono ?_
  rintro e wx ⟨rfl, rfl⟩
  go_wp2
  go_ret
  exact ⟨rfl, d0.out⟩
 have HI2 := zh (fun W => Xe now 0 100000 W hn.1 hn.2)
 have HNN := zh hn
 clear hc hn
 go_enter Tryz.func121, Tryz.ntmps121
 go_wp2_with fail
 refine (HI1.out _).mono ?_
 rintro e wx ⟨rfl, rfl⟩
 go_wp2_with fail
 refine (HI2.out _).mono ?_
 rintro e wx ⟨rfl, rfl⟩
 go_wp2
 generalize w.alloc (.cells #[.slice a ss.length cap, .int .i64 now] 35) = W at *
 have q0 := cr 0 (Value.slice a ss.length cap) B0.out
 have q1 := cr 1 (Value.int .i64 now) B0.out
 have G0 := zh q0
 have G1 := zh q1
 have HW := zh (Jb Jf H.out d0.out)
 clear q0 q1 B0
 go_loopw [3] (fun i wr => ∃ k : Nat, k ≤ ss.length ∧ i = .int .i64 k ∧ Hid (ShortP ss k) ∧ Below W W wr) (fun i _ => ss.length - (intOf i).toNat)
 case atStart => exact ⟨0, Ij _, rfl, zh (fun j hj => by omega), Il _ _⟩
 case round =>
  obtain ⟨k, hk, rfl, hsh, hbel⟩ := hrel
  have p0 := (hbel.cell (p := ⟨w, 0, none⟩) Y0.out).trans G0.out
  have p1 := (hbel.cell (p := ⟨w, 1, none⟩) Y0.out).trans G1.out
  by_cases hlt : k < ss.length
  ·
   have i1 : (0 : Int) ≤ (k : Int) := by omega
   have i2 : (k : Int) < (ss.length : Int) := by omega
   obtain ⟨b, off, cap', cs, hv, hbl, hcs, hR⟩ := Ku HW.out hlt
   simp only [Ik] at hv
   obtain ⟨rfl, _, rfl⟩ := hv
   obtain ⟨u, rfl, hU⟩ := hR
   change Ko Jh W u (ss.getD k []) at hU
   have pe : W.cell? ⟨b, off + k, none⟩ = some u := by have := hcs 0 Nat.one_pos; rw [show Jd.n = 1 from rfl, Nat.mul_one, Nat.add_zero] at this; exact this
   have he := (hbel.cell (p := ⟨b, off + k, none⟩) hbl).trans pe
   have HNO := zh (fun g => store_no_short (ss := ss) (now := now) hlt g)
   have HYS : Hid ((ss.getD k []).length ≤ 4 → ShortP ss (k + 1)) := zh (fun g j hj => by
    by_cases e : j = k
    ·
     rw [e]; exact g
    ·
     exact hsh.out j (by omega))
   have HML := zh (Jz (show zL Jh (ss.getD k []) ≤ 1048576 from Nat.le_trans (zL_seg hlt) HS.out))
   obtain ⟨ua, uc, rfl⟩ := Jl hU
   have HB := zh hbel
   clear hcs pe hU hsh hbel
   generalize (ss.getD k []).length = m at *
   by_cases hm : m ≤ 4
   ·
    have HY := zh (HYS.out hm)
    have hmi : ¬ (4 : Int) < (m : Int) := by omega
    clear HYS HNO
    go_wp2
    go_roundw
    case rel => exact ⟨k + 1, by omega, by go_num, HY, HB.out⟩
    case measure => simp [intOf]; omega
   ·
    have HF := zh (HNO.out hm)
    have hmi : (4 : Int) < (m : Int) := by omega
    clear HYS HNO
    go_wp2
    go_ret
    exact ⟨Jy HF.out.symm, d0.out.trans (HB.out.mono d0.out.size)⟩
  ·
   obtain rfl : k = ss.length := by omega
   have HSH := zh hsh.out
   clear hsh
   have HB := zh hbel
   clear hbel
   go_wp2_with fail
   refine (HC.out wr (Jb Jf HW.out HB.out)).mono ?_
   rintro e w1 ⟨v, L, rfl, hown, hshv, b1⟩
   have hVR := raw_reads (T := Jh) (by decide) hown (sh_below Jp hshv b1)
   obtain ⟨va, vc, rfl⟩ := Ju hown
   rw [sh_len hshv] at *
   have V := zh hVR
   have b2 := HB.out.trans (b1.mono HB.out.size)
   have D1 := zh (d0.out.trans (b2.mono d0.out.size))
   have CN := zh ((b2.cell (p := ⟨w, 1, none⟩) Y0.out).trans G1.out)
   have YN := zh (Nat.lt_of_lt_of_le Y0.out b2.size)
   have HFL := zh (Jz HZF.out)
   clear hVR hown hshv b1 b2 HB p0 p1 HW G0 G1
   have hfl := HFL.out
   obtain ⟨l, hl⟩ : ∃ l, l = ss.flatten := ⟨_, rfl⟩
   have HLL := zh hl
   rw [← hl] at V HFL hfl ⊢
   clear hl
   go_wp2
   go_loopw [5] (fun i wr => ∃ k : Nat, k ≤ l.length ∧ i = .int .i64 k ∧ Hid (VersP l now k) ∧ Below w1 w1 wr) (fun i _ => l.length - (intOf i).toNat)
   case atStart => exact ⟨0, Ij _, rfl, zh (fun j hj => by omega), Il _ _⟩
   case round =>
    obtain ⟨k, hk, rfl, hvs, hbel⟩ := hrel
    by_cases hlt : k < l.length
    ·
     have i1 : (0 : Int) ≤ (k : Int) := by omega
     have i2 : (k : Int) < (l.length : Int) := by omega
     obtain ⟨b, off, cap', xa, xc, hv, hbl, c0, c1, c2, c3, hx⟩ := verR_at V.out hlt
     simp only [Ik] at hv
     obtain ⟨rfl, _, rfl⟩ := hv
     have HXL := zh (ver_len (by rw [HLL.out]; exact HZF.out) hlt)
     have HNV : Hid (verB (l.getD k Uq) now = false → Yb ss now = false) := zh (fun g => store_no_ver (i := k) (by rw [← HLL.out]; exact hlt) (by rw [← HLL.out]; exact g))
     have HNA : Hid (∀ j, j < k → apartB (l.getD k Uq) (l.getD j Uq) = false → Yb ss now = false) := zh (fun j hj g => store_no_apart (i := k) (k := j) (by rw [← HLL.out]; exact hlt) hj (by rw [← HLL.out]; exact g))
     have HST : Hid (verB (l.getD k Uq) now = true → (∀ j, j < k → apartB (l.getD k Uq) (l.getD j Uq) = true) → VersP l now (k + 1)) := zh (fun g1 g2 => vers_step hvs.out g1 g2)
     have HRX : Hid (Uc w1 (.slice xa (l.getD k Uq).2.1.length xc) (l.getD k Uq).2.1) := zh hx
     obtain ⟨x, hxe⟩ : ∃ x, x = l.getD k Uq := ⟨_, rfl⟩
     rw [← hxe] at HXL HNV HNA HST HRX c0 c1 c2 c3
     obtain ⟨id, xs, born, died⟩ := x
     simp only at c0 c1 c2 c3
     have C0 := zh c0
     have C1 := zh c1
     have C2 := zh c2
     have C3 := zh c3
     have HBL := zh hbl
     have d := zh hbel
     clear hx hxe c0 c1 c2 c3 hbl hbel hvs
     cases hver : verB (id, xs, born, died) now with
     | false =>
      have HF := zh (HNV.out hver)
      have HCV := zh (fun W g => hver ▸ specVersion id born died now (.slice xa xs.length xc) xs W g HXL.out HNN.out.2)
      clear hver HNV HNA HST
      go_wp2
      have p_C0 := cx d C0 HBL
      have p_C1 := cx d C1 HBL
      have p_C2 := cx d C2 HBL
      have p_C3 := cx d C3 HBL
      have p_CN := cx d CN YN
      refine wp_region_held_drew (S := fun w' => w'.cell? ⟨b, off + k * 4, none⟩ = some (Value.int .i64 id) ∧ w'.cell? ⟨b, off + k * 4 + 1, none⟩ = some (Value.slice xa xs.length xc) ∧ w'.cell? ⟨b, off + k * 4 + 2, none⟩ = some (Value.int .i64 born) ∧ w'.cell? ⟨b, off + k * 4 + 3, none⟩ = some (Value.int .i64 died) ∧ w'.cell? ⟨w, 1, none⟩ = some (.int .i64 now)) (by kernel_rfl) ⟨p_C0, p_C1, p_C2, p_C3, p_CN⟩ (fun hHeld => ?_)
      clear p_C0 p_C1 p_C2 p_C3 p_CN
      have cdr : Below wr wr wr.drew := Kc (Il _ _)
      replace d := zD d cdr
      clear cdr
      refine tQ (i := 0) ?_
      try simp only [Act.put, lA, lB, lC]
      refine tQ (i := 1) ?_
      try simp only [Act.put, lA, lB, lC]
      refine tQ (i := 2) ?_
      try simp only [Act.put, lA, lB, lC]
      refine tQ (i := 3) ?_
      try simp only [Act.put, lA, lB, lC]
      refine tQ (i := 4) ?_
      try simp only [Act.put, lA, lB, lC]
      refine tQ (i := 5) ?_
      try simp only [Act.put, lA, lB, lC]
      refine rA 6 (fun K hK => ?_)
      go_simp
      refine (HCV.out (wr.drew) (Kx HRX.out d.out)).mono ?_
      rintro e w5 ⟨rfl, c5⟩
      replace d := zD d c5
      have Z_w5 := zh (show wr.heap.size ≤ w5.heap.size from c5.size)
      clear c5
      have p_C0 := cx d C0 HBL
      have p_C1 := cx d C1 HBL
      have p_C2 := cx d C2 HBL
      have p_C3 := cx d C3 HBL
      have p_CN := cx d CN YN
      refine hK.out _ _ ⟨p_C0, p_C1, p_C2, p_C3, p_CN⟩ (fun hHeld => ?_)
      clear p_C0 p_C1 p_C2 p_C3 p_CN
      clear hK K
      try simp only [Act.put, lA, lB, lC]
      refine tQ (i := 7) ?_
      try simp only [Act.put, lA, lB, lC]
      refine wpAnyH_done (by kernel_rfl) ?_ _
      clear hHeld
      go_wp2
      go_ret
      exact ⟨Jy HF.out.symm, D1.out.trans (d.out.mono D1.out.size)⟩
     | true =>
      have HCV := zh (fun W g => hver ▸ specVersion id born died now (.slice xa xs.length xc) xs W g HXL.out HNN.out.2)
      have HST2 := zh (HST.out hver)
      clear hver HNV HST
      go_wp2
      have p_C0 := cx d C0 HBL
      have p_C1 := cx d C1 HBL
      have p_C2 := cx d C2 HBL
      have p_C3 := cx d C3 HBL
      have p_CN := cx d CN YN
      refine wp_region_held_drew (S := fun w' => w'.cell? ⟨b, off + k * 4, none⟩ = some (Value.int .i64 id) ∧ w'.cell? ⟨b, off + k * 4 + 1, none⟩ = some (Value.slice xa xs.length xc) ∧ w'.cell? ⟨b, off + k * 4 + 2, none⟩ = some (Value.int .i64 born) ∧ w'.cell? ⟨b, off + k * 4 + 3, none⟩ = some (Value.int .i64 died) ∧ w'.cell? ⟨w, 1, none⟩ = some (.int .i64 now)) (by kernel_rfl) ⟨p_C0, p_C1, p_C2, p_C3, p_CN⟩ (fun hHeld => ?_)
      clear p_C0 p_C1 p_C2 p_C3 p_CN
      have cdr : Below wr wr wr.drew := Kc (Il _ _)
      replace d := zD d cdr
      clear cdr
      refine tQ (i := 0) ?_
      try simp only [Act.put, lA, lB, lC]
      refine tQ (i := 1) ?_
      try simp only [Act.put, lA, lB, lC]
      refine tQ (i := 2) ?_
      try simp only [Act.put, lA, lB, lC]
      refine tQ (i := 3) ?_
      try simp only [Act.put, lA, lB, lC]
      refine tQ (i := 4) ?_
      try simp only [Act.put, lA, lB, lC]
      refine tQ (i := 5) ?_
      try simp only [Act.put, lA, lB, lC]
      refine rA 6 (fun K hK => ?_)
      go_simp
      refine (HCV.out (wr.drew) (Kx HRX.out d.out)).mono ?_
      rintro e w5 ⟨rfl, c5⟩
      replace d := zD d c5
      have Z_w5 := zh (show wr.heap.size ≤ w5.heap.size from c5.size)
      clear c5
      have p_C0 := cx d C0 HBL
      have p_C1 := cx d C1 HBL
      have p_C2 := cx d C2 HBL
      have p_C3 := cx d C3 HBL
      have p_CN := cx d CN YN
      refine hK.out _ _ ⟨p_C0, p_C1, p_C2, p_C3, p_CN⟩ (fun hHeld => ?_)
      clear p_C0 p_C1 p_C2 p_C3 p_CN
      clear hK K
      try simp only [Act.put, lA, lB, lC]
      refine tQ (i := 7) ?_
      try simp only [Act.put, lA, lB, lC]
      refine wpAnyH_done (by kernel_rfl) ?_ _
      clear hHeld
      go_wp2
      go_loopw [6] (fun i wr => ∃ m : Nat, m ≤ k ∧ i = .int .i64 m ∧ Hid (∀ j, j < m → apartB (id, xs, born, died) (l.getD j Uq) = true) ∧ Below w1 w1 wr) (fun i _ => k - (intOf i).toNat)
      case atStart => exact ⟨0, Ij _, rfl, zh (fun j hj => by omega), d.out⟩
      case round =>
       obtain ⟨m, hm, rfl, hap, hbel⟩ := hrel
       clear d
       by_cases hml : m < k
       ·
        have j1 : (0 : Int) ≤ (m : Int) := by omega
        have j2 : (m : Int) < (l.length : Int) := by omega
        have j3 : (m : Int) < (k : Int) := by omega
        obtain ⟨b2, off2, cap2, ya, yc, hv, hbl2, y0, y1, y2, y3, hy⟩ := verR_at V.out (k := m) (by omega)
        simp only [Ik, Option.some.injEq, Addr.mk.injEq] at hv
        obtain ⟨⟨rfl, rfl, _⟩, _, rfl⟩ := hv
        have HNX := zh (HNA.out m hml)
        have HYX : Hid (apartB (id, xs, born, died) (l.getD m Uq) = true → ∀ j, j < m + 1 → apartB (id, xs, born, died) (l.getD j Uq) = true) := zh (fun g j hj => by
         by_cases e : j = m
         ·
          rw [e]; exact g
         ·
          exact hap.out j (by omega))
        generalize l.getD m Uq = y at *
        obtain ⟨id2, ys, born2, died2⟩ := y
        simp only at y0 y1 y2 y3
        have E0 := zh y0
        have E1 := zh y1
        have E2 := zh y2
        have E3 := zh y3
        have d := zh hbel
        clear y0 y1 y2 y3 hy hap hbel
        have HCA := zh (specApart id born died id2 born2 died2 (.slice xa xs.length xc) (.slice ya ys.length yc))
        cases hapt : decide (Ug id born died id2 born2 died2) with
        | false =>
         have HF := zh (HNX.out hapt)
         rw [hapt] at HCA
         clear hapt HNX HYX
         go_wp2
         have p_C0 := cx d C0 HBL
         have p_C1 := cx d C1 HBL
         have p_C2 := cx d C2 HBL
         have p_C3 := cx d C3 HBL
         have p_E0 := cx d E0 HBL
         have p_E1 := cx d E1 HBL
         have p_E2 := cx d E2 HBL
         have p_E3 := cx d E3 HBL
         refine wp_region_held_drew (S := fun w' => w'.cell? ⟨b, off + k * 4, none⟩ = some (Value.int .i64 id) ∧ w'.cell? ⟨b, off + k * 4 + 1, none⟩ = some (Value.slice xa xs.length xc) ∧ w'.cell? ⟨b, off + k * 4 + 2, none⟩ = some (Value.int .i64 born) ∧ w'.cell? ⟨b, off + k * 4 + 3, none⟩ = some (Value.int .i64 died) ∧ w'.cell? ⟨b, off + m * 4, none⟩ = some (Value.int .i64 id2) ∧ w'.cell? ⟨b, off + m * 4 + 1, none⟩ = some (Value.slice ya ys.length yc) ∧ w'.cell? ⟨b, off + m * 4 + 2, none⟩ = some (Value.int .i64 born2) ∧ w'.cell? ⟨b, off + m * 4 + 3, none⟩ = some (Value.int .i64 died2)) (by kernel_rfl) ⟨p_C0, p_C1, p_C2, p_C3, p_E0, p_E1, p_E2, p_E3⟩ (fun hHeld => ?_)
         clear p_C0 p_C1 p_C2 p_C3 p_E0 p_E1 p_E2 p_E3
         have cdr : Below wr wr wr.drew := Kc (Il _ _)
         replace d := zD d cdr
         clear cdr
         refine tQ (i := 0) ?_
         try simp only [Act.put, lA, lB, lC]
         refine tQ (i := 1) ?_
         try simp only [Act.put, lA, lB, lC]
         refine tQ (i := 2) ?_
         try simp only [Act.put, lA, lB, lC]
         refine tQ (i := 3) ?_
         try simp only [Act.put, lA, lB, lC]
         refine tQ (i := 4) ?_
         try simp only [Act.put, lA, lB, lC]
         refine tQ (i := 5) ?_
         try simp only [Act.put, lA, lB, lC]
         refine tQ (i := 6) ?_
         try simp only [Act.put, lA, lB, lC]
         refine tQ (i := 7) ?_
         try simp only [Act.put, lA, lB, lC]
         refine rA 8 (fun K hK => ?_)
         go_simp
         refine (HCA.out (wr.drew)).mono ?_
         rintro e w6 ⟨rfl, c6⟩
         replace d := zD d c6
         have Z_w6 := zh (show wr.heap.size ≤ w6.heap.size from c6.size)
         clear c6
         have p_C0 := cx d C0 HBL
         have p_C1 := cx d C1 HBL
         have p_C2 := cx d C2 HBL
         have p_C3 := cx d C3 HBL
         have p_E0 := cx d E0 HBL
         have p_E1 := cx d E1 HBL
         have p_E2 := cx d E2 HBL
         have p_E3 := cx d E3 HBL
         refine hK.out _ _ ⟨p_C0, p_C1, p_C2, p_C3, p_E0, p_E1, p_E2, p_E3⟩ (fun hHeld => ?_)
         clear p_C0 p_C1 p_C2 p_C3 p_E0 p_E1 p_E2 p_E3
         clear hK K
         try simp only [Act.put, lA, lB, lC]
         refine tQ (i := 9) ?_
         try simp only [Act.put, lA, lB, lC]
         refine wpAnyH_done (by kernel_rfl) ?_ _
         clear hHeld
         go_wp2
         go_ret
         exact ⟨Jy HF.out.symm, D1.out.trans (d.out.mono D1.out.size)⟩
        | true =>
         have HA2 := zh (HYX.out hapt)
         rw [hapt] at HCA
         clear hapt HNX HYX
         go_wp2
         have p_C0 := cx d C0 HBL
         have p_C1 := cx d C1 HBL
         have p_C2 := cx d C2 HBL
         have p_C3 := cx d C3 HBL
         have p_E0 := cx d E0 HBL
         have p_E1 := cx d E1 HBL
         have p_E2 := cx d E2 HBL
         have p_E3 := cx d E3 HBL
         refine wp_region_held_drew (S := fun w' => w'.cell? ⟨b, off + k * 4, none⟩ = some (Value.int .i64 id) ∧ w'.cell? ⟨b, off + k * 4 + 1, none⟩ = some (Value.slice xa xs.length xc) ∧ w'.cell? ⟨b, off + k * 4 + 2, none⟩ = some (Value.int .i64 born) ∧ w'.cell? ⟨b, off + k * 4 + 3, none⟩ = some (Value.int .i64 died) ∧ w'.cell? ⟨b, off + m * 4, none⟩ = some (Value.int .i64 id2) ∧ w'.cell? ⟨b, off + m * 4 + 1, none⟩ = some (Value.slice ya ys.length yc) ∧ w'.cell? ⟨b, off + m * 4 + 2, none⟩ = some (Value.int .i64 born2) ∧ w'.cell? ⟨b, off + m * 4 + 3, none⟩ = some (Value.int .i64 died2)) (by kernel_rfl) ⟨p_C0, p_C1, p_C2, p_C3, p_E0, p_E1, p_E2, p_E3⟩ (fun hHeld => ?_)
         clear p_C0 p_C1 p_C2 p_C3 p_E0 p_E1 p_E2 p_E3
         have cdr : Below wr wr wr.drew := Kc (Il _ _)
         replace d := zD d cdr
         clear cdr
         refine tQ (i := 0) ?_
         try simp only [Act.put, lA, lB, lC]
         refine tQ (i := 1) ?_
         try simp only [Act.put, lA, lB, lC]
         refine tQ (i := 2) ?_
         try simp only [Act.put, lA, lB, lC]
         refine tQ (i := 3) ?_
         try simp only [Act.put, lA, lB, lC]
         refine tQ (i := 4) ?_
         try simp only [Act.put, lA, lB, lC]
         refine tQ (i := 5) ?_
         try simp only [Act.put, lA, lB, lC]
         refine tQ (i := 6) ?_
         try simp only [Act.put, lA, lB, lC]
         refine tQ (i := 7) ?_
         try simp only [Act.put, lA, lB, lC]
         refine rA 8 (fun K hK => ?_)
         go_simp
         refine (HCA.out (wr.drew)).mono ?_
         rintro e w6 ⟨rfl, c6⟩
         replace d := zD d c6
         have Z_w6 := zh (show wr.heap.size ≤ w6.heap.size from c6.size)
         clear c6
         have p_C0 := cx d C0 HBL
         have p_C1 := cx d C1 HBL
         have p_C2 := cx d C2 HBL
         have p_C3 := cx d C3 HBL
         have p_E0 := cx d E0 HBL
         have p_E1 := cx d E1 HBL
         have p_E2 := cx d E2 HBL
         have p_E3 := cx d E3 HBL
         refine hK.out _ _ ⟨p_C0, p_C1, p_C2, p_C3, p_E0, p_E1, p_E2, p_E3⟩ (fun hHeld => ?_)
         clear p_C0 p_C1 p_C2 p_C3 p_E0 p_E1 p_E2 p_E3
         clear hK K
         try simp only [Act.put, lA, lB, lC]
         refine tQ (i := 9) ?_
         try simp only [Act.put, lA, lB, lC]
         refine wpAnyH_done (by kernel_rfl) ?_ _
         clear hHeld
         go_wp2
         go_roundw
         case rel => exact ⟨m + 1, by omega, by go_num, HA2, d.out⟩
         case measure => simp [intOf]; omega
       ·
        obtain rfl : m = k := by omega
        have HVK := zh (HST2.out hap.out)
        have HB := zh hbel
        clear hap hbel
        go_wp2
        go_roundw
        case rel => exact ⟨m + 1, by omega, by go_num, HVK, HB.out⟩
        case measure => simp [intOf]; omega
    ·
     obtain rfl : k = l.length := by omega
     have HT : Hid (Yb ss now = true) := zh (store_yes HCN.out HNN.out HSH.out (by rw [← HLL.out]; exact hvs.out))
     have HB := zh (D1.out.trans (hbel.mono D1.out.size))
     clear hvs hbel
     go_wp2
     go_ret
     exact ⟨Jy HT.out.symm, HB.out⟩
/-- Which operation a goal is about. -/
inductive Tok : Nat → Prop
 | mk (i : Nat) : Tok i
section
variable {P : Program} {md : Region.Mode} {ops : Array Oper} {Q : Exit → Act → World → Prop} {S : World → Prop} {fuel : Nat} {listed : Array Bool} {a : Act} {w : World}
theorem uA {α : Type} (xs : List α) (i : Nat) : xs.toArray[i]? = xs[i]? := List.getElem?_toArray
theorem uB {α : Type} (a : α) (l : List α) (i : Nat) : (a :: l)[i + 1]? = l[i]? := List.getElem?_cons_succ
theorem uC {α : Type} (a : α) (l : List α) : (a :: l)[0]? = some a := List.getElem?_cons_zero
theorem uQ (i : Nat) {oi : Oper} {d : Option Tmp} {v : Value} (h : wpAnyH P md ops Q S fuel (listed.setIfInBounds i true) (a.put d v) w) (hr : (Region.ready md ops listed).contains i = true := by decide +kernel)
  (hi : ops[i]? = some oi := by (simp only [uA, uB, uC]; rfl)) (hs : Region.noSelect ops = true := by kernel_rfl) (hf : Region.free md ops listed i = true := by kernel_rfl) (hd : oi.dst = d := by rfl)
  (hQ : ∀ c a w, Q (.panic c) (a.put oi.dst v) w → Q (.panic c) a w := by exact fun _ _ _ h => h) (hw : Region.wanted oi (yielded ops a.tmps) = true := by rfl) (hS : S w := by assumption)
  (hy : ∀ w, S w → (execOp a.eval oi).run P w = .ok (.value v) w := by (intro w hSw; (try dsimp only at hSw); go_simp; try (with_reducible rfl))) : wpAnyH P md ops Q S (fuel + 1) listed a w := take_runs hi hs hf hr hd hQ hw hy hS h
theorem u1 (i : Nat) {o : Oper} (h : ∀ K' : Act → World → Prop, Shut (∀ a w, S w → (S w → wpAnyH P md ops Q S fuel (listed.setIfInBounds i true) a w) → K' a w) → Tok i → if Region.wanted o (yielded ops a.tmps) = true then Oper.wp P o a w K' Q else K' (a.put o.dst undef) w)
  (hr : Region.ready md ops listed = [i] := by decide +kernel) (ho : ops[i]? = some o := by (simp only [uA, uB, uC]; rfl)) : wpAnyH P md ops Q S (fuel + 1) listed a w :=
 wpAnyH_ready hr (by simp) (AllReadyH.cons ho (fun K hK => h K hK (.mk i)) AllReadyH.nil)
theorem u2 (i j : Nat) {o p : Oper} (h : ∀ K' : Act → World → Prop, Shut (∀ a w, S w → (S w → wpAnyH P md ops Q S fuel (listed.setIfInBounds i true) a w) → K' a w) → Tok i → if Region.wanted o (yielded ops a.tmps) = true then Oper.wp P o a w K' Q else K' (a.put o.dst undef) w)
  (g : ∀ K' : Act → World → Prop, Shut (∀ a w, S w → (S w → wpAnyH P md ops Q S fuel (listed.setIfInBounds j true) a w) → K' a w) → Tok j → if Region.wanted p (yielded ops a.tmps) = true then Oper.wp P p a w K' Q else K' (a.put p.dst undef) w)
  (hr : Region.ready md ops listed = [i, j] := by decide +kernel) (ho : ops[i]? = some o := by (simp only [uA, uB, uC]; rfl)) (hp : ops[j]? = some p := by (simp only [uA, uB, uC]; rfl)) : wpAnyH P md ops Q S (fuel + 1) listed a w :=
 wpAnyH_ready hr (by simp) (AllReadyH.cons ho (fun K hK => h K hK (.mk i)) (AllReadyH.cons hp (fun K hK => g K hK (.mk j)) AllReadyH.nil))
theorem u3 (i j k : Nat) {o p q : Oper} (h : ∀ K' : Act → World → Prop, Shut (∀ a w, S w → (S w → wpAnyH P md ops Q S fuel (listed.setIfInBounds i true) a w) → K' a w) → Tok i → if Region.wanted o (yielded ops a.tmps) = true then Oper.wp P o a w K' Q else K' (a.put o.dst undef) w)
  (g : ∀ K' : Act → World → Prop, Shut (∀ a w, S w → (S w → wpAnyH P md ops Q S fuel (listed.setIfInBounds j true) a w) → K' a w) → Tok j → if Region.wanted p (yielded ops a.tmps) = true then Oper.wp P p a w K' Q else K' (a.put p.dst undef) w)
  (f : ∀ K' : Act → World → Prop, Shut (∀ a w, S w → (S w → wpAnyH P md ops Q S fuel (listed.setIfInBounds k true) a w) → K' a w) → Tok k → if Region.wanted q (yielded ops a.tmps) = true then Oper.wp P q a w K' Q else K' (a.put q.dst undef) w)
  (hr : Region.ready md ops listed = [i, j, k] := by decide +kernel) (ho : ops[i]? = some o := by (simp only [uA, uB, uC]; rfl)) (hp : ops[j]? = some p := by (simp only [uA, uB, uC]; rfl)) (hq : ops[k]? = some q := by (simp only [uA, uB, uC]; rfl)) : wpAnyH P md ops Q S (fuel + 1) listed a w :=
 wpAnyH_ready hr (by simp) (AllReadyH.cons ho (fun K hK => h K hK (.mk i)) (AllReadyH.cons hp (fun K hK => g K hK (.mk j)) (AllReadyH.cons hq (fun K hK => f K hK (.mk k)) AllReadyH.nil)))
theorem uZ (h : Q .normal a w) (hr : Region.ready md ops listed = [] := by decide +kernel) : wpAnyH P md ops Q S fuel listed a w := wpAnyH_done hr h _
end
theorem info_T_Row : Yn Ke 75 (.agg #[Ja, ()]) := Yv (by kernel_rfl)
def newP (rs : List Ej) (g : Int) : Prop := areB rs = true ∧ (1 ≤ g ∧ g ≤ 8) ∧ (rs.length : Int) ≤ 4 * g
instance (rs : List Ej) (g : Int) : Decidable (newP rs g) := by unfold newP; infer_instance
theorem Ef : Yn Jd 213 () := Yv (by kernel_rfl)
set_option maxHeartbeats 8000000 in
theorem specOne (id bo di : Int) (v : Value) (xs : List Int) (w : World) (h : Ko Je w v xs) (hn : xs.length ≤ 1048576) :
  Calls Tryz.prog 245 #[.int .i64 id, v, .int .i64 bo, .int .i64 di] w (Yy Jh (fun cs => .agg cs.toArray) w (id, xs, bo, di)) := by
 obtain ⟨a, c, rfl⟩ := Jl h
 have H := zh h
 have HN := zh hn
 clear h hn
 have Y0 : Hid (w.heap.size < (w.alloc (.cells #[Ja, (), Ja, Ja] 212)).heap.size) := zh (by simp)
 have B0 : Hid ((w.alloc (.cells #[Ja, (), Ja, Ja] 212)).heap[w.heap.size]? = some (.cells #[Ja, (), Ja, Ja] 212 (0, 0))) := zh (Ic w _)
 have d := zh ((Il w.heap.size w).alloc (Ii _) (.cells #[Ja, (), Ja, Ja] 212))
 have E0 : Hid (Kp 3 Je ((w.alloc (.cells #[Ja, (), Ja, Ja] 212)).alloc (.cells #[] 3)) (fun b => w.heap.size + 1 ≤ b) (.slice (some ⟨w.heap.size + 1, 0, none⟩) 0 0) []) := zh (by
  have := Ye (T := Je) (w.alloc (.cells #[Ja, (), Ja, Ja] 212)) 3 (fun b => w.heap.size + 1 ≤ b) (by simp)
  simpa only [Ie] using this)
 go_enter Tryz.func245, Tryz.ntmps245
 go_wp2_with (at_builtin; refine Xt Jc Uf Yp Tryz.underlying25 rfl rfl (.tmp 10) (.tmp 11) rfl (fun b => w.heap.size + 1 ≤ b) (fun b => w.heap.size + 1 ≤ b) _ _ [] xs rfl rfl E0.out (Jb Jc H.out (d.out.alloc d.out.size _)) (fun b h => h) (by first | (simp [Ie]; done) | (simp [Ie]; omega)) (by have := HN.out; simp; omega) ?_)
 intro v' w1 o1 t1
 obtain ⟨ua, uc, rfl⟩ := Ju o1
 have k0 : w1.heap[w.heap.size]? = some (.cells #[Ja, (), Ja, Ja] 212 (0, 0)) := (t1.block _ (by first | (simp [Ie]; done) | (simp [Ie]; omega)) (fun h => by have := Y0.out; omega)).trans ((((Il _ _).alloc (Ii _) _).block w.heap.size Y0.out).trans B0.out)
 have hd : Below w w w1 := Js (d.out.alloc d.out.size _) t1 (fun b h => by have h3 : w.heap.size + 1 ≤ b := h; omega) (by first | (simp [Ie]; done) | (simp [Ie]; omega))
 have z0 := cr 0 Ja k0
 have g0 := Ez w1 _ 0 _ _ k0
 have z1 := cr 1 () k0
 have g1 := Ez w1 _ 1 _ _ k0
 have z2 := cr 2 Ja k0
 have g2 := Ez w1 _ 2 _ _ k0
 have z3 := cr 3 Ja k0
 have g3 := Ez w1 _ 3 _ _ k0
 have DF := zh ((((hd.setCell (p := ⟨w, 0, none⟩) (by simp) (.int .i64 id)).setCell (p := ⟨w, 1, none⟩) (by simp) (.slice ua xs.length uc)).setCell (p := ⟨w, 2, none⟩) (by simp) (.int .i64 bo)).setCell (p := ⟨w, 3, none⟩) (by simp) (.int .i64 di))
 have r := st4 k0 (.int .i64 id) (.slice ua xs.length uc) (.int .i64 bo) (.int .i64 di)
 try simp at r
 have e0 := (Ia _ w.heap.size 0 _ _ _ r).trans (show _ = some (Value.int .i64 id) from rfl)
 have e1 := (Ia _ w.heap.size 1 _ _ _ r).trans (show _ = some (Value.slice ua xs.length uc) from rfl)
 have e2 := (Ia _ w.heap.size 2 _ _ _ r).trans (show _ = some (Value.int .i64 bo) from rfl)
 have e3 := (Ia _ w.heap.size 3 _ _ _ r).trans (show _ = some (Value.int .i64 di) from rfl)
 have tt := ts4 w1 w.heap.size (.int .i64 id) (.slice ua xs.length uc) (.int .i64 bo) (.int .i64 di)
 have PF := zh (Ka Jc o1 tt (fun b h1 h2 => by have h3 : w.heap.size + 1 ≤ b := h1; have := Y0.out; omega))
 clear r tt k0 hd t1 o1
 go_wp2
 refine bodyPost_ret (v := .agg #[.int .i64 id, .slice ua xs.length uc, .int .i64 bo, .int .i64 di]) ?_ rfl ⟨[.int .i64 id, .slice ua xs.length uc, .int .i64 bo, .int .i64 di], rfl, Ep PF.out (fun b h => by have h3 : w.heap.size + 1 ≤ b := h; have := Y0.out; show w.heap.size ≤ b; omega), DF.out⟩
 simp [results, Tryz.f245, go_sem, e0, e1, e2, e3]
set_option maxHeartbeats 16000000 in
theorem specPart (v : Value) (l : List Kj) (w : World) (h : Ko Jh w v l) (hs : zL Jh l ≤ 1048576) :
  Calls Tryz.prog 208 #[v] w (Xg 212 Jh w l) := by
 have H := zh h
 have hlen := Jz hs
 have HS := zh hs
 obtain ⟨a, cap, rfl⟩ := Jl h
 clear h hs
 go_enter Tryz.func208, Tryz.ntmps208
 go_wp2
 go_loopw [3, 4] (fun u i wr => ∃ k : Nat, k ≤ l.length ∧ i = .int .i64 k ∧ Kp 212 Jh wr (Kw w) u (l.take k) ∧ Below w w wr) (fun _ i _ => l.length - (intOf i).toNat)
 case atStart => exact ⟨0, Ij _, rfl, Ye w 212 (Kw w) (Ii _), (Il _ _).alloc (Ii _) _⟩
 case round =>
  obtain ⟨k, hk, rfl, hown, hbel⟩ := hrel
  by_cases hlt : k < l.length
  ·
   have i1 : (0 : Int) ≤ (k : Int) := by omega
   have i2 : (k : Int) < (l.length : Int) := by omega
   obtain ⟨b, off, cap', xa, xc, hv, hbl, c0, c1, c2, c3, hx⟩ := verR_at H.out hlt
   simp only [Ik] at hv
   obtain ⟨rfl, _, rfl⟩ := hv
   have HXL := zh (ver_len HS.out hlt)
   have HTK := zh (take_getD hlt).symm
   have HYL : Hid ((l.take k).length ≤ 1048576) := zh (by rw [List.length_take]; omega)
   have HX := zh (ints_slR hx)
   generalize l.getD k Uq = x at *
   obtain ⟨id, xs, bo, di⟩ := x
   simp only at c0 c1 c2 c3 HXL
   change Hid (Ko Je w (.slice xa xs.length xc) xs) at HX
   have C0 := zh c0
   have C1 := zh c1
   have C2 := zh c2
   have C3 := zh c3
   have HBL := zh hbl
   have PP := zh (Kn Jp hown)
   have d := zh hbel
   have ZR := zh hbel.size
   obtain ⟨oa, oc, rfl⟩ := Ju hown
   clear c0 c1 c2 c3 hbl hx hown hbel
   have QP := zh (fun q (h : Kw w q ∧ q < wr.heap.size) => h)
   generalize l.take k = ys at *
   go_wp2
   have p_C0 := cx d C0 HBL
   have p_C1 := cx d C1 HBL
   have p_C2 := cx d C2 HBL
   have p_C3 := cx d C3 HBL
   refine wp_region_held_drew (S := fun w' => w'.cell? ⟨b, off + k * 4, none⟩ = some (Value.int .i64 id) ∧ w'.cell? ⟨b, off + k * 4 + 1, none⟩ = some (Value.slice xa xs.length xc) ∧ w'.cell? ⟨b, off + k * 4 + 2, none⟩ = some (Value.int .i64 bo) ∧ w'.cell? ⟨b, off + k * 4 + 3, none⟩ = some (Value.int .i64 di)) (by kernel_rfl) ⟨p_C0, p_C1, p_C2, p_C3⟩ (fun hHeld => ?_)
   clear p_C0 p_C1 p_C2 p_C3
   have cdr : Below wr wr wr.drew := Kc (Il _ _)
   replace PP := zf Jp PP cdr
   replace d := zD d cdr
   clear cdr
   have Z_dr := zh (show wr.heap.size ≤ wr.drew.heap.size from Ii _)
   generalize wr.drew = Wd at *
   refine tQ (i := 0) ?_
   try simp only [Act.put, lA, lB, lC]
   refine tQ (i := 1) ?_
   try simp only [Act.put, lA, lB, lC]
   refine tQ (i := 2) ?_
   try simp only [Act.put, lA, lB, lC]
   refine tQ (i := 3) ?_
   try simp only [Act.put, lA, lB, lC]
   refine tQ (i := 4) ?_
   try simp only [Act.put, lA, lB, lC]
   refine tQ (i := 5) ?_
   try simp only [Act.put, lA, lB, lC]
   refine tQ (i := 6) ?_
   try simp only [Act.put, lA, lB, lC]
   refine tQ (i := 7) ?_
   try simp only [Act.put, lA, lB, lC]
   refine tQ (i := 8) ?_
   try simp only [Act.put, lA, lB, lC]
   refine tQ (i := 9) ?_
   try simp only [Act.put, lA, lB, lC]
   refine tQ (i := 10) ?_
   try simp only [Act.put, lA, lB, lC]
   refine tQ (i := 11) ?_
   try simp only [Act.put, lA, lB, lC]
   refine tQ (i := 12) ?_
   try simp only [Act.put, lA, lB, lC]
   refine tQ (i := 13) ?_
   try simp only [Act.put, lA, lB, lC]
   refine tQ (i := 14) ?_
   try simp only [Act.put, lA, lB, lC]
   refine tQ (i := 15) ?_
   try simp only [Act.put, lA, lB, lC]
   refine tQ (i := 16) ?_
   try simp only [Act.put, lA, lB, lC]
   refine tQ (i := 17) ?_
   try simp only [Act.put, lA, lB, lC]
   refine tQ (i := 18) ?_
   try simp only [Act.put, lA, lB, lC]
   refine tQ (i := 19) ?_
   try simp only [Act.put, lA, lB, lC]
   refine tQ (i := 20) ?_
   try simp only [Act.put, lA, lB, lC]
   refine rA 21 (fun K hK => ?_)
   go_simp
   refine (specOne id bo di (.slice xa xs.length xc) xs Wd (Jb Jc HX.out d.out) HXL.out).mono ?_
   rintro e w5 ⟨cs, rfl, ow, c5⟩
   have ox : Jh.O w5 (fun q => wr.heap.size ≤ q) cs (id, xs, bo, di) := Jp.mono ow (fun q hq => Nat.le_trans Z_dr.out hq)
   obtain ⟨u1, K1, rfl, o1, q1⟩ := tVersion_O ox
   obtain ⟨ua, uc, rfl⟩ := Ju o1
   have PX := zh (Ky o1 q1)
   replace PP := zf Jp PP c5
   replace d := zD d c5
   have Z_w5 := zh (show Wd.heap.size ≤ w5.heap.size from c5.size)
   clear c5 ow ox o1 q1
   have p_C0 := cx d C0 HBL
   have p_C1 := cx d C1 HBL
   have p_C2 := cx d C2 HBL
   have p_C3 := cx d C3 HBL
   refine hK.out _ _ ⟨p_C0, p_C1, p_C2, p_C3⟩ (fun hHeld => ?_)
   clear p_C0 p_C1 p_C2 p_C3
   clear hK K
   try simp only [Act.put, lA, lB, lC]
   refine rA 22 (fun K hK => ?_)
   go_simp
   have hal : Below w5 w5 (w5.alloc (.cells #[.int .i64 id, .slice ua xs.length uc, .int .i64 bo, .int .i64 di] 212)) := (Il _ _).alloc (Ii _) _
   have Kd := d
   replace d := zD d hal
   clear hal
   have p_C0 := cx d C0 HBL
   have p_C1 := cx d C1 HBL
   have p_C2 := cx d C2 HBL
   have p_C3 := cx d C3 HBL
   refine hK.out _ _ ⟨p_C0, p_C1, p_C2, p_C3⟩ (fun hHeld => ?_)
   clear p_C0 p_C1 p_C2 p_C3
   clear hK K
   try simp only [Act.put, lA, lB, lC]
   refine rA 23 (fun K hK => ?_)
   have y0 := ZR.out
   have y1 := Z_dr.out
   have y2 := Z_w5.out
   have yd := Kd.out.size
   have hD : wr.heap.size ≤ w5.heap.size := by omega
   have hnew : Jh.O w5 (fun q => wr.heap.size ≤ q) [.int .i64 id, .slice ua xs.length uc, .int .i64 bo, .int .i64 di] (id, xs, bo, di) := Ep PX.out (fun q hq => hq)
   refine Xx Jp info_T_Version Tryz.underlying213 rfl rfl (.tmp 12) (.tmp 34) rfl (Kw w) wr.heap.size _ (ys) rfl PP.out hD (fun q hq => Nat.le_trans ZR.out hq) HYL.out [.int .i64 id, .slice ua xs.length uc, .int .i64 bo, .int .i64 di] (id, xs, bo, di) hnew (by simp [Value.oneCell']) 1 _ rfl rfl ?_
   intro v' w7 oN tN
   rw [HTK.out] at oN
   have PN := zh oN
   have DN := zh (Js Kd.out tN (fun q hq => hq.1) yd)
   clear hnew hD oN tN yd PX Kd d PP y0 y1 y2
   have p_C0 := cx DN C0 HBL
   have p_C1 := cx DN C1 HBL
   have p_C2 := cx DN C2 HBL
   have p_C3 := cx DN C3 HBL
   refine hK.out _ _ ⟨p_C0, p_C1, p_C2, p_C3⟩ (fun hHeld => ?_)
   clear p_C0 p_C1 p_C2 p_C3
   clear hK K
   try simp only [Act.put, lA, lB, lC]
   refine tQ (i := 24) ?_
   try simp only [Act.put, lA, lB, lC]
   refine wpAnyH_done (by kernel_rfl) ?_ _
   clear hHeld
   go_wp2
   go_roundw
   case rel => exact ⟨k + 1, by omega, by go_num, PN.out, DN.out⟩
   case measure => simp [intOf]; omega
  ·
   obtain rfl : k = l.length := by omega
   rw [List.take_length] at hown
   obtain ⟨oa, oc, rfl⟩ := Ju hown
   go_wp2
   go_ret
   exact ⟨_, rfl, hown, hbel⟩
end Go.Proofs.YtnepfacnmaoieaaGreatDoor
