/-
 Texts of the proof, merged: RowAre, RowLess, RowCopy, RowIns, VerMath, UpdMath, QuerySpec, QuerySl, AdmitSpec, QueryOwn, QueryAre, StabMath, FindSpec, IndexMath, EngMath, ChgMath, AdmMath, EngBr, BrQuery, VerBr.
-/
import Derived.Test.YtnepfacnmaoieaaGreatDoorPK1
import Derived.Test.YtnepfacnmaoieaaGreatDoorPK2
import Derived.Test.YtnepfacnmaoieaaGreatDoorPK3
import Derived.Test.YtnepfacnmaoieaaGreatDoorPK4
import Derived.Maps.AppendAt
namespace Go.Proofs.YtnepfacnmaoieaaGreatDoor
open Go.RowKit
set_option maxRecDepth 100000
set_option linter.unusedVariables false
set_option linter.unusedSimpArgs false
/-- A version: its number, values, birth and death. -/
abbrev VerD := Int × List Int × Int × Int
def v0D : VerD := (0, [], 0, 0)
def visP (born died t : Int) : Prop := born ≤ t ∧ (died = -1 ∨ t < died)
instance (a b c : Int) : Decidable (visP a b c) := by unfold visP; infer_instance
def lifeP (born died now : Int) : Prop := 0 ≤ born ∧ born ≤ now ∧ (died = -1 ∨ born < died ∧ died ≤ now)
instance (a b c : Int) : Decidable (lifeP a b c) := by unfold lifeP; infer_instance
def verB (v : VerD) (now : Int) : Bool := rowB (v.1, v.2.1) && decide (lifeP v.2.2.1 v.2.2.2 now)
def apartP (i1 b1 d1 i2 b2 d2 : Int) : Prop := i1 ≠ i2 ∨ (d1 ≠ -1 ∧ d1 ≤ b2) ∨ (d2 ≠ -1 ∧ d2 ≤ b1)
instance (a b c d e f : Int) : Decidable (apartP a b c d e f) := by unfold apartP; infer_instance
def apartB (a b : VerD) : Bool := decide (apartP a.1 a.2.2.1 a.2.2.2 b.1 b.2.2.1 b.2.2.2)
/-- Two valid versions are apart iff they are not seen together when the later one is born. -/
def seenP (i1 b1 d1 i2 b2 d2 : Int) : Prop := i1 = i2 ∧ visP b1 d1 (max b1 b2) ∧ visP b2 d2 (max b1 b2)
instance (a b c d e f : Int) : Decidable (seenP a b c d e f) := by unfold seenP; infer_instance
def seenB (a b : VerD) : Bool := decide (seenP a.1 a.2.2.1 a.2.2.2 b.1 b.2.2.1 b.2.2.2)
theorem seen_apart {i1 b1 d1 i2 b2 d2 now : Int} (h1 : lifeP b1 d1 now) (h2 : lifeP b2 d2 now) : seenP i1 b1 d1 i2 b2 d2 ↔ ¬ apartP i1 b1 d1 i2 b2 d2 := by
 unfold seenP apartP visP
 unfold lifeP at h1 h2
 omega
theorem ver_life {v : VerD} {now : Int} (h : verB v now = true) : lifeP v.2.2.1 v.2.2.2 now := by
 unfold verB at h
 rw [Bool.and_eq_true] at h
 exact of_decide_eq_true h.2
theorem seenB_apart {a b : VerD} {now : Int} (h1 : verB a now = true) (h2 : verB b now = true) : seenB a b = !apartB a b := by
 unfold seenB apartB
 by_cases h : apartP a.1 a.2.2.1 a.2.2.2 b.1 b.2.2.1 b.2.2.2
 ·
  rw [decide_eq_true h, decide_eq_false (fun g => (seen_apart (ver_life h1) (ver_life h2)).1 g h)]; rfl
 ·
  rw [decide_eq_false h, decide_eq_true ((seen_apart (ver_life h1) (ver_life h2)).2 h)]; rfl
/-- The first n versions are valid and apart. -/
def VersP (l : List VerD) (now : Int) (n : Nat) : Prop := ∀ i, i < n → verB (l.getD i v0D) now = true ∧ ∀ k, k < i → apartB (l.getD i v0D) (l.getD k v0D) = true
instance (l : List VerD) (now : Int) (n : Nat) : Decidable (VersP l now n) := by unfold VersP; infer_instance
def ShortP (ss : List (List VerD)) (n : Nat) : Prop := ∀ i, i < n → (ss.getD i []).length ≤ 4
instance (ss : List (List VerD)) (n : Nat) : Decidable (ShortP ss n) := by unfold ShortP; infer_instance
def storeP (ss : List (List VerD)) (now : Int) : Prop := ((1 ≤ ss.length ∧ ss.length ≤ 8) ∧ (0 ≤ now ∧ now ≤ 100000)) ∧ ShortP ss ss.length ∧ VersP ss.flatten now ss.flatten.length
instance (ss : List (List VerD)) (now : Int) : Decidable (storeP ss now) := by unfold storeP; infer_instance
def storeB (ss : List (List VerD)) (now : Int) : Bool := decide (storeP ss now)
theorem vers_step {l : List VerD} {now : Int} {n : Nat} (h : VersP l now n) (h1 : verB (l.getD n v0D) now = true) (h2 : ∀ k, k < n → apartB (l.getD n v0D) (l.getD k v0D) = true) : VersP l now (n + 1) := fun i hi => by
 by_cases e : i = n
 ·
  subst e; exact ⟨h1, h2⟩
 ·
  exact h i (by omega)
theorem store_no_count {ss : List (List VerD)} {now : Int} (h : ¬ (1 ≤ ss.length ∧ ss.length ≤ 8)) : storeB ss now = false := decide_eq_false (fun g => h g.1.1)
theorem store_no_now {ss : List (List VerD)} {now : Int} (h : ¬ (0 ≤ now ∧ now ≤ 100000)) : storeB ss now = false := decide_eq_false (fun g => h g.1.2)
theorem store_no_short {ss : List (List VerD)} {now : Int} {i : Nat} (hi : i < ss.length) (h : ¬ (ss.getD i []).length ≤ 4) : storeB ss now = false := decide_eq_false (fun g => h (g.2.1 i hi))
theorem store_no_ver {ss : List (List VerD)} {now : Int} {i : Nat} (hi : i < ss.flatten.length) (h : verB (ss.flatten.getD i v0D) now = false) : storeB ss now = false := decide_eq_false (fun g => by
 have := (g.2.2 i hi).1; rw [h] at this; cases this)
theorem store_no_apart {ss : List (List VerD)} {now : Int} {i k : Nat} (hi : i < ss.flatten.length) (hk : k < i) (h : apartB (ss.flatten.getD i v0D) (ss.flatten.getD k v0D) = false) : storeB ss now = false := decide_eq_false (fun g => by
 have := (g.2.2 i hi).2 k hk; rw [h] at this; cases this)
theorem store_yes {ss : List (List VerD)} {now : Int} (h1 : 1 ≤ ss.length ∧ ss.length ≤ 8) (h2 : 0 ≤ now ∧ now ≤ 100000) (h3 : ShortP ss ss.length) (h4 : VersP ss.flatten now ss.flatten.length) : storeB ss now = true := decide_eq_true ⟨⟨h1, h2⟩, h3, h4⟩
/-- The segments as far as k, one behind the other. -/
def cat (ss : List (List VerD)) (k : Nat) : List VerD := (ss.take k).flatten
theorem cat_zero (ss : List (List VerD)) : cat ss 0 = [] := by simp [cat]
theorem cat_all (ss : List (List VerD)) : cat ss ss.length = ss.flatten := by simp [cat]
theorem cat_step {ss : List (List VerD)} {k : Nat} (h : k < ss.length) : cat ss k ++ ss.getD k [] = cat ss (k + 1) := by
 unfold cat
 have e : ss.getD k [] = ss[k] := by simp [List.getD, h]
 rw [e, List.take_succ_eq_append_getElem h, List.flatten_append]
 simp
theorem cat_len {ss : List (List VerD)} {k : Nat} (h : k < ss.length) : (cat ss (k + 1)).length = (cat ss k).length + (ss.getD k []).length := by rw [← cat_step h, List.length_append]
theorem cat_le (ss : List (List VerD)) (k : Nat) : (cat ss k).length ≤ ss.flatten.length := by
 unfold cat
 have e : ss.flatten = (ss.take k).flatten ++ (ss.drop k).flatten := by rw [← List.flatten_append, List.take_append_drop]
 rw [e, List.length_append]; omega
theorem cat_at {ss : List (List VerD)} {k i : Nat} (h : i < (cat ss k).length) : ss.flatten.getD i v0D = (cat ss k).getD i v0D := by
 unfold cat at h ⊢
 have e : ss.flatten = (ss.take k).flatten ++ (ss.drop k).flatten := by rw [← List.flatten_append, List.take_append_drop]
 rw [e]
 simp only [List.getD, List.getElem?_append_left h]
theorem cat_in {ss : List (List VerD)} {k j : Nat} (h : k < ss.length) (hj : j < (ss.getD k []).length) : ss.flatten.getD ((cat ss k).length + j) v0D = (ss.getD k []).getD j v0D := by
 have hl := cat_len h
 rw [cat_at (k := k + 1) (by omega), ← cat_step h]
 simp only [List.getD]
 rw [List.getElem?_append_right (by omega), Nat.add_sub_cancel_left]
theorem take_getD {l : List VerD} {k : Nat} (h : k < l.length) : l.take (k + 1) = l.take k ++ [l.getD k v0D] := by
 have e : l.getD k v0D = l[k] := by simp [List.getD, h]
 rw [e, List.take_succ_eq_append_getElem h]
/-- An update: its kind, row, field and value. -/
abbrev UpdD := Int × (Int × List Int) × Int × Int
def insP (u : UpdD) : Prop := u.1 = 1 ∧ rowB u.2.1 = true ∧ u.2.2.1 = 0 ∧ u.2.2.2 = 0
def delP (u : UpdD) : Prop := u.1 = 2 ∧ (0 ≤ u.2.1.1 ∧ u.2.1.1 ≤ 999) ∧ u.2.1.2.length = 0 ∧ u.2.2.1 = 0 ∧ u.2.2.2 = 0
def setP (u : UpdD) : Prop := u.1 = 3 ∧ (0 ≤ u.2.1.1 ∧ u.2.1.1 ≤ 999) ∧ u.2.1.2.length = 0 ∧ (0 ≤ u.2.2.1 ∧ u.2.2.1 ≤ 2) ∧ (0 ≤ u.2.2.2 ∧ u.2.2.2 ≤ 99)
instance (u : UpdD) : Decidable (insP u) := by unfold insP; infer_instance
instance (u : UpdD) : Decidable (delP u) := by unfold delP; infer_instance
instance (u : UpdD) : Decidable (setP u) := by unfold setP; infer_instance
def updB (u : UpdD) : Bool := decide (insP u) || (decide (delP u) || decide (setP u))
/- Where the living version of a row lies, and where there is room. -/
def aliveB (id : Int) (v : VerD) : Bool := decide (v.1 = id ∧ v.2.2.2 = -1)
def hasB (id : Int) (l : List VerD) : Bool := l.any (aliveB id)
def segI (ss : List (List VerD)) (id : Int) : Nat := ss.findIdx (hasB id)
def freeB (l : List VerD) : Bool := decide (l.length < 4)
def roomI (ss : List (List VerD)) : Nat := ss.findIdx freeB
/- What an update makes. -/
def okP (ss : List (List VerD)) (now : Int) (u : UpdD) : Prop := storeB ss now = true ∧ updB u = true ∧ now < 100000 ∧ (u.1 = 1 ↔ ¬ segI ss u.2.1.1 < ss.length) ∧ (u.1 ≠ 2 → roomI ss < ss.length)
instance (ss : List (List VerD)) (now : Int) (u : UpdD) : Decidable (okP ss now u) := by unfold okP; infer_instance
abbrev StoreD := List (List VerD) × Int
/- A store stays valid. -/
/- Reclaiming. -/
abbrev c0D : CondD := (0, 0, 0)
/-- As far as k the conditions are conditions, in ascending order of their fields. -/
def CondsTo (cs : List CondD) (k : Nat) : Prop := ∀ i, i < k → condB (cs.getD i c0D) = true ∧ (0 < i → (cs.getD (i - 1) c0D).1 < (cs.getD i c0D).1)
def condsB (cs : List CondD) : Bool := (List.range cs.length).all (fun i => condB (cs.getD i c0D) && (decide (i = 0) || decide ((cs.getD (i - 1) c0D).1 < (cs.getD i c0D).1)))
def fieldsB (os : List Int) : Bool := os.all (fun x => decide (0 ≤ x ∧ x ≤ 2)) && decide (1 ≤ os.length ∧ os.length ≤ 3)
def queryB (id tn : Int) (cs : List CondD) (os : List Int) : Bool := condsB cs && (decide (0 ≤ id ∧ id ≤ 23) && (decide (0 ≤ tn ∧ tn ≤ 3) && (decide (cs.length ≤ 3) && fieldsB os)))
theorem condsB_all {cs : List CondD} (h : CondsTo cs cs.length) : condsB cs = true := by
 unfold condsB
 rw [List.all_eq_true]
 intro i hi
 rw [List.mem_range] at hi
 obtain ⟨h1, h2⟩ := h i hi
 rw [h1]
 by_cases e : i = 0
 ·
  simp [e]
 ·
  rw [decide_eq_true (h2 (by omega))]; simp
theorem condsB_bad {cs : List CondD} {k : Nat} (hk : k < cs.length) (h : condB (cs.getD k c0D) = false ∨ (0 < k ∧ ¬ (cs.getD (k - 1) c0D).1 < (cs.getD k c0D).1)) : condsB cs = false := by
 unfold condsB
 rw [Bool.eq_false_iff]
 intro g
 rw [List.all_eq_true] at g
 have := g k (List.mem_range.2 hk)
 rw [Bool.and_eq_true, Bool.or_eq_true, decide_eq_true_eq, decide_eq_true_eq] at this
 rcases h with h | ⟨h1, h2⟩
 ·
  rw [h] at this; exact Bool.noConfusion this.1
 ·
  rcases this.2 with e | e
  ·
   omega
  ·
   exact h2 e
theorem condsTo_step {cs : List CondD} {k : Nat} (h : CondsTo cs k) (h1 : condB (cs.getD k c0D) = true) (h2 : 0 < k → (cs.getD (k - 1) c0D).1 < (cs.getD k c0D).1) : CondsTo cs (k + 1) := fun i hi => by
 by_cases e : i = k
 ·
  subst e; exact ⟨h1, h2⟩
 ·
  exact h i (by omega)
theorem fieldsB_bad {os : List Int} {k : Nat} (hk : k < os.length) (h : ¬ (0 ≤ os.getD k 0 ∧ os.getD k 0 ≤ 2)) : fieldsB os = false := by
 have e : os.getD k 0 = os[k] := by simp [List.getD, hk]
 rw [e] at h
 have : (os.all fun x => decide (0 ≤ x ∧ x ≤ 2)) = false := by
  rw [Bool.eq_false_iff]
  intro g
  rw [List.all_eq_true] at g
  exact h (of_decide_eq_true (g _ (List.getElem_mem hk)))
 unfold fieldsB
 rw [this]; rfl
theorem fieldsB_all {os : List Int} (h : ∀ k, k < os.length → 0 ≤ os.getD k 0 ∧ os.getD k 0 ≤ 2) : fieldsB os = decide (1 ≤ os.length ∧ os.length ≤ 3) := by
 have : (os.all fun x => decide (0 ≤ x ∧ x ≤ 2)) = true := by
  rw [List.all_eq_true]
  intro x hx
  obtain ⟨k, hk, rfl⟩ := List.getElem_of_mem hx
  have := h k hk
  have e : os.getD k 0 = os[k] := by simp [List.getD, hk]
  rw [e] at this
  exact decide_eq_true this
 unfold fieldsB
 rw [this]; rfl
set_option maxHeartbeats 4000000 in
theorem specFields (v : Value) (os : List Int) (w : World) (h : Ints w v os) (hn : os.length ≤ 1048576) :
  Calls Tryz.prog 156 #[v] w fun e w' => e = .returned (.bool (fieldsB os)) ∧ w' = w := by
 have H := Lib.hid h
 obtain ⟨a, cap, rfl⟩ := ints_len h
 clear h
 go_enter Tryz.func156, Tryz.ntmps156
 go_wp2
 go_loopw [3] (fun i wr => ∃ k : Nat, k ≤ os.length ∧ i = .int .i64 k ∧ Hid (∀ j, j < k → 0 ≤ os.getD j 0 ∧ os.getD j 0 ≤ 2) ∧ wr = w) (fun i _ => os.length - (intOf i).toNat)
 case atStart => exact ⟨0, Nat.zero_le _, rfl, Lib.hid (fun j hj => by omega), rfl⟩
 case round =>
  obtain ⟨k, hk, rfl, hall, rfl⟩ := hrel
  by_cases hlt : k < os.length
  ·
   obtain ⟨b, off, cap', hv, hbl, hc⟩ := ints_cell H.out (by omega)
   simp only [Value.slice.injEq] at hv
   obtain ⟨rfl, _, rfl⟩ := hv
   have hcell := hc k hlt
   have i1 : (0 : Int) ≤ (k : Int) := by omega
   have i2 : (k : Int) < (os.length : Int) := by omega
   clear hc
   by_cases hi : 0 ≤ os.getD k 0 ∧ os.getD k 0 ≤ 2
   ·
    have HA : Hid (∀ j, j < k + 1 → 0 ≤ os.getD j 0 ∧ os.getD j 0 ≤ 2) := Lib.hid (fun j hj => by
     by_cases e : j = k
     ·
      subst e; exact hi
     ·
      exact hall.out j (by omega))
    have HI := Lib.hid (fun w => in_yes (os.getD k 0) 0 2 w hi.1 hi.2)
    clear hi hall
    generalize os.getD k 0 = x at *
    go_wp2_with fail
    refine (HI.out _).mono ?_
    rintro e w1 ⟨rfl, rfl⟩
    go_wp2
    go_roundw
    case rel => exact ⟨k + 1, by omega, by go_num, HA, by simp⟩
    case measure => simp [intOf]; omega
   ·
    have HF := Lib.hid (fieldsB_bad hlt hi)
    have HI := Lib.hid (fun w => in_no (os.getD k 0) 0 2 w hi)
    clear hi hall
    generalize os.getD k 0 = x at *
    go_wp2_with fail
    refine (HI.out _).mono ?_
    rintro e w1 ⟨rfl, rfl⟩
    go_wp2
    go_ret
    exact ⟨ret_b HF.out.symm, rfl⟩
  ·
   obtain rfl : k = os.length := by omega
   have HE := Lib.hid (fieldsB_all hall.out)
   clear hall
   by_cases hl : 1 ≤ os.length ∧ os.length ≤ 3
   ·
    have HT : Hid (fieldsB os = true) := Lib.hid (by rw [HE.out]; exact decide_eq_true hl)
    have HI := Lib.hid (fun w => in_yes (os.length : Int) 1 3 w (by omega) (by omega))
    clear hl HE
    go_wp2_with fail
    refine (HI.out _).mono ?_
    rintro e w1 ⟨rfl, rfl⟩
    go_wp2
    go_ret
    exact ⟨ret_b HT.out.symm, rfl⟩
   ·
    have HT : Hid (fieldsB os = false) := Lib.hid (by rw [HE.out]; exact decide_eq_false hl)
    have HI := Lib.hid (fun w => in_no (os.length : Int) 1 3 w (by omega))
    clear hl HE
    go_wp2_with fail
    refine (HI.out _).mono ?_
    rintro e w1 ⟨rfl, rfl⟩
    go_wp2
    go_ret
    exact ⟨ret_b HT.out.symm, rfl⟩
set_option maxHeartbeats 16000000 in
theorem specIsQuery (id tn : Int) (cv ov : Value) (cs : List CondD) (os : List Int) (w : World) (h : CondsR w cv cs) (hn : cs.length ≤ 1048576) (g : Ints w ov os) (hm : os.length ≤ 1048576) :
  Calls Tryz.prog 91 #[qV id tn cv ov] w fun e w' => e = .returned (.bool (queryB id tn cs os)) ∧ Below w.heap.size w w' := by
 obtain ⟨va, vcap, rfl⟩ := condsR_len h
 obtain ⟨oa, ocap, rfl⟩ := ints_len g
 have hb0 : Below w.heap.size w (w.alloc (.cells #[.int .i64 id, .int .i64 tn, .slice va cs.length vcap, .slice oa os.length ocap] 53)) := (Below.refl _ w).alloc (Nat.le_refl _) _
 have HB0 := Lib.hid hb0
 have HG0 := Lib.hid (heap_alloc_new w (.cells #[.int .i64 id, .int .i64 tn, .slice va cs.length vcap, .slice oa os.length ocap] 53))
 have HH := Lib.hid (condsR_below h hb0)
 have HO := Lib.hid (ints_below g hb0)
 have HFD := Lib.hid (fun w h => specFields (.slice oa os.length ocap) os w h hm)
 have HZ : Hid (w.heap.size < (w.alloc (.cells #[.int .i64 id, .int .i64 tn, .slice va cs.length vcap, .slice oa os.length ocap] 53)).heap.size) := Lib.hid (by simp)
 clear h g hm hb0
 go_enter Tryz.func91, Tryz.ntmps91
 go_wp2
 generalize w.alloc (.cells #[.int .i64 id, .int .i64 tn, .slice va cs.length vcap, .slice oa os.length ocap] 53) = W at *
 go_loopw [3] (fun i wr => ∃ k : Nat, k ≤ cs.length ∧ i = .int .i64 k ∧ Hid (CondsTo cs k) ∧ Below W.heap.size W wr) (fun i _ => cs.length - (intOf i).toNat)
 case atStart => exact ⟨0, Nat.zero_le _, rfl, Lib.hid (fun i hi => by omega), Below.refl _ _⟩
 case round =>
  obtain ⟨k, hk, rfl, hall, hbel⟩ := hrel
  have kb := (hbel.block w.heap.size HZ.out).trans HG0.out
  have hwl := (Array.getElem?_eq_some_iff.1 kb).1
  have p2 := (cell_of_row wr _ 2 _ _ _ kb).trans (show _ = some (Value.slice va cs.length vcap) from rfl)
  by_cases hlt : k < cs.length
  ·
   have H1 := Lib.hid (condsR_below HH.out hbel)
   obtain ⟨b, off, cap', hv, hbl, hc1, hc2, hc3⟩ := condsR_at H1.out hlt
   simp only [Value.slice.injEq] at hv
   obtain ⟨rfl, _, rfl⟩ := hv
   have HBAD := Lib.hid (condsB_bad (cs := cs) (k := k) hlt)
   have HSTEP := Lib.hid (condsTo_step hall.out)
   have HR := Lib.hid (fun w => specIsCond (cs.getD k c0D).1 (cs.getD k c0D).2.1 (cs.getD k c0D).2.2 w)
   have i1 : (0 : Int) ≤ (k : Int) := by omega
   have i2 : (k : Int) < (cs.length : Int) := by omega
   clear hall kb
   have er : (((cs.getD k c0D).1, (cs.getD k c0D).2.1, (cs.getD k c0D).2.2) : CondD) = cs.getD k c0D := rfl
   rw [er] at HR
   clear er
   cases hrb : condB (cs.getD k c0D) with
   | false =>
    have HF : Hid (queryB id tn cs os = false) := Lib.hid (by unfold queryB; rw [HBAD.out (Or.inl hrb)]; rfl)
    rw [hrb] at HR
    clear hrb HBAD HSTEP H1
    generalize cs.getD k c0D = c at *
    obtain ⟨f, l, hh⟩ := c
    simp only at hc1 hc2 hc3 HR
    go_wp2
    refine wp_region_held_drew (S := fun w' => w'.cell? ⟨w.heap.size, 2, none⟩ = some (.slice (some ⟨b, off, none⟩) cs.length vcap) ∧ w'.cell? ⟨b, off + k * 3, none⟩ = some (.int .i64 f) ∧ w'.cell? ⟨b, off + k * 3 + 1, none⟩ = some (.int .i64 l) ∧ w'.cell? ⟨b, off + k * 3 + 2, none⟩ = some (.int .i64 hh)) (by kernel_rfl) ⟨p2, hc1, hc2, hc3⟩ (fun hHeld => ?_)
    refine tQ (i := 0) ?_
    try simp only [Act.put, lA, lB, lC]
    refine tQ (i := 1) ?_
    try simp only [Act.put, lA, lB, lC]
    refine tQ (i := 2) ?_
    try simp only [Act.put, lA, lB, lC]
    refine tQ (i := 3) ?_
    try simp only [Act.put, lA, lB, lC]
    refine tQ (i := 4) ?_
    try simp only [Act.put, lA, lB, lC]
    refine rA 5 (fun K hK => ?_)
    go_simp
    refine (HR.out _).mono ?_
    rintro e w8 ⟨rfl, b9⟩
    have b10 : Below wr.heap.size wr w8 := ⟨b9.os, b9.tape, b9.output, b9.size, b9.block⟩
    have s0 := (b10.cell (p := ⟨w.heap.size, 2, none⟩) hwl).trans p2
    have s1 := (b10.cell (p := ⟨b, off + k * 3, none⟩) hbl).trans hc1
    have s2 := (b10.cell (p := ⟨b, off + k * 3 + 1, none⟩) hbl).trans hc2
    have s3 := (b10.cell (p := ⟨b, off + k * 3 + 2, none⟩) hbl).trans hc3
    refine hK.out _ _ ⟨s0, s1, s2, s3⟩ (fun hHeld => ?_)
    clear hK K
    try simp only [Act.put, lA, lB, lC]
    refine tQ (i := 6) ?_
    try simp only [Act.put, lA, lB, lC]
    refine tQ (i := 7) ?_
    try simp only [Act.put, lA, lB, lC]
    refine tO (i := 8) ?_
    try simp only [Act.put, lA, lB, lC]
    refine tO (i := 9) ?_
    try simp only [Act.put, lA, lB, lC]
    refine tO (i := 10) ?_
    try simp only [Act.put, lA, lB, lC]
    refine tO (i := 11) ?_
    try simp only [Act.put, lA, lB, lC]
    refine tO (i := 12) ?_
    try simp only [Act.put, lA, lB, lC]
    refine tO (i := 13) ?_
    try simp only [Act.put, lA, lB, lC]
    refine tO (i := 14) ?_
    try simp only [Act.put, lA, lB, lC]
    refine tO (i := 15) ?_
    try simp only [Act.put, lA, lB, lC]
    refine tO (i := 16) ?_
    try simp only [Act.put, lA, lB, lC]
    refine tO (i := 17) ?_
    try simp only [Act.put, lA, lB, lC]
    refine tO (i := 18) ?_
    try simp only [Act.put, lA, lB, lC]
    refine tO (i := 19) ?_
    try simp only [Act.put, lA, lB, lC]
    refine tO (i := 20) ?_
    try simp only [Act.put, lA, lB, lC]
    refine tO (i := 21) ?_
    try simp only [Act.put, lA, lB, lC]
    refine tO (i := 22) ?_
    try simp only [Act.put, lA, lB, lC]
    refine tO (i := 23) ?_
    try simp only [Act.put, lA, lB, lC]
    refine tO (i := 24) ?_
    try simp only [Act.put, lA, lB, lC]
    refine tO (i := 25) ?_
    try simp only [Act.put, lA, lB, lC]
    refine tQ (i := 26) ?_
    try simp only [Act.put, lA, lB, lC]
    refine wpAnyH_done (by kernel_rfl) ?_ _
    have b11 := hbel.trans (b10.mono hbel.size)
    clear s0 s1 s2 s3 hHeld b9 b10
    try clear s4
    go_wp2
    go_ret
    exact ⟨ret_b HF.out.symm, HB0.out.trans (b11.mono HB0.out.size)⟩
   | true =>
    rw [hrb] at HR
    by_cases hz : k = 0
    ·
     have HA := Lib.hid (HSTEP.out hrb (fun g => absurd g (by omega)))
     have hg : decide ((0 : Int) < (k : Int)) = false := decide_eq_false (by omega)
     have hgn : decide (0 < k) = false := decide_eq_false (by omega)
     clear hrb HBAD HSTEP H1 hz
     generalize cs.getD k c0D = c at *
     obtain ⟨f, l, hh⟩ := c
     simp only at hc1 hc2 hc3 HR
     go_wp2
     refine wp_region_held_drew (S := fun w' => w'.cell? ⟨w.heap.size, 2, none⟩ = some (.slice (some ⟨b, off, none⟩) cs.length vcap) ∧ w'.cell? ⟨b, off + k * 3, none⟩ = some (.int .i64 f) ∧ w'.cell? ⟨b, off + k * 3 + 1, none⟩ = some (.int .i64 l) ∧ w'.cell? ⟨b, off + k * 3 + 2, none⟩ = some (.int .i64 hh)) (by kernel_rfl) ⟨p2, hc1, hc2, hc3⟩ (fun hHeld => ?_)
     refine tQ (i := 0) ?_
     try simp only [Act.put, lA, lB, lC]
     refine tQ (i := 1) ?_
     try simp only [Act.put, lA, lB, lC]
     refine tQ (i := 2) ?_
     try simp only [Act.put, lA, lB, lC]
     refine tQ (i := 3) ?_
     try simp only [Act.put, lA, lB, lC]
     refine tQ (i := 4) ?_
     try simp only [Act.put, lA, lB, lC]
     refine rA 5 (fun K hK => ?_)
     go_simp
     refine (HR.out _).mono ?_
     rintro e w8 ⟨rfl, b9⟩
     have b10 : Below wr.heap.size wr w8 := ⟨b9.os, b9.tape, b9.output, b9.size, b9.block⟩
     have s0 := (b10.cell (p := ⟨w.heap.size, 2, none⟩) hwl).trans p2
     have s1 := (b10.cell (p := ⟨b, off + k * 3, none⟩) hbl).trans hc1
     have s2 := (b10.cell (p := ⟨b, off + k * 3 + 1, none⟩) hbl).trans hc2
     have s3 := (b10.cell (p := ⟨b, off + k * 3 + 2, none⟩) hbl).trans hc3
     refine hK.out _ _ ⟨s0, s1, s2, s3⟩ (fun hHeld => ?_)
     clear hK K
     try simp only [Act.put, lA, lB, lC]
     refine tQ (i := 6) ?_
     try simp only [Act.put, lA, lB, lC]
     refine tQ (i := 7) ?_
     try simp only [Act.put, lA, lB, lC]
     refine tQ (i := 8) ?_
     try simp only [Act.put, lA, lB, lC]
     refine tQ (i := 9) ?_
     try simp only [Act.put, lA, lB, lC]
     refine tQ (i := 10) ?_
     try simp only [Act.put, lA, lB, lC]
     refine tO (i := 11) ?_
     try simp only [Act.put, lA, lB, lC]
     refine tO (i := 12) ?_
     try simp only [Act.put, lA, lB, lC]
     refine tO (i := 13) ?_
     try simp only [Act.put, lA, lB, lC]
     refine tO (i := 14) ?_
     try simp only [Act.put, lA, lB, lC]
     refine tO (i := 15) ?_
     try simp only [Act.put, lA, lB, lC]
     refine tO (i := 16) ?_
     try simp only [Act.put, lA, lB, lC]
     refine tO (i := 17) ?_
     try simp only [Act.put, lA, lB, lC]
     refine tO (i := 18) ?_
     try simp only [Act.put, lA, lB, lC]
     refine tO (i := 19) ?_
     try simp only [Act.put, lA, lB, lC]
     refine tO (i := 20) ?_
     try simp only [Act.put, lA, lB, lC]
     refine tO (i := 21) ?_
     try simp only [Act.put, lA, lB, lC]
     refine tO (i := 22) ?_
     try simp only [Act.put, lA, lB, lC]
     refine tO (i := 23) ?_
     try simp only [Act.put, lA, lB, lC]
     refine tO (i := 24) ?_
     try simp only [Act.put, lA, lB, lC]
     refine tQ (i := 25) ?_
     try simp only [Act.put, lA, lB, lC]
     refine tQ (i := 26) ?_
     try simp only [Act.put, lA, lB, lC]
     refine wpAnyH_done (by kernel_rfl) ?_ _
     have b11 := hbel.trans (b10.mono hbel.size)
     clear s0 s1 s2 s3 hHeld b9 b10
     try clear s4
     go_wp2
     go_roundw
     case rel => exact ⟨k + 1, by omega, by go_num, HA, b11⟩
     case measure => simp [intOf]; omega
    ·
     obtain ⟨m, hkm⟩ : ∃ m, k = m + 1 := ⟨k - 1, by omega⟩
     have hml : m < cs.length := by omega
     obtain ⟨b', off', cap'', hv', _, hc0, _, _⟩ := condsR_at H1.out hml
     simp only [Value.slice.injEq, Option.some.injEq, Addr.mk.injEq] at hv'
     obtain ⟨⟨rfl, rfl, _⟩, _, rfl⟩ := hv'
     have hg : decide ((0 : Int) < (k : Int)) = true := decide_eq_true (by omega)
     have hgn : decide (0 < k) = true := decide_eq_true (by omega)
     have j1 : (0 : Int) ≤ (m : Int) := by omega
     have j2 : (m : Int) < (cs.length : Int) := by omega
     have hsub : IntKind.i64.wrap ((k : Int) - 1) = (m : Int) := by rw [IntWalk.i64_in _ (by omega)]; omega
     rw [show k - 1 = m by omega] at HBAD HSTEP
     by_cases hle : (cs.getD k c0D).1 ≤ (cs.getD m c0D).1
     ·
      have HF : Hid (queryB id tn cs os = false) := Lib.hid (by unfold queryB; rw [HBAD.out (Or.inr ⟨by omega, by omega⟩)]; rfl)
      have hd := decide_eq_true hle
      clear hrb HBAD HSTEP H1 hz hle hkm
      generalize (cs.getD m c0D).1 = fp at *
      generalize cs.getD k c0D = c at *
      obtain ⟨f, l, hh⟩ := c
      simp only at hc1 hc2 hc3 HR hd
      go_wp2
      refine wp_region_held_drew (S := fun w' => w'.cell? ⟨w.heap.size, 2, none⟩ = some (.slice (some ⟨b, off, none⟩) cs.length vcap) ∧ w'.cell? ⟨b, off + k * 3, none⟩ = some (.int .i64 f) ∧ w'.cell? ⟨b, off + k * 3 + 1, none⟩ = some (.int .i64 l) ∧ w'.cell? ⟨b, off + k * 3 + 2, none⟩ = some (.int .i64 hh) ∧ w'.cell? ⟨b, off + m * 3, none⟩ = some (.int .i64 fp)) (by kernel_rfl) ⟨p2, hc1, hc2, hc3, hc0⟩ (fun hHeld => ?_)
      refine tQ (i := 0) ?_
      try simp only [Act.put, lA, lB, lC]
      refine tQ (i := 1) ?_
      try simp only [Act.put, lA, lB, lC]
      refine tQ (i := 2) ?_
      try simp only [Act.put, lA, lB, lC]
      refine tQ (i := 3) ?_
      try simp only [Act.put, lA, lB, lC]
      refine tQ (i := 4) ?_
      try simp only [Act.put, lA, lB, lC]
      refine rA 5 (fun K hK => ?_)
      go_simp
      refine (HR.out _).mono ?_
      rintro e w8 ⟨rfl, b9⟩
      have b10 : Below wr.heap.size wr w8 := ⟨b9.os, b9.tape, b9.output, b9.size, b9.block⟩
      have s0 := (b10.cell (p := ⟨w.heap.size, 2, none⟩) hwl).trans p2
      have s1 := (b10.cell (p := ⟨b, off + k * 3, none⟩) hbl).trans hc1
      have s2 := (b10.cell (p := ⟨b, off + k * 3 + 1, none⟩) hbl).trans hc2
      have s3 := (b10.cell (p := ⟨b, off + k * 3 + 2, none⟩) hbl).trans hc3
      have s4 := (b10.cell (p := ⟨b, off + m * 3, none⟩) hbl).trans hc0
      refine hK.out _ _ ⟨s0, s1, s2, s3, s4⟩ (fun hHeld => ?_)
      clear hK K
      try simp only [Act.put, lA, lB, lC]
      refine tQ (i := 6) ?_
      try simp only [Act.put, lA, lB, lC]
      refine tQ (i := 7) ?_
      try simp only [Act.put, lA, lB, lC]
      refine tQ (i := 8) ?_
      try simp only [Act.put, lA, lB, lC]
      refine tQ (i := 9) ?_
      try simp only [Act.put, lA, lB, lC]
      refine tQ (i := 10) ?_
      try simp only [Act.put, lA, lB, lC]
      refine tQ (i := 11) ?_
      try simp only [Act.put, lA, lB, lC]
      refine tQ (i := 12) ?_
      try simp only [Act.put, lA, lB, lC]
      refine tQ (i := 13) ?_
      try simp only [Act.put, lA, lB, lC]
      refine tQ (i := 14) ?_
      try simp only [Act.put, lA, lB, lC]
      refine tQ (i := 15) ?_
      try simp only [Act.put, lA, lB, lC]
      refine tQ (i := 16) ?_
      try simp only [Act.put, lA, lB, lC]
      refine tQ (i := 17) ?_
      try simp only [Act.put, lA, lB, lC]
      refine tQ (i := 18) ?_
      try simp only [Act.put, lA, lB, lC]
      refine tQ (i := 19) ?_
      try simp only [Act.put, lA, lB, lC]
      refine tQ (i := 20) ?_
      try simp only [Act.put, lA, lB, lC]
      refine tQ (i := 21) ?_
      try simp only [Act.put, lA, lB, lC]
      refine tQ (i := 22) ?_
      try simp only [Act.put, lA, lB, lC]
      refine tQ (i := 23) ?_
      try simp only [Act.put, lA, lB, lC]
      refine tQ (i := 24) ?_
      try simp only [Act.put, lA, lB, lC]
      refine tQ (i := 25) ?_
      try simp only [Act.put, lA, lB, lC]
      refine tQ (i := 26) ?_
      try simp only [Act.put, lA, lB, lC]
      refine wpAnyH_done (by kernel_rfl) ?_ _
      have b11 := hbel.trans (b10.mono hbel.size)
      clear s0 s1 s2 s3 hHeld b9 b10
      try clear s4
      go_wp2
      go_ret
      exact ⟨ret_b HF.out.symm, HB0.out.trans (b11.mono HB0.out.size)⟩
     ·
      have HA := Lib.hid (HSTEP.out hrb (fun _ => by omega))
      have hd := decide_eq_false hle
      clear hrb HBAD HSTEP H1 hz hle hkm
      generalize (cs.getD m c0D).1 = fp at *
      generalize cs.getD k c0D = c at *
      obtain ⟨f, l, hh⟩ := c
      simp only at hc1 hc2 hc3 HR hd
      go_wp2
      refine wp_region_held_drew (S := fun w' => w'.cell? ⟨w.heap.size, 2, none⟩ = some (.slice (some ⟨b, off, none⟩) cs.length vcap) ∧ w'.cell? ⟨b, off + k * 3, none⟩ = some (.int .i64 f) ∧ w'.cell? ⟨b, off + k * 3 + 1, none⟩ = some (.int .i64 l) ∧ w'.cell? ⟨b, off + k * 3 + 2, none⟩ = some (.int .i64 hh) ∧ w'.cell? ⟨b, off + m * 3, none⟩ = some (.int .i64 fp)) (by kernel_rfl) ⟨p2, hc1, hc2, hc3, hc0⟩ (fun hHeld => ?_)
      refine tQ (i := 0) ?_
      try simp only [Act.put, lA, lB, lC]
      refine tQ (i := 1) ?_
      try simp only [Act.put, lA, lB, lC]
      refine tQ (i := 2) ?_
      try simp only [Act.put, lA, lB, lC]
      refine tQ (i := 3) ?_
      try simp only [Act.put, lA, lB, lC]
      refine tQ (i := 4) ?_
      try simp only [Act.put, lA, lB, lC]
      refine rA 5 (fun K hK => ?_)
      go_simp
      refine (HR.out _).mono ?_
      rintro e w8 ⟨rfl, b9⟩
      have b10 : Below wr.heap.size wr w8 := ⟨b9.os, b9.tape, b9.output, b9.size, b9.block⟩
      have s0 := (b10.cell (p := ⟨w.heap.size, 2, none⟩) hwl).trans p2
      have s1 := (b10.cell (p := ⟨b, off + k * 3, none⟩) hbl).trans hc1
      have s2 := (b10.cell (p := ⟨b, off + k * 3 + 1, none⟩) hbl).trans hc2
      have s3 := (b10.cell (p := ⟨b, off + k * 3 + 2, none⟩) hbl).trans hc3
      have s4 := (b10.cell (p := ⟨b, off + m * 3, none⟩) hbl).trans hc0
      refine hK.out _ _ ⟨s0, s1, s2, s3, s4⟩ (fun hHeld => ?_)
      clear hK K
      try simp only [Act.put, lA, lB, lC]
      refine tQ (i := 6) ?_
      try simp only [Act.put, lA, lB, lC]
      refine tQ (i := 7) ?_
      try simp only [Act.put, lA, lB, lC]
      refine tQ (i := 8) ?_
      try simp only [Act.put, lA, lB, lC]
      refine tQ (i := 9) ?_
      try simp only [Act.put, lA, lB, lC]
      refine tQ (i := 10) ?_
      try simp only [Act.put, lA, lB, lC]
      refine tQ (i := 11) ?_
      try simp only [Act.put, lA, lB, lC]
      refine tQ (i := 12) ?_
      try simp only [Act.put, lA, lB, lC]
      refine tQ (i := 13) ?_
      try simp only [Act.put, lA, lB, lC]
      refine tQ (i := 14) ?_
      try simp only [Act.put, lA, lB, lC]
      refine tQ (i := 15) ?_
      try simp only [Act.put, lA, lB, lC]
      refine tQ (i := 16) ?_
      try simp only [Act.put, lA, lB, lC]
      refine tQ (i := 17) ?_
      try simp only [Act.put, lA, lB, lC]
      refine tQ (i := 18) ?_
      try simp only [Act.put, lA, lB, lC]
      refine tQ (i := 19) ?_
      try simp only [Act.put, lA, lB, lC]
      refine tQ (i := 20) ?_
      try simp only [Act.put, lA, lB, lC]
      refine tQ (i := 21) ?_
      try simp only [Act.put, lA, lB, lC]
      refine tQ (i := 22) ?_
      try simp only [Act.put, lA, lB, lC]
      refine tQ (i := 23) ?_
      try simp only [Act.put, lA, lB, lC]
      refine tQ (i := 24) ?_
      try simp only [Act.put, lA, lB, lC]
      refine tQ (i := 25) ?_
      try simp only [Act.put, lA, lB, lC]
      refine tQ (i := 26) ?_
      try simp only [Act.put, lA, lB, lC]
      refine wpAnyH_done (by kernel_rfl) ?_ _
      have b11 := hbel.trans (b10.mono hbel.size)
      clear s0 s1 s2 s3 hHeld b9 b10
      try clear s4
      go_wp2
      go_roundw
      case rel => exact ⟨k + 1, by omega, by go_num, HA, b11⟩
      case measure => simp [intOf]; omega
  ·
   obtain rfl : k = cs.length := by omega
   have HCB := Lib.hid (condsB_all hall.out)
   have p0 := (cell_of_row wr _ 0 _ _ _ kb).trans (show _ = some (Value.int .i64 id) from rfl)
   have p1 := (cell_of_row wr _ 1 _ _ _ kb).trans (show _ = some (Value.int .i64 tn) from rfl)
   have p3 := (cell_of_row wr _ 3 _ _ _ kb).trans (show _ = some (Value.slice oa os.length ocap) from rfl)
   have b11 := HB0.out.trans (hbel.mono HB0.out.size)
   have IO := Lib.hid (ints_below HO.out hbel)
   clear hall kb hbel
   by_cases h1 : 0 ≤ id ∧ id ≤ 23
   ·
    have H1 := Lib.hid (fun w => in_yes id 0 23 w h1.1 h1.2)
    by_cases h2 : 0 ≤ tn ∧ tn ≤ 3
    ·
     have H2 := Lib.hid (fun w => in_yes tn 0 3 w h2.1 h2.2)
     by_cases h3 : cs.length ≤ 3
     ·
      have HQ : Hid (queryB id tn cs os = fieldsB os) := Lib.hid (by unfold queryB; rw [HCB.out, decide_eq_true h1, decide_eq_true h2, decide_eq_true h3]; simp)
      have h3i : (cs.length : Int) ≤ 3 := by omega
      clear h1 h2 h3
      generalize fieldsB os = r at *
      go_wp2_with fail
      refine (H1.out _).mono ?_
      rintro e w1 ⟨rfl, rfl⟩
      go_wp2_with fail
      refine (H2.out _).mono ?_
      rintro e w1 ⟨rfl, rfl⟩
      go_wp2_with fail
      refine (HFD.out _ IO.out).mono ?_
      rintro e w1 ⟨rfl, rfl⟩
      go_wp2
      go_ret
      exact ⟨ret_b HQ.out.symm, b11⟩
     ·
      have HQ : Hid (queryB id tn cs os = false) := Lib.hid (by unfold queryB; rw [decide_eq_false h3]; simp)
      have h3i : ¬ (cs.length : Int) ≤ 3 := by omega
      clear h1 h2 h3
      go_wp2_with fail
      refine (H1.out _).mono ?_
      rintro e w1 ⟨rfl, rfl⟩
      go_wp2_with fail
      refine (H2.out _).mono ?_
      rintro e w1 ⟨rfl, rfl⟩
      go_wp2
      go_ret
      exact ⟨ret_b HQ.out.symm, b11⟩
    ·
     have H2 := Lib.hid (fun w => in_no tn 0 3 w h2)
     have HQ : Hid (queryB id tn cs os = false) := Lib.hid (by unfold queryB; rw [decide_eq_false h2]; simp)
     clear h1 h2
     go_wp2_with fail
     refine (H1.out _).mono ?_
     rintro e w1 ⟨rfl, rfl⟩
     go_wp2_with fail
     refine (H2.out _).mono ?_
     rintro e w1 ⟨rfl, rfl⟩
     go_wp2
     go_ret
     exact ⟨ret_b HQ.out.symm, b11⟩
   ·
    have H1 := Lib.hid (fun w => in_no id 0 23 w h1)
    have HQ : Hid (queryB id tn cs os = false) := Lib.hid (by unfold queryB; rw [decide_eq_false h1]; simp)
    clear h1
    go_wp2_with fail
    refine (H1.out _).mono ?_
    rintro e w1 ⟨rfl, rfl⟩
    go_wp2
    go_ret
    exact ⟨ret_b HQ.out.symm, b11⟩
/-- A query's data: number, tenant, conditions, fields. -/
abbrev QD := Int × Int × List CondD × List Int
def q0D : QD := (0, 0, [], [])
/-- The slice v reads as the queries qs. -/
def QueriesR (w : World) (v : Value) (qs : List QD) : Prop :=
 (qs = [] ∧ ∃ a cap, v = .slice a 0 cap) ∨ ∃ (b off cap : Nat) (vs us : Nat → Value), v = .slice (some ⟨b, off, none⟩) qs.length cap ∧ qs.length ≤ cap ∧ b < w.heap.size ∧
  ∀ j, j < qs.length → w.cell? ⟨b, off + j * 4, none⟩ = some (.int .i64 (qs.getD j q0D).1) ∧ w.cell? ⟨b, off + j * 4 + 1, none⟩ = some (.int .i64 (qs.getD j q0D).2.1) ∧ w.cell? ⟨b, off + j * 4 + 2, none⟩ = some (vs j) ∧ w.cell? ⟨b, off + j * 4 + 3, none⟩ = some (us j) ∧
   CondsR w (vs j) (qs.getD j q0D).2.2.1 ∧ Ints w (us j) (qs.getD j q0D).2.2.2
/-- The slice v owns the queries qs, in blocks from B on, each block once: the conditions of query j lie in vs (2 j), its fields in vs (2 j + 1). -/
def OwnsQ (w : World) (B : Nat) (v : Value) (qs : List QD) : Prop :=
 ∃ (cs : List Value) (vs : Nat → Value), w.ownsRow B 53 4 v qs.length cs ∧
  (∀ j, j < qs.length → cs[j * 4]? = some (.int .i64 (qs.getD j q0D).1) ∧ cs[j * 4 + 1]? = some (.int .i64 (qs.getD j q0D).2.1) ∧ cs[j * 4 + 2]? = some (vs (2 * j)) ∧ cs[j * 4 + 3]? = some (vs (2 * j + 1)) ∧
   OwnsC w B (vs (2 * j)) (qs.getD j q0D).2.2.1 ∧ OwnsN w B (vs (2 * j + 1)) (qs.getD j q0D).2.2.2) ∧
  (∀ i, i < 2 * qs.length → ∀ b, (vs i).ownBlock = some b → v.ownBlock ≠ some b) ∧
  ∀ i j, i < 2 * qs.length → j < 2 * qs.length → i ≠ j → ∀ b, (vs i).ownBlock = some b → (vs j).ownBlock ≠ some b
/-- Does the order hold each field once? -/
def orderB (os : List Int) : Bool := decide (os.length = 3) && (List.range os.length).all fun i => decide (0 ≤ os.getD i 0 ∧ os.getD i 0 ≤ 2) && !decide (os.getD i 0 ∈ os.take i)
def ordersL : List (List Int) := [[0, 1, 2], [0, 2, 1], [1, 0, 2], [1, 2, 0], [2, 0, 1], [2, 1, 0]]
abbrev ChargeD := Int × Int × List Int × List Int × List Int
abbrev ActD := QD × Int × List Int × Int × Int × Int × List RowD
abbrev FinD := QD × Int × Int × List RowD
abbrev EngD := StoreD × Int × List Int × List ActD × List FinD × List ChargeD × Int
def x0D : ChargeD := (0, 0, [], [], [])
def a0D : ActD := (q0D, 0, [], 0, 0, 0, [])
def f0D : FinD := (q0D, 0, 0, [])
/- All of a list. -/
theorem allB_at {α : Type} {p : α → Bool} {l : List α} (d : α) (h : l.all p = true) {k : Nat} (hk : k < l.length) : p (l.getD k d) = true := by
 rw [List.all_eq_true] at h
 have e : l.getD k d = l[k] := by simp [List.getD, hk]
 rw [e]; exact h _ (List.getElem_mem hk)
theorem allB_no {α : Type} {p : α → Bool} {l : List α} (d : α) {k : Nat} (hk : k < l.length) (h : p (l.getD k d) = false) : l.all p = false := by
 rw [← Bool.not_eq_true]
 intro g
 have := allB_at d g hk
 rw [h] at this; cases this
theorem allB_yes {α : Type} {p : α → Bool} {l : List α} (d : α) (h : ∀ i, i < l.length → p (l.getD i d) = true) : l.all p = true := by
 rw [List.all_eq_true]
 intro x hx
 obtain ⟨i, hi, rfl⟩ := List.getElem_of_mem hx
 have := h i hi
 have e : l.getD i d = l[i] := by simp [List.getD, hi]
 rw [e] at this; exact this
def AllTo {α : Type} (p : α → Bool) (d : α) (l : List α) (k : Nat) : Prop := ∀ i, i < k → p (l.getD i d) = true
theorem allTo_step {α : Type} {p : α → Bool} {d : α} {l : List α} {k : Nat} (h : AllTo p d l k) (g : p (l.getD k d) = true) : AllTo p d l (k + 1) := fun i hi => by
 by_cases e : i = k
 ·
  subst e; exact g
 ·
  exact h i (by omega)
theorem allTo_zero {α : Type} (p : α → Bool) (d : α) (l : List α) : AllTo p d l 0 := fun i hi => absurd hi (Nat.not_lt_zero i)
/- What is valid. -/
def chargeHP (x : ChargeD) : Prop := (1 ≤ x.2.2.1.length ∧ x.2.2.1.length ≤ 8) ∧ (x.2.2.2.1.length = x.2.2.1.length ∧ x.2.2.2.2.length = x.2.2.1.length) ∧ (0 ≤ x.1 ∧ x.1 ≤ 7) ∧ (0 ≤ x.2.1 ∧ x.2.1 ≤ 4)
instance (x : ChargeD) : Decidable (chargeHP x) := by unfold chargeHP; infer_instance
def tenB (t : Int) : Bool := decide (0 ≤ t ∧ t ≤ 3)
def getB (b r : Int) : Bool := decide (0 ≤ r ∧ r ≤ b)
def chargeB (x : ChargeD) : Bool := (setB x.2.2.1 && decide (chargeHP x)) && (x.2.2.2.1.all tenB && x.2.2.2.2.all (getB x.2.1))
theorem charge_no1 {x : ChargeD} (h : setB x.2.2.1 = false) : chargeB x = false := by unfold chargeB; rw [h]; rfl
theorem charge_no2 {x : ChargeD} (h : ¬ chargeHP x) : chargeB x = false := by unfold chargeB; rw [decide_eq_false h]; simp
theorem charge_no3 {x : ChargeD} (h : x.2.2.2.1.all tenB = false) : chargeB x = false := by unfold chargeB; rw [h]; simp
theorem charge_no4 {x : ChargeD} (h : x.2.2.2.2.all (getB x.2.1) = false) : chargeB x = false := by unfold chargeB; rw [h]; simp
theorem charge_yes {x : ChargeD} (h1 : setB x.2.2.1 = true) (h2 : chargeHP x) (h3 : x.2.2.2.1.all tenB = true) (h4 : x.2.2.2.2.all (getB x.2.1) = true) : chargeB x = true := by unfold chargeB; rw [h1, decide_eq_true h2, h3, h4]; rfl
def TodoTo (l : List Int) (n : Nat) (k : Nat) : Prop := ∀ i, i < k → (0 ≤ l.getD i 0 ∧ l.getD i 0 < n) ∧ (0 < i → l.getD (i - 1) 0 < l.getD i 0)
instance (l : List Int) (n k : Nat) : Decidable (TodoTo l n k) := by unfold TodoTo; infer_instance
def todoP (l : List Int) (n : Nat) : Prop := 1 ≤ l.length ∧ TodoTo l n l.length
instance (l : List Int) (n : Nat) : Decidable (todoP l n) := by unfold todoP; infer_instance
def todoB (l : List Int) (n : Nat) : Bool := decide (todoP l n)
theorem todoTo_zero (l : List Int) (n : Nat) : TodoTo l n 0 := fun i hi => absurd hi (Nat.not_lt_zero i)
theorem todoTo_step {l : List Int} {n k : Nat} (h : TodoTo l n k) (h1 : 0 ≤ l.getD k 0) (h2 : l.getD k 0 < n) (h3 : 0 < k → l.getD (k - 1) 0 < l.getD k 0) : TodoTo l n (k + 1) := fun i hi => by
 by_cases e : i = k
 ·
  subst e; exact ⟨⟨h1, h2⟩, h3⟩
 ·
  exact h i (by omega)
theorem todo_no {l : List Int} {n k : Nat} (hk : k < l.length) (h : ¬ ((0 ≤ l.getD k 0 ∧ l.getD k 0 < n) ∧ (0 < k → l.getD (k - 1) 0 < l.getD k 0))) : ¬ TodoTo l n l.length := fun g => h (g k hk)
def listB (l : List RowD) : Bool := decide (l.length ≤ 1000) && l.all rowB
def qdB (q : QD) : Bool := queryB q.1 q.2.1 q.2.2.1 q.2.2.2
def actHP (s : StoreD) (a : ActD) : Prop := (0 ≤ a.2.1 ∧ a.2.1 ≤ s.2) ∧ (0 ≤ a.2.2.2.1 ∧ a.2.2.2.1 ≤ 100000) ∧ (0 ≤ a.2.2.2.2.1 ∧ a.2.2.2.2.1 ≤ 1000) ∧ (0 ≤ a.2.2.2.2.2.1 ∧ a.2.2.2.2.2.1 ≤ 32)
instance (s : StoreD) (a : ActD) : Decidable (actHP s a) := by unfold actHP; infer_instance
def actB (s : StoreD) (a : ActD) : Bool := (qdB a.1 && decide (actHP s a)) && (todoB a.2.2.1 s.1.length && listB a.2.2.2.2.2.2)
theorem act_no1 {s : StoreD} {a : ActD} (h : qdB a.1 = false) : actB s a = false := by unfold actB; rw [h]; rfl
theorem act_no2 {s : StoreD} {a : ActD} (h : ¬ actHP s a) : actB s a = false := by unfold actB; rw [decide_eq_false h]; simp
theorem act_no3 {s : StoreD} {a : ActD} (h : todoB a.2.2.1 s.1.length = false) : actB s a = false := by unfold actB; rw [h]; simp
theorem act_no4 {s : StoreD} {a : ActD} (h : listB a.2.2.2.2.2.2 = false) : actB s a = false := by unfold actB; rw [h]; simp
theorem act_yes {s : StoreD} {a : ActD} (h1 : qdB a.1 = true) (h2 : actHP s a) (h3 : todoB a.2.2.1 s.1.length = true) (h4 : listB a.2.2.2.2.2.2 = true) : actB s a = true := by unfold actB; rw [h1, decide_eq_true h2, h3, h4]; rfl
def finHP (now : Int) (d : FinD) : Prop := (0 ≤ d.2.1 ∧ d.2.1 ≤ now) ∧ (0 ≤ d.2.2.1 ∧ d.2.2.1 ≤ 100000)
instance (now : Int) (d : FinD) : Decidable (finHP now d) := by unfold finHP; infer_instance
def finB (now : Int) (d : FinD) : Bool := (qdB d.1 && decide (finHP now d)) && listB d.2.2.2
theorem fin_no1 {now : Int} {d : FinD} (h : qdB d.1 = false) : finB now d = false := by unfold finB; rw [h]; rfl
theorem fin_no2 {now : Int} {d : FinD} (h : ¬ finHP now d) : finB now d = false := by unfold finB; rw [decide_eq_false h]; simp
theorem fin_no3 {now : Int} {d : FinD} (h : listB d.2.2.2 = false) : finB now d = false := by unfold finB; rw [h]; simp
theorem fin_yes {now : Int} {d : FinD} (h1 : qdB d.1 = true) (h2 : finHP now d) (h3 : listB d.2.2.2 = true) : finB now d = true := by unfold finB; rw [h1, decide_eq_true h2, h3]; rfl
def ActsTo (s : StoreD) (l : List ActD) (k : Nat) : Prop := ∀ i, i < k → actB s (l.getD i a0D) = true ∧ (0 < i → (l.getD (i - 1) a0D).1.1 < (l.getD i a0D).1.1)
instance (s : StoreD) (l : List ActD) (k : Nat) : Decidable (ActsTo s l k) := by unfold ActsTo; infer_instance
def actsB (s : StoreD) (l : List ActD) : Bool := decide (ActsTo s l l.length)
theorem actsTo_zero (s : StoreD) (l : List ActD) : ActsTo s l 0 := fun i hi => absurd hi (Nat.not_lt_zero i)
theorem actsTo_step {s : StoreD} {l : List ActD} {k : Nat} (h : ActsTo s l k) (h1 : actB s (l.getD k a0D) = true) (h2 : 0 < k → (l.getD (k - 1) a0D).1.1 < (l.getD k a0D).1.1) : ActsTo s l (k + 1) := fun i hi => by
 by_cases e : i = k
 ·
  subst e; exact ⟨h1, h2⟩
 ·
  exact h i (by omega)
theorem acts_no {s : StoreD} {l : List ActD} {k : Nat} (hk : k < l.length) (h : actB s (l.getD k a0D) = false ∨ (0 < k ∧ ¬ (l.getD (k - 1) a0D).1.1 < (l.getD k a0D).1.1)) : actsB s l = false := decide_eq_false fun g => by
 have g' := g k hk
 rcases h with h | ⟨h, h'⟩
 ·
  rw [h] at g'; cases g'.1
 ·
  exact h' (g'.2 h)
theorem acts_yes {s : StoreD} {l : List ActD} (h : ActsTo s l l.length) : actsB s l = true := decide_eq_true h
def engHP (e : EngD) : Prop := (0 ≤ e.2.1 ∧ e.2.1 < e.1.1.length) ∧ e.2.2.2.1.length ≤ 8 ∧ (0 ≤ e.2.2.2.2.2.2 ∧ e.2.2.2.2.2.2 ≤ 100000) ∧ e.2.2.2.2.1.length ≤ 1000 ∧ e.2.2.2.2.2.1.length ≤ 1000
instance (e : EngD) : Decidable (engHP e) := by unfold engHP; infer_instance
def engB (e : EngD) : Bool := (storeB e.1.1 e.1.2 && (decide (engHP e) && orderB e.2.2.1)) && (actsB e.1 e.2.2.2.1 && (e.2.2.2.2.1.all (finB e.1.2) && e.2.2.2.2.2.1.all chargeB))
theorem eng_no1 {e : EngD} (h : storeB e.1.1 e.1.2 = false) : engB e = false := by unfold engB; rw [h]; rfl
theorem eng_no2 {e : EngD} (h : ¬ engHP e) : engB e = false := by unfold engB; rw [decide_eq_false h]; simp
theorem eng_no3 {e : EngD} (h : orderB e.2.2.1 = false) : engB e = false := by unfold engB; rw [h]; simp
theorem eng_no4 {e : EngD} (h : actsB e.1 e.2.2.2.1 = false) : engB e = false := by unfold engB; rw [h]; simp
theorem eng_no5 {e : EngD} (h : e.2.2.2.2.1.all (finB e.1.2) = false) : engB e = false := by unfold engB; rw [h]; simp
theorem eng_no6 {e : EngD} (h : e.2.2.2.2.2.1.all chargeB = false) : engB e = false := by unfold engB; rw [h]; simp
theorem eng_yes {e : EngD} (h1 : storeB e.1.1 e.1.2 = true) (h2 : engHP e) (h3 : orderB e.2.2.1 = true) (h4 : actsB e.1 e.2.2.2.1 = true) (h5 : e.2.2.2.2.1.all (finB e.1.2) = true) (h6 : e.2.2.2.2.2.1.all chargeB = true) : engB e = true := by
 unfold engB; rw [h1, decide_eq_true h2, h3, h4, h5, h6]; rfl
theorem eng_iff {e : EngD} (h : engB e = true) : storeB e.1.1 e.1.2 = true ∧ engHP e ∧ orderB e.2.2.1 = true ∧ actsB e.1 e.2.2.2.1 = true := by
 unfold engB at h
 simp only [Bool.and_eq_true, decide_eq_true_eq] at h
 exact ⟨h.1.1, h.1.2.1, h.1.2.2, h.2.1⟩
/- A new engine. -/
/- The active query with a number. -/
def hasA (id : Int) (a : ActD) : Bool := decide (a.1.1 = id)
def findA (l : List ActD) (id : Int) : Int := if l.findIdx (hasA id) < l.length then (l.findIdx (hasA id) : Int) else -1
/- Admission: the new query comes before the first with a greater number. -/
def limB (c : Int) : Bool := decide (0 ≤ c ∧ c ≤ 32)
def admitP (e : EngD) (q : QD) (c : Int) : Prop := engB e = true ∧ qdB q = true ∧ limB c = true ∧ findA e.2.2.2.1 q.1 = -1 ∧ e.2.2.2.1.length < 8
instance (e : EngD) (q : QD) (c : Int) : Decidable (admitP e q c) := by unfold admitP; infer_instance
/- Cancellation, updates. -/
/- What a valid charge is. -/
/- The shares. -/
/- The work. -/
/- What a tenant pays. -/
/- What a coalition would cost. -/
/- What the closure answers. -/
/- Which tenants have been named. -/
def promN (n : Nat) (c : Int) : Int := if c = 0 then (n : Int) else (n : Int) * (n : Int)
theorem promN_zero {n : Nat} {c : Int} (h : c = 0) : promN n c = n := if_pos h
theorem promN_sq {n : Nat} {c : Int} (h : ¬ c = 0) : promN n c = (n : Int) * (n : Int) := if_neg h
theorem promN_max (n : Nat) : promN n 32 = (n : Int) * (n : Int) := promN_sq (by decide)
def promE (e : EngD) (c : Int) : Int := if engB e && limB c then promN e.1.1.length c else 0
theorem promE_yes {e : EngD} {c : Int} (h : engB e = true) (g : limB c = true) : promE e c = promN e.1.1.length c := by unfold promE; rw [h, g]; rfl
theorem promE_no1 {e : EngD} {c : Int} (h : engB e = false) : promE e c = 0 := by unfold promE; rw [h]; rfl
theorem promE_no2 {e : EngD} {c : Int} (h : limB c = false) : promE e c = 0 := by unfold promE; rw [h]; simp
def doneOk (n : Nat) (d : FinD) : Bool := decide (d.2.2.1 ≤ (n : Int) * (n : Int))
def actOk (n : Nat) (a : ActD) : Bool := decide (a.2.2.2.1 < promN n a.2.2.2.2.2.1)
def keptB (e : EngD) : Bool := engB e && (e.2.2.2.2.1.all (doneOk e.1.1.length) && e.2.2.2.1.all (actOk e.1.1.length))
theorem kept_no1 {e : EngD} (h : engB e = false) : keptB e = false := by unfold keptB; rw [h]; rfl
theorem kept_no2 {e : EngD} (h : e.2.2.2.2.1.all (doneOk e.1.1.length) = false) : keptB e = false := by unfold keptB; rw [h]; simp
theorem kept_no3 {e : EngD} (h : e.2.2.2.1.all (actOk e.1.1.length) = false) : keptB e = false := by unfold keptB; rw [h]; simp
theorem kept_yes {e : EngD} (h : engB e = true) (h1 : e.2.2.2.2.1.all (doneOk e.1.1.length) = true) (h2 : e.2.2.2.1.all (actOk e.1.1.length) = true) : keptB e = true := by unfold keptB; rw [h, h1, h2]; rfl
theorem act_at {w : World} {v : Value} {l : List ActD} (h : SlR tActive w v l) {k : Nat} (hk : k < l.length) :
  ∃ (b off cap : Nat) (p2 : Option Addr) (c2 : Nat) (p3 : Option Addr) (c3 : Nat) (p5 : Option Addr) (c5 : Nat) (p9 : Option Addr) (c9 : Nat), v = .slice (some ⟨b, off, none⟩) l.length cap ∧ b < w.heap.size ∧ w.cell? ⟨b, off + k * 10, none⟩ = some (.int .i64 (l.getD k a0D).1.1) ∧ w.cell? ⟨b, off + k * 10 + 1, none⟩ = some (.int .i64 (l.getD k a0D).1.2.1) ∧ w.cell? ⟨b, off + k * 10 + 2, none⟩ = some (.slice p2 (l.getD k a0D).1.2.2.1.length c2) ∧ w.cell? ⟨b, off + k * 10 + 3, none⟩ = some (.slice p3 (l.getD k a0D).1.2.2.2.length c3) ∧ w.cell? ⟨b, off + k * 10 + 4, none⟩ = some (.int .i64 (l.getD k a0D).2.1) ∧ w.cell? ⟨b, off + k * 10 + 5, none⟩ = some (.slice p5 (l.getD k a0D).2.2.1.length c5) ∧ w.cell? ⟨b, off + k * 10 + 6, none⟩ = some (.int .i64 (l.getD k a0D).2.2.2.1) ∧ w.cell? ⟨b, off + k * 10 + 7, none⟩ = some (.int .i64 (l.getD k a0D).2.2.2.2.1) ∧ w.cell? ⟨b, off + k * 10 + 8, none⟩ = some (.int .i64 (l.getD k a0D).2.2.2.2.2.1) ∧ w.cell? ⟨b, off + k * 10 + 9, none⟩ = some (.slice p9 (l.getD k a0D).2.2.2.2.2.2.length c9) ∧ SlR tCond w (.slice p2 (l.getD k a0D).1.2.2.1.length c2) (l.getD k a0D).1.2.2.1 ∧ SlR tInt w (.slice p3 (l.getD k a0D).1.2.2.2.length c3) (l.getD k a0D).1.2.2.2 ∧ SlR tInt w (.slice p5 (l.getD k a0D).2.2.1.length c5) (l.getD k a0D).2.2.1 ∧ SlR tRow w (.slice p9 (l.getD k a0D).2.2.2.2.2.2.length c9) (l.getD k a0D).2.2.2.2.2.2 := by
 obtain ⟨b, off, cap, cs, hv, hb, hc, hR⟩ := slR_at h hk
 change tActive.R w cs (l.getD k a0D) at hR
 generalize l.getD k a0D = r at *
 obtain ⟨⟨a0, a1, x2, x3⟩, a4, x5, a6, a7, a8, x9⟩ := r
 obtain ⟨v2, v3, v5, v9, rfl, h2, h3, h5, h9⟩ := tActive_R hR
 obtain ⟨p2, c2, rfl⟩ := slR_len h2
 obtain ⟨p3, c3, rfl⟩ := slR_len h3
 obtain ⟨p5, c5, rfl⟩ := slR_len h5
 obtain ⟨p9, c9, rfl⟩ := slR_len h9
 exact ⟨b, off, cap, p2, c2, p3, c3, p5, c5, p9, c9, hv, hb, hc 0 (by decide), hc 1 (by decide), hc 2 (by decide), hc 3 (by decide), hc 4 (by decide), hc 5 (by decide), hc 6 (by decide), hc 7 (by decide), hc 8 (by decide), hc 9 (by decide), h2, h3, h5, h9⟩
theorem fin_at {w : World} {v : Value} {l : List FinD} (h : SlR tFinished w v l) {k : Nat} (hk : k < l.length) :
  ∃ (b off cap : Nat) (p2 : Option Addr) (c2 : Nat) (p3 : Option Addr) (c3 : Nat) (p6 : Option Addr) (c6 : Nat), v = .slice (some ⟨b, off, none⟩) l.length cap ∧ b < w.heap.size ∧ w.cell? ⟨b, off + k * 7, none⟩ = some (.int .i64 (l.getD k f0D).1.1) ∧ w.cell? ⟨b, off + k * 7 + 1, none⟩ = some (.int .i64 (l.getD k f0D).1.2.1) ∧ w.cell? ⟨b, off + k * 7 + 2, none⟩ = some (.slice p2 (l.getD k f0D).1.2.2.1.length c2) ∧ w.cell? ⟨b, off + k * 7 + 3, none⟩ = some (.slice p3 (l.getD k f0D).1.2.2.2.length c3) ∧ w.cell? ⟨b, off + k * 7 + 4, none⟩ = some (.int .i64 (l.getD k f0D).2.1) ∧ w.cell? ⟨b, off + k * 7 + 5, none⟩ = some (.int .i64 (l.getD k f0D).2.2.1) ∧ w.cell? ⟨b, off + k * 7 + 6, none⟩ = some (.slice p6 (l.getD k f0D).2.2.2.length c6) ∧ SlR tCond w (.slice p2 (l.getD k f0D).1.2.2.1.length c2) (l.getD k f0D).1.2.2.1 ∧ SlR tInt w (.slice p3 (l.getD k f0D).1.2.2.2.length c3) (l.getD k f0D).1.2.2.2 ∧ SlR tRow w (.slice p6 (l.getD k f0D).2.2.2.length c6) (l.getD k f0D).2.2.2 := by
 obtain ⟨b, off, cap, cs, hv, hb, hc, hR⟩ := slR_at h hk
 change tFinished.R w cs (l.getD k f0D) at hR
 generalize l.getD k f0D = r at *
 obtain ⟨⟨a0, a1, x2, x3⟩, a4, a5, x6⟩ := r
 obtain ⟨v2, v3, v6, rfl, h2, h3, h6⟩ := tFinished_R hR
 obtain ⟨p2, c2, rfl⟩ := slR_len h2
 obtain ⟨p3, c3, rfl⟩ := slR_len h3
 obtain ⟨p6, c6, rfl⟩ := slR_len h6
 exact ⟨b, off, cap, p2, c2, p3, c3, p6, c6, hv, hb, hc 0 (by decide), hc 1 (by decide), hc 2 (by decide), hc 3 (by decide), hc 4 (by decide), hc 5 (by decide), hc 6 (by decide), h2, h3, h6⟩
theorem chg_at {w : World} {v : Value} {l : List ChargeD} (h : SlR tCharge w v l) {k : Nat} (hk : k < l.length) :
  ∃ (b off cap : Nat) (p2 : Option Addr) (c2 : Nat) (p3 : Option Addr) (c3 : Nat) (p4 : Option Addr) (c4 : Nat), v = .slice (some ⟨b, off, none⟩) l.length cap ∧ b < w.heap.size ∧ w.cell? ⟨b, off + k * 5, none⟩ = some (.int .i64 (l.getD k x0D).1) ∧ w.cell? ⟨b, off + k * 5 + 1, none⟩ = some (.int .i64 (l.getD k x0D).2.1) ∧ w.cell? ⟨b, off + k * 5 + 2, none⟩ = some (.slice p2 (l.getD k x0D).2.2.1.length c2) ∧ w.cell? ⟨b, off + k * 5 + 3, none⟩ = some (.slice p3 (l.getD k x0D).2.2.2.1.length c3) ∧ w.cell? ⟨b, off + k * 5 + 4, none⟩ = some (.slice p4 (l.getD k x0D).2.2.2.2.length c4) ∧ SlR tInt w (.slice p2 (l.getD k x0D).2.2.1.length c2) (l.getD k x0D).2.2.1 ∧ SlR tInt w (.slice p3 (l.getD k x0D).2.2.2.1.length c3) (l.getD k x0D).2.2.2.1 ∧ SlR tInt w (.slice p4 (l.getD k x0D).2.2.2.2.length c4) (l.getD k x0D).2.2.2.2 := by
 obtain ⟨b, off, cap, cs, hv, hb, hc, hR⟩ := slR_at h hk
 change tCharge.R w cs (l.getD k x0D) at hR
 generalize l.getD k x0D = r at *
 obtain ⟨a0, a1, x2, x3, x4⟩ := r
 obtain ⟨v2, v3, v4, rfl, h2, h3, h4⟩ := tCharge_R hR
 obtain ⟨p2, c2, rfl⟩ := slR_len h2
 obtain ⟨p3, c3, rfl⟩ := slR_len h3
 obtain ⟨p4, c4, rfl⟩ := slR_len h4
 exact ⟨b, off, cap, p2, c2, p3, c3, p4, c4, hv, hb, hc 0 (by decide), hc 1 (by decide), hc 2 (by decide), hc 3 (by decide), hc 4 (by decide), h2, h3, h4⟩
theorem ret_n {a b : Int} (h : a = b) : Ending.returned (.int .i64 a) = .returned (.int .i64 b) := by rw [h]
theorem slR_conds {w : World} {v : Value} {cs : List CondD} (h : SlR tCond w v cs) : CondsR w v cs := by
 rcases h with h | ⟨b, off, cap, us, h1, h2, h3, h4⟩
 ·
  exact Or.inl h
 ·
  refine Or.inr ⟨b, off, cap, h1, h2, h3, fun j hj => ?_⟩
  obtain ⟨hc, hR⟩ := h4 j hj
  have e := tCond_R (a0 := (cs.getD j (0, 0, 0)).1) (a1 := (cs.getD j (0, 0, 0)).2.1) (a2 := (cs.getD j (0, 0, 0)).2.2) hR
  have c0 := hc 0 (by decide); have c1 := hc 1 (by decide); have c2 := hc 2 (by decide)
  simp only [e] at c0 c1 c2
  exact ⟨c0, c1, c2⟩
theorem verR_at {w : World} {v : Value} {l : List VerD} (h : SlR tVersion w v l) {k : Nat} (hk : k < l.length) :
  ∃ (b off cap : Nat) (a : Option Addr) (c : Nat), v = .slice (some ⟨b, off, none⟩) l.length cap ∧ b < w.heap.size ∧
   w.cell? ⟨b, off + k * 4, none⟩ = some (.int .i64 (l.getD k v0D).1) ∧ w.cell? ⟨b, off + k * 4 + 1, none⟩ = some (.slice a (l.getD k v0D).2.1.length c) ∧
   w.cell? ⟨b, off + k * 4 + 2, none⟩ = some (.int .i64 (l.getD k v0D).2.2.1) ∧ w.cell? ⟨b, off + k * 4 + 3, none⟩ = some (.int .i64 (l.getD k v0D).2.2.2) ∧
   Ints w (.slice a (l.getD k v0D).2.1.length c) (l.getD k v0D).2.1 := by
 obtain ⟨b, off, cap, cs, hv, hb, hc, hR⟩ := slR_at h hk
 change tVersion.R w cs (l.getD k v0D) at hR
 generalize l.getD k v0D = r at *
 obtain ⟨i, xs, bo, di⟩ := r
 obtain ⟨v1, rfl, h1⟩ := tVersion_R hR
 obtain ⟨a, c, rfl⟩ := slR_len h1
 exact ⟨b, off, cap, a, c, hv, hb, hc 0 (by decide), hc 1 (by decide), hc 2 (by decide), hc 3 (by decide), slR_ints h1⟩
theorem one_Version : OneC tVersion := fun {w cs x} h u hu => by
 obtain ⟨i, xs, bo, di⟩ := x
 obtain ⟨v1, rfl, h1⟩ := tVersion_R h
 obtain ⟨a, c, rfl⟩ := slR_len h1
 simp at hu
 rcases hu with rfl | rfl | rfl | rfl <;> rfl
theorem info_R_Version : ElemInfo (tRaw 4) 212 (.agg #[.int .i64 0, .slice none 0 0, .int .i64 0, .int .i64 0]) := elemInfo_of (by kernel_rfl)
theorem zL_sum {α : Type} (T : Ty α) (xs : List α) : zL T xs = xs.length + (xs.map T.sz).sum := by unfold zL zTo sumN; rw [List.take_length]
theorem ver_sz (v : VerD) : tVersion.sz v = v.2.1.length := by
 obtain ⟨i, xs, bo, di⟩ := v
 rw [tVersion_sz, zL_ints]
theorem zL_all (ss : List (List VerD)) : ss.length + zL tVersion ss.flatten = zL tVersionS ss := by
 rw [zL_sum tVersionS, zL_sum tVersion]
 congr 1
 induction ss with
 | nil => rfl
 | cons s ss ih =>
  rw [List.flatten_cons, List.length_append, List.map_append, List.sum_append, List.map_cons, List.sum_cons, ← ih]
  have e : tVersionS.sz s = s.length + (s.map tVersion.sz).sum := zL_sum tVersion s
  rw [e]; omega
theorem zL_seg {ss : List (List VerD)} {k : Nat} (hk : k < ss.length) : zL tVersion (ss.getD k []) ≤ zL tVersionS ss := zL_at (T := tVersionS) (Nat.le_refl _) hk
theorem ver_len {l : List VerD} (hs : zL tVersion l ≤ 1048576) {k : Nat} (hk : k < l.length) : (l.getD k v0D).2.1.length ≤ 1048576 := by
 have := zL_at (T := tVersion) hs hk
 rw [ver_sz] at this
 exact this
end Go.Proofs.YtnepfacnmaoieaaGreatDoor
