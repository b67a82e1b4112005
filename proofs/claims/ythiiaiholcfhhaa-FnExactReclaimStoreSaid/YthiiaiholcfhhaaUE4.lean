/-
 Texts of the proof, merged: RowAre, RowLess, RowCopy, RowIns, VerMath, VerSpec1, VerBr, VerSpec2, VerSpec3, VerSpec4, RowInsM, RowSort, VerSpec5, NewMath, VerSpec6, VerSpec7, UpdMath, UpdSpec2, UpdSpec3, UpdSpec4, UpdSpec1.
-/
import Derived.Test.YthiiaiholcfhhaaUE1
import Derived.Test.YthiiaiholcfhhaaUE2
import Derived.Test.YthiiaiholcfhhaaUE3
import Derived.Maps.AppendAt
namespace Go.Proofs.Ythiiaiholcfhhaa
open Go.RowKit
set_option linter.unusedVariables false
set_option linter.unusedSimpArgs false
/-- Are they rows? -/
def areB (rs : List RowD) : Bool := (List.range rs.length).all (fun i => rowB (rs.getD i (0, [])) && (decide (i = 0) || decide ((rs.getD (i - 1) (0, [])).1 < (rs.getD i (0, [])).1))) && decide (rs.length ≤ 32)
/-- A version: its number, values, birth and death. -/
abbrev VerD := Int × List Int × Int × Int
def v0D : VerD := (0, [], 0, 0)
def visP (born died t : Int) : Prop := born ≤ t ∧ (died = -1 ∨ t < died)
instance (a b c : Int) : Decidable (visP a b c) := by unfold visP; infer_instance
def visB (v : VerD) (t : Int) : Bool := decide (visP v.2.2.1 v.2.2.2 t)
def lifeP (born died now : Int) : Prop := 0 ≤ born ∧ born ≤ now ∧ (died = -1 ∨ born < died ∧ died ≤ now)
instance (a b c : Int) : Decidable (lifeP a b c) := by unfold lifeP; infer_instance
def verB (v : VerD) (now : Int) : Bool := rowB (v.1, v.2.1) && decide (lifeP v.2.2.1 v.2.2.2 now)
def apartP (i1 b1 d1 i2 b2 d2 : Int) : Prop := i1 ≠ i2 ∨ (d1 ≠ -1 ∧ d1 ≤ b2) ∨ (d2 ≠ -1 ∧ d2 ≤ b1)
instance (a b c d e f : Int) : Decidable (apartP a b c d e f) := by unfold apartP; infer_instance
def apartB (a b : VerD) : Bool := decide (apartP a.1 a.2.2.1 a.2.2.2 b.1 b.2.2.1 b.2.2.2)
/-- Two valid versions are apart iff they are not seen together when the later one is born. -/
def seenP (i1 b1 d1 i2 b2 d2 : Int) : Prop := i1 = i2 ∧ visP b1 d1 (max b1 b2) ∧ visP b2 d2 (max b1 b2)
instance (a b c d e f : Int) : Decidable (seenP a b c d e f) := by unfold seenP; infer_instance
def seenB (a b : VerD) : Bool := decide (seenP a.1 a.2.2.1 a.2.2.2 b.1 b.2.2.1 b.2.2.2)
theorem seen_apart {i1 b1 d1 i2 b2 d2 now : Int} (h1 : lifeP b1 d1 now) (h2 : lifeP b2 d2 now) : seenP i1 b1 d1 i2 b2 d2 ↔ ¬ apartP i1 b1 d1 i2 b2 d2 := by
 unfold seenP apartP visP
 unfold lifeP at h1 h2
 omega
theorem ver_life {v : VerD} {now : Int} (h : verB v now = true) : lifeP v.2.2.1 v.2.2.2 now := by
 unfold verB at h
 rw [Bool.and_eq_true] at h
 exact of_decide_eq_true h.2
theorem seenB_apart {a b : VerD} {now : Int} (h1 : verB a now = true) (h2 : verB b now = true) : seenB a b = !apartB a b := by
 unfold seenB apartB
 by_cases h : apartP a.1 a.2.2.1 a.2.2.2 b.1 b.2.2.1 b.2.2.2
 ·
  rw [decide_eq_true h, decide_eq_false (fun g => (seen_apart (ver_life h1) (ver_life h2)).1 g h)]; rfl
 ·
  rw [decide_eq_false h, decide_eq_true ((seen_apart (ver_life h1) (ver_life h2)).2 h)]; rfl
/-- The first n versions are valid and apart. -/
def VersP (l : List VerD) (now : Int) (n : Nat) : Prop := ∀ i, i < n → verB (l.getD i v0D) now = true ∧ ∀ k, k < i → apartB (l.getD i v0D) (l.getD k v0D) = true
instance (l : List VerD) (now : Int) (n : Nat) : Decidable (VersP l now n) := by unfold VersP; infer_instance
def ShortP (ss : List (List VerD)) (n : Nat) : Prop := ∀ i, i < n → (ss.getD i []).length ≤ 4
instance (ss : List (List VerD)) (n : Nat) : Decidable (ShortP ss n) := by unfold ShortP; infer_instance
def storeP (ss : List (List VerD)) (now : Int) : Prop := ((1 ≤ ss.length ∧ ss.length ≤ 8) ∧ (0 ≤ now ∧ now ≤ 100000)) ∧ ShortP ss ss.length ∧ VersP ss.flatten now ss.flatten.length
instance (ss : List (List VerD)) (now : Int) : Decidable (storeP ss now) := by unfold storeP; infer_instance
def storeB (ss : List (List VerD)) (now : Int) : Bool := decide (storeP ss now)
theorem vers_step {l : List VerD} {now : Int} {n : Nat} (h : VersP l now n) (h1 : verB (l.getD n v0D) now = true) (h2 : ∀ k, k < n → apartB (l.getD n v0D) (l.getD k v0D) = true) : VersP l now (n + 1) := fun i hi => by
 by_cases e : i = n
 ·
  subst e; exact ⟨h1, h2⟩
 ·
  exact h i (by omega)
theorem store_no_count {ss : List (List VerD)} {now : Int} (h : ¬ (1 ≤ ss.length ∧ ss.length ≤ 8)) : storeB ss now = false := decide_eq_false (fun g => h g.1.1)
theorem store_no_now {ss : List (List VerD)} {now : Int} (h : ¬ (0 ≤ now ∧ now ≤ 100000)) : storeB ss now = false := decide_eq_false (fun g => h g.1.2)
theorem store_no_short {ss : List (List VerD)} {now : Int} {i : Nat} (hi : i < ss.length) (h : ¬ (ss.getD i []).length ≤ 4) : storeB ss now = false := decide_eq_false (fun g => h (g.2.1 i hi))
theorem store_no_ver {ss : List (List VerD)} {now : Int} {i : Nat} (hi : i < ss.flatten.length) (h : verB (ss.flatten.getD i v0D) now = false) : storeB ss now = false := decide_eq_false (fun g => by
 have := (g.2.2 i hi).1; rw [h] at this; cases this)
theorem store_no_apart {ss : List (List VerD)} {now : Int} {i k : Nat} (hi : i < ss.flatten.length) (hk : k < i) (h : apartB (ss.flatten.getD i v0D) (ss.flatten.getD k v0D) = false) : storeB ss now = false := decide_eq_false (fun g => by
 have := (g.2.2 i hi).2 k hk; rw [h] at this; cases this)
theorem store_yes {ss : List (List VerD)} {now : Int} (h1 : 1 ≤ ss.length ∧ ss.length ≤ 8) (h2 : 0 ≤ now ∧ now ≤ 100000) (h3 : ShortP ss ss.length) (h4 : VersP ss.flatten now ss.flatten.length) : storeB ss now = true := decide_eq_true ⟨⟨h1, h2⟩, h3, h4⟩
theorem store_iff {ss : List (List VerD)} {now : Int} (h : storeB ss now = true) : storeP ss now := of_decide_eq_true h
/-- The segments as far as k, one behind the other. -/
def cat (ss : List (List VerD)) (k : Nat) : List VerD := (ss.take k).flatten
theorem cat_zero (ss : List (List VerD)) : cat ss 0 = [] := by simp [cat]
theorem cat_all (ss : List (List VerD)) : cat ss ss.length = ss.flatten := by simp [cat]
theorem cat_step {ss : List (List VerD)} {k : Nat} (h : k < ss.length) : cat ss k ++ ss.getD k [] = cat ss (k + 1) := by
 unfold cat
 have e : ss.getD k [] = ss[k] := by simp [List.getD, h]
 rw [e, List.take_succ_eq_append_getElem h, List.flatten_append]
 simp
theorem cat_len {ss : List (List VerD)} {k : Nat} (h : k < ss.length) : (cat ss (k + 1)).length = (cat ss k).length + (ss.getD k []).length := by rw [← cat_step h, List.length_append]
theorem cat_le (ss : List (List VerD)) (k : Nat) : (cat ss k).length ≤ ss.flatten.length := by
 unfold cat
 have e : ss.flatten = (ss.take k).flatten ++ (ss.drop k).flatten := by rw [← List.flatten_append, List.take_append_drop]
 rw [e, List.length_append]; omega
theorem cat_at {ss : List (List VerD)} {k i : Nat} (h : i < (cat ss k).length) : ss.flatten.getD i v0D = (cat ss k).getD i v0D := by
 unfold cat at h ⊢
 have e : ss.flatten = (ss.take k).flatten ++ (ss.drop k).flatten := by rw [← List.flatten_append, List.take_append_drop]
 rw [e]
 simp only [List.getD, List.getElem?_append_left h]
theorem cat_in {ss : List (List VerD)} {k j : Nat} (h : k < ss.length) (hj : j < (ss.getD k []).length) : ss.flatten.getD ((cat ss k).length + j) v0D = (ss.getD k []).getD j v0D := by
 have hl := cat_len h
 rw [cat_at (k := k + 1) (by omega), ← cat_step h]
 simp only [List.getD]
 rw [List.getElem?_append_right (by omega), Nat.add_sub_cancel_left]
theorem take_getD {l : List VerD} {k : Nat} (h : k < l.length) : l.take (k + 1) = l.take k ++ [l.getD k v0D] := by
 have e : l.getD k v0D = l[k] := by simp [List.getD, h]
 rw [e, List.take_succ_eq_append_getElem h]
set_option maxHeartbeats 4000000 in
set_option maxRecDepth 100000 in
theorem specVisible (id born died t : Int) (vv : Value) (w : World) :
  Calls Try.prog 61 #[.agg #[.int .i64 id, vv, .int .i64 born, .int .i64 died], .int .i64 t] w fun e w' => e = .returned (.bool (decide (visP born died t))) ∧ Below w.heap.size w w' := by
 have hb : Below w.heap.size w (w.alloc (.cells #[.int .i64 id, vv, .int .i64 born, .int .i64 died] 88)) := (Below.refl _ w).alloc (Nat.le_refl _) _
 by_cases h1 : born ≤ t
 ·
  by_cases h2 : died = -1
  ·
   have HD : Hid (decide (visP born died t) = true) := Lib.hid (decide_eq_true ⟨h1, Or.inl h2⟩)
   have e2 : (died == -1) = true := by simp [h2]
   clear h2
   rw [HD.out]
   go_enter Try.func61, Try.ntmps61
   go_wp2
   go_ret
   exact ⟨rfl, hb⟩
  ·
   have e2 : (died == -1) = false := by simp [h2]
   by_cases h3 : t < died
   ·
    have HD : Hid (decide (visP born died t) = true) := Lib.hid (decide_eq_true ⟨h1, Or.inr h3⟩)
    clear h2
    rw [HD.out]
    go_enter Try.func61, Try.ntmps61
    go_wp2
    go_ret
    exact ⟨ret_b (by simp [h3]), hb⟩
   ·
    have HD : Hid (decide (visP born died t) = false) := Lib.hid (decide_eq_false (fun g => by unfold visP at g; omega))
    have e3 : decide (t < died) = false := decide_eq_false h3
    clear h2
    rw [HD.out]
    go_enter Try.func61, Try.ntmps61
    go_wp2
    go_ret
    exact ⟨ret_b (by simp [h3]), hb⟩
 ·
  have HD : Hid (decide (visP born died t) = false) := Lib.hid (decide_eq_false (fun g => h1 g.1))
  rw [HD.out]
  go_enter Try.func61, Try.ntmps61
  go_wp2
  go_ret
  exact ⟨rfl, hb⟩
theorem verR_at {w : World} {v : Value} {l : List VerD} (h : SlR tVersion w v l) {k : Nat} (hk : k < l.length) :
  ∃ (b off cap : Nat) (a : Option Addr) (c : Nat), v = .slice (some ⟨b, off, none⟩) l.length cap ∧ b < w.heap.size ∧
   w.cell? ⟨b, off + k * 4, none⟩ = some (.int .i64 (l.getD k v0D).1) ∧ w.cell? ⟨b, off + k * 4 + 1, none⟩ = some (.slice a (l.getD k v0D).2.1.length c) ∧
   w.cell? ⟨b, off + k * 4 + 2, none⟩ = some (.int .i64 (l.getD k v0D).2.2.1) ∧ w.cell? ⟨b, off + k * 4 + 3, none⟩ = some (.int .i64 (l.getD k v0D).2.2.2) ∧
   Ints w (.slice a (l.getD k v0D).2.1.length c) (l.getD k v0D).2.1 := by
 obtain ⟨b, off, cap, cs, hv, hb, hc, hR⟩ := slR_at h hk
 change tVersion.R w cs (l.getD k v0D) at hR
 generalize l.getD k v0D = r at *
 obtain ⟨i, xs, bo, di⟩ := r
 obtain ⟨v1, rfl, h1⟩ := tVersion_R hR
 obtain ⟨a, c, rfl⟩ := slR_len h1
 exact ⟨b, off, cap, a, c, hv, hb, hc 0 (by decide), hc 1 (by decide), hc 2 (by decide), hc 3 (by decide), slR_ints h1⟩
theorem one_Version : OneC tVersion := fun {w cs x} h u hu => by
 obtain ⟨i, xs, bo, di⟩ := x
 obtain ⟨v1, rfl, h1⟩ := tVersion_R h
 obtain ⟨a, c, rfl⟩ := slR_len h1
 simp at hu
 rcases hu with rfl | rfl | rfl | rfl <;> rfl
theorem info_T_Version : ElemInfo tVersion 88 (.agg #[.int .i64 0, .slice none 0 0, .int .i64 0, .int .i64 0]) := elemInfo_of (by kernel_rfl)
theorem info_R_Version : ElemInfo (tRaw 4) 88 (.agg #[.int .i64 0, .slice none 0 0, .int .i64 0, .int .i64 0]) := elemInfo_of (by kernel_rfl)
theorem zL_sum {α : Type} (T : Ty α) (xs : List α) : zL T xs = xs.length + (xs.map T.sz).sum := by unfold zL zTo sumN; rw [List.take_length]
theorem ver_sz (v : VerD) : tVersion.sz v = v.2.1.length := by
 obtain ⟨i, xs, bo, di⟩ := v
 rw [tVersion_sz, zL_ints]
theorem zL_all (ss : List (List VerD)) : ss.length + zL tVersion ss.flatten = zL tVersionS ss := by
 rw [zL_sum tVersionS, zL_sum tVersion]
 congr 1
 induction ss with
 | nil => rfl
 | cons s ss ih =>
  rw [List.flatten_cons, List.length_append, List.map_append, List.sum_append, List.map_cons, List.sum_cons, ← ih]
  have e : tVersionS.sz s = s.length + (s.map tVersion.sz).sum := zL_sum tVersion s
  rw [e]; omega
theorem zL_seg {ss : List (List VerD)} {k : Nat} (hk : k < ss.length) : zL tVersion (ss.getD k []) ≤ zL tVersionS ss := zL_at (T := tVersionS) (Nat.le_refl _) hk
theorem ver_len {l : List VerD} (hs : zL tVersion l ≤ 1048576) {k : Nat} (hk : k < l.length) : (l.getD k v0D).2.1.length ≤ 1048576 := by
 have := zL_at (T := tVersion) hs hk
 rw [ver_sz] at this
 exact this
set_option maxHeartbeats 8000000 in
set_option maxRecDepth 100000 in
theorem specVersion (id born died now : Int) (vv : Value) (xs : List Int) (w : World) (h : Ints w vv xs) (hn : xs.length ≤ 1048576) (hw : now ≤ 100000) :
  Calls Try.prog 78 #[.agg #[.int .i64 id, vv, .int .i64 born, .int .i64 died], .int .i64 now] w fun e w' => e = .returned (.bool (verB (id, xs, born, died) now)) ∧ Below w.heap.size w w' := by
 have HR := Lib.hid (fun W g => specIsRow id vv xs W g hn)
 have H := Lib.hid h
 clear hn
 obtain ⟨va, vc, rfl⟩ := ints_len h
 have d0 := Lib.hid (show Below w.heap.size w (w.alloc (.cells #[.int .i64 id, .slice va xs.length vc, .int .i64 born, .int .i64 died] 88)) from (Below.refl _ _).alloc (Nat.le_refl _) _)
 have B0 : Hid ((w.alloc (.cells #[.int .i64 id, .slice va xs.length vc, .int .i64 born, .int .i64 died] 88)).heap[w.heap.size]? = some (.cells #[.int .i64 id, .slice va xs.length vc, .int .i64 born, .int .i64 died] 88 (0, 0))) := Lib.hid (heap_alloc_new w _)
 have Y0 : Hid (w.heap.size < (w.alloc (.cells #[.int .i64 id, .slice va xs.length vc, .int .i64 born, .int .i64 died] 88)).heap.size) := Lib.hid (by simp [World.size_alloc])
 have HV : Hid (∀ r l, rowB (id, xs) = r → decide (lifeP born died now) = l → verB (id, xs, born, died) now = (r && l)) := Lib.hid (fun r l h1 h2 => by unfold verB; rw [h1]; show (r && decide (lifeP born died now)) = _; rw [h2])
 clear h
 cases hr : rowB (id, xs) with
 | false =>
  rw [hr] at HR
  rw [HV.out _ _ hr rfl, Bool.false_and]
  clear hr HV
  go_enter Try.func78, Try.ntmps78
  go_wp2_with fail
  generalize w.alloc (.cells #[.int .i64 id, .slice va xs.length vc, .int .i64 born, .int .i64 died] 88) = W at *
  refine (HR.out W (ints_below H.out d0.out)).mono ?_
  rintro e w1 ⟨rfl, b1⟩
  have k0 := (b1.block w.heap.size Y0.out).trans B0.out
  have b2 := d0.out.trans (b1.mono d0.out.size)
  go_wp2
  go_ret
  exact ⟨rfl, b2⟩
 | true =>
  rw [hr] at HR
  have HV2 := Lib.hid (fun l => HV.out _ l hr)
  clear hr HV
  by_cases h1 : 0 ≤ born ∧ born ≤ now
  ·
   obtain ⟨h1a, h1b⟩ := h1
   by_cases h2 : died = -1
   ·
    have hl : decide (lifeP born died now) = true := decide_eq_true ⟨h1a, h1b, Or.inl h2⟩
    rw [HV2.out _ hl]
    have e2 : (died == -1) = true := by simp [h2]
    clear hl h2
    go_enter Try.func78, Try.ntmps78
    go_wp2_with fail
    generalize w.alloc (.cells #[.int .i64 id, .slice va xs.length vc, .int .i64 born, .int .i64 died] 88) = W at *
    refine (HR.out W (ints_below H.out d0.out)).mono ?_
    rintro e w1 ⟨rfl, b1⟩
    have k0 := (b1.block w.heap.size Y0.out).trans B0.out
    have b2 := d0.out.trans (b1.mono d0.out.size)
    have p0 := (cell_of_row w1 _ 0 _ _ _ k0).trans (show _ = some (Value.int .i64 id) from rfl)
    have p1 := (cell_of_row w1 _ 1 _ _ _ k0).trans (show _ = some (Value.slice va xs.length vc) from rfl)
    have p2 := (cell_of_row w1 _ 2 _ _ _ k0).trans (show _ = some (Value.int .i64 born) from rfl)
    have p3 := (cell_of_row w1 _ 3 _ _ _ k0).trans (show _ = some (Value.int .i64 died) from rfl)
    clear k0
    go_wp2_with fail
    refine (in_yes born 0 now _ h1a h1b).mono ?_
    rintro e wx ⟨rfl, rfl⟩
    go_wp2
    go_ret
    exact ⟨rfl, b2⟩
   ·
    have e2 : (died == -1) = false := by simp [h2]
    by_cases h3 : born + 1 ≤ died ∧ died ≤ now
    ·
     have hl : decide (lifeP born died now) = true := decide_eq_true ⟨h1a, h1b, Or.inr ⟨by omega, h3.2⟩⟩
     rw [HV2.out _ hl]
     have H3 := Lib.hid h3
     clear hl h2 h3
     go_enter Try.func78, Try.ntmps78
     go_wp2_with fail
     generalize w.alloc (.cells #[.int .i64 id, .slice va xs.length vc, .int .i64 born, .int .i64 died] 88) = W at *
     refine (HR.out W (ints_below H.out d0.out)).mono ?_
     rintro e w1 ⟨rfl, b1⟩
     have k0 := (b1.block w.heap.size Y0.out).trans B0.out
     have b2 := d0.out.trans (b1.mono d0.out.size)
     have p0 := (cell_of_row w1 _ 0 _ _ _ k0).trans (show _ = some (Value.int .i64 id) from rfl)
     have p1 := (cell_of_row w1 _ 1 _ _ _ k0).trans (show _ = some (Value.slice va xs.length vc) from rfl)
     have p2 := (cell_of_row w1 _ 2 _ _ _ k0).trans (show _ = some (Value.int .i64 born) from rfl)
     have p3 := (cell_of_row w1 _ 3 _ _ _ k0).trans (show _ = some (Value.int .i64 died) from rfl)
     clear k0
     go_wp2_with fail
     refine (in_yes born 0 now _ h1a h1b).mono ?_
     rintro e wx ⟨rfl, rfl⟩
     go_wp2_with fail
     refine (in_yes died (born + 1) now _ H3.out.1 H3.out.2).mono ?_
     rintro e wx ⟨rfl, rfl⟩
     go_wp2
     go_ret
     exact ⟨rfl, b2⟩
    ·
     have hl : decide (lifeP born died now) = false := decide_eq_false (fun g => by unfold lifeP at g; omega)
     rw [HV2.out _ hl]
     have H3 := Lib.hid h3
     clear hl h2 h3
     go_enter Try.func78, Try.ntmps78
     go_wp2_with fail
     generalize w.alloc (.cells #[.int .i64 id, .slice va xs.length vc, .int .i64 born, .int .i64 died] 88) = W at *
     refine (HR.out W (ints_below H.out d0.out)).mono ?_
     rintro e w1 ⟨rfl, b1⟩
     have k0 := (b1.block w.heap.size Y0.out).trans B0.out
     have b2 := d0.out.trans (b1.mono d0.out.size)
     have p0 := (cell_of_row w1 _ 0 _ _ _ k0).trans (show _ = some (Value.int .i64 id) from rfl)
     have p1 := (cell_of_row w1 _ 1 _ _ _ k0).trans (show _ = some (Value.slice va xs.length vc) from rfl)
     have p2 := (cell_of_row w1 _ 2 _ _ _ k0).trans (show _ = some (Value.int .i64 born) from rfl)
     have p3 := (cell_of_row w1 _ 3 _ _ _ k0).trans (show _ = some (Value.int .i64 died) from rfl)
     clear k0
     go_wp2_with fail
     refine (in_yes born 0 now _ h1a h1b).mono ?_
     rintro e wx ⟨rfl, rfl⟩
     go_wp2_with fail
     refine (in_no died (born + 1) now _ H3.out).mono ?_
     rintro e wx ⟨rfl, rfl⟩
     go_wp2
     go_ret
     exact ⟨rfl, b2⟩
  ·
   have hl : decide (lifeP born died now) = false := decide_eq_false (fun g => h1 ⟨g.1, g.2.1⟩)
   rw [HV2.out _ hl]
   have H1 := Lib.hid h1
   clear hl h1
   go_enter Try.func78, Try.ntmps78
   go_wp2_with fail
   generalize w.alloc (.cells #[.int .i64 id, .slice va xs.length vc, .int .i64 born, .int .i64 died] 88) = W at *
   refine (HR.out W (ints_below H.out d0.out)).mono ?_
   rintro e w1 ⟨rfl, b1⟩
   have k0 := (b1.block w.heap.size Y0.out).trans B0.out
   have b2 := d0.out.trans (b1.mono d0.out.size)
   have p0 := (cell_of_row w1 _ 0 _ _ _ k0).trans (show _ = some (Value.int .i64 id) from rfl)
   have p1 := (cell_of_row w1 _ 1 _ _ _ k0).trans (show _ = some (Value.slice va xs.length vc) from rfl)
   have p2 := (cell_of_row w1 _ 2 _ _ _ k0).trans (show _ = some (Value.int .i64 born) from rfl)
   have p3 := (cell_of_row w1 _ 3 _ _ _ k0).trans (show _ = some (Value.int .i64 died) from rfl)
   clear k0
   go_wp2_with fail
   refine (in_no born 0 now _ H1.out).mono ?_
   rintro e wx ⟨rfl, rfl⟩
   go_wp2
   go_ret
   exact ⟨rfl, b2⟩
set_option maxHeartbeats 8000000 in
set_option maxRecDepth 100000 in
theorem specApart (i1 b1 d1 i2 b2 d2 : Int) (v1 v2 : Value) (w : World) :
  Calls Try.prog 79 #[.agg #[.int .i64 i1, v1, .int .i64 b1, .int .i64 d1], .agg #[.int .i64 i2, v2, .int .i64 b2, .int .i64 d2]] w fun e w' => e = .returned (.bool (decide (apartP i1 b1 d1 i2 b2 d2))) ∧ Below w.heap.size w w' := by
 have hb : Below w.heap.size w ((w.alloc (.cells #[.int .i64 i1, v1, .int .i64 b1, .int .i64 d1] 88)).alloc (.cells #[.int .i64 i2, v2, .int .i64 b2, .int .i64 d2] 88)) := ((Below.refl _ w).alloc (Nat.le_refl _) _).alloc (by simp) _
 by_cases q1 : i1 = i2
 ·
  have e1 : (i1 != i2) = false := by simp [q1]
  have Q1 := Lib.hid q1
  clear q1
  by_cases q2 : d1 = -1
  ·
   have e2 : (d1 != -1) = false := by simp [q2]
   have Q2 := Lib.hid q2
   clear q2
   by_cases q4 : d2 = -1
   ·
    have e4 : (d2 != -1) = false := by simp [q4]
    have HD : Hid (decide (apartP i1 b1 d1 i2 b2 d2) = false) := Lib.hid (by have h1 := Q1.out; have h2 := Q2.out; exact decide_eq_false (fun g => by unfold apartP at g; omega))
    rw [HD.out]
    clear q4
    go_enter Try.func79, Try.ntmps79
    go_wp2
    go_ret
    exact ⟨ret_b (by first | rfl | simp [*]), hb⟩
   ·
    have e4 : (d2 != -1) = true := by simp [q4]
    by_cases q5 : d2 ≤ b1
    ·
     have q6 : d2 ≤ b1 := q5
     have HD : Hid (decide (apartP i1 b1 d1 i2 b2 d2) = true) := Lib.hid (decide_eq_true (Or.inr (Or.inr ⟨q4, q5⟩)))
     rw [HD.out]
     clear q4
     go_enter Try.func79, Try.ntmps79
     go_wp2
     go_ret
     exact ⟨ret_b (by first | rfl | simp [*]), hb⟩
    ·
     have e5 : decide (d2 ≤ b1) = false := decide_eq_false q5
     have HD : Hid (decide (apartP i1 b1 d1 i2 b2 d2) = false) := Lib.hid (by have h1 := Q1.out; have h2 := Q2.out; exact decide_eq_false (fun g => by unfold apartP at g; omega))
     rw [HD.out]
     clear q4
     go_enter Try.func79, Try.ntmps79
     go_wp2
     go_ret
     exact ⟨ret_b (by first | rfl | simp [*]), hb⟩
  ·
   have e2 : (d1 != -1) = true := by simp [q2]
   have Q2 := Lib.hid q2
   clear q2
   by_cases q3 : d1 ≤ b2
   ·
    have q6 : d1 ≤ b2 := q3
    have HD : Hid (decide (apartP i1 b1 d1 i2 b2 d2) = true) := Lib.hid (decide_eq_true (Or.inr (Or.inl ⟨Q2.out, q3⟩)))
    rw [HD.out]
    go_enter Try.func79, Try.ntmps79
    go_wp2
    go_ret
    exact ⟨ret_b (by first | rfl | simp [*]), hb⟩
   ·
    have e3 : decide (d1 ≤ b2) = false := decide_eq_false q3
    have Q3 := Lib.hid q3
    by_cases q4 : d2 = -1
    ·
     have e4 : (d2 != -1) = false := by simp [q4]
     have HD : Hid (decide (apartP i1 b1 d1 i2 b2 d2) = false) := Lib.hid (by have h1 := Q1.out; have h2 := Q2.out; have h3 := Q3.out; exact decide_eq_false (fun g => by unfold apartP at g; omega))
     rw [HD.out]
     clear q4
     go_enter Try.func79, Try.ntmps79
     go_wp2
     go_ret
     exact ⟨ret_b (by first | rfl | simp [*]), hb⟩
    ·
     have e4 : (d2 != -1) = true := by simp [q4]
     by_cases q5 : d2 ≤ b1
     ·
      have q6 : d2 ≤ b1 := q5
      have HD : Hid (decide (apartP i1 b1 d1 i2 b2 d2) = true) := Lib.hid (decide_eq_true (Or.inr (Or.inr ⟨q4, q5⟩)))
      rw [HD.out]
      clear q4
      go_enter Try.func79, Try.ntmps79
      go_wp2
      go_ret
      exact ⟨ret_b (by first | rfl | simp [*]), hb⟩
     ·
      have e5 : decide (d2 ≤ b1) = false := decide_eq_false q5
      have HD : Hid (decide (apartP i1 b1 d1 i2 b2 d2) = false) := Lib.hid (by have h1 := Q1.out; have h2 := Q2.out; have h3 := Q3.out; exact decide_eq_false (fun g => by unfold apartP at g; omega))
      rw [HD.out]
      clear q4
      go_enter Try.func79, Try.ntmps79
      go_wp2
      go_ret
      exact ⟨ret_b (by first | rfl | simp [*]), hb⟩
 ·
  have e1 : (i1 != i2) = true := by simp [q1]
  have HD : Hid (decide (apartP i1 b1 d1 i2 b2 d2) = true) := Lib.hid (decide_eq_true (Or.inl q1))
  rw [HD.out]
  clear q1
  go_enter Try.func79, Try.ntmps79
  go_wp2
  go_ret
  exact ⟨ret_b (by first | rfl | simp [*]), hb⟩
/-- The answer: a slice of the call's own whose cells read as these versions. -/
def AllV (w : World) (l : List VerD) (e : Ending) (w' : World) : Prop := ∃ (v : Value) (L : List (List Value)), e = .returned v ∧ SlO 88 (tRaw 4) w' (since w) v L ∧ Sh tVersion w L l ∧ Below w.heap.size w w'
set_option maxHeartbeats 8000000 in
set_option maxRecDepth 100000 in
theorem specL7All (sv : Value) (ss : List (List VerD)) (now : Int) (w : World) (h : SlR tVersionS w sv ss) (hs : zL tVersionS ss ≤ 1048576) :
  Calls Try.prog 77 #[.agg #[sv, .int .i64 now]] w (AllV w ss.flatten) := by
 have H := Lib.hid h
 have HS := Lib.hid hs
 have hlen := zL_len hs
 have HF : Hid (ss.flatten.length ≤ 1048576) := Lib.hid (by have h1 := zL_all ss; have h2 := zL_len (T := tVersion) (xs := ss.flatten) (M := 1048576) (by omega); omega)
 obtain ⟨a, cap, rfl⟩ := slR_len h
 clear h hs
 have d0 := Lib.hid (show Below w.heap.size w ((w.alloc (.cells #[.slice a ss.length cap, .int .i64 now] 41)).alloc (.cells #[] 88)) from ((Below.refl _ _).alloc (Nat.le_refl _) _).alloc (by simp) _)
 have B0 : Hid (((w.alloc (.cells #[.slice a ss.length cap, .int .i64 now] 41)).alloc (.cells #[] 88)).heap[w.heap.size]? = some (.cells #[.slice a ss.length cap, .int .i64 now] 41 (0, 0))) := Lib.hid (by rw [Below.heap_alloc _ _ _ (by simp)]; exact heap_alloc_new w _)
 have Y0 : Hid (w.heap.size < ((w.alloc (.cells #[.slice a ss.length cap, .int .i64 now] 41)).alloc (.cells #[] 88)).heap.size) := Lib.hid (by simp [World.size_alloc]; omega)
 have P0 : Hid (SlO 88 (tRaw 4) ((w.alloc (.cells #[.slice a ss.length cap, .int .i64 now] 41)).alloc (.cells #[] 88)) (fun b => w.heap.size < b) (.slice (some ⟨w.heap.size + 1, 0, none⟩) 0 0) []) := Lib.hid (by have := slO_empty (T := tRaw 4) (w.alloc (.cells #[.slice a ss.length cap, .int .i64 now] 41)) 88 (fun b => w.heap.size < b) (by simp [World.size_alloc]); simpa only [World.size_alloc] using this)
 go_enter Try.func77, Try.ntmps77
 go_wp2
 go_loopw [3, 4] (fun o i wr => ∃ (k : Nat) (L : List (List Value)), k ≤ ss.length ∧ i = .int .i64 k ∧ SlO 88 (tRaw 4) wr (fun b => w.heap.size < b) o L ∧ Hid (Sh tVersion w L (cat ss k)) ∧ wr.heap[w.heap.size]? = some (.cells #[.slice a ss.length cap, .int .i64 now] 41 (0, 0)) ∧ Below w.heap.size w wr ∧ w.heap.size < wr.heap.size) (fun _ i _ => ss.length - (intOf i).toNat)
 case atStart => exact ⟨0, [], Nat.zero_le _, rfl, P0.out, Lib.hid (by rw [cat_zero]; exact sh_nil w), B0.out, d0.out, Y0.out⟩
 case round =>
  obtain ⟨k, L, hk, rfl, hown, hsh, hbox, hbel, hy⟩ := hrel
  clear d0 B0 Y0 P0
  obtain ⟨oa, oc, rfl⟩ := slO_len hown
  have c0 := (cell_of_row wr _ 0 _ _ _ hbox).trans (show _ = some (Value.slice a ss.length cap) from rfl)
  by_cases hlt : k < ss.length
  ·
   obtain ⟨b, off, cap2, cs, hv, hbl, hcs, hR⟩ := slR_at H.out hlt
   simp only [Value.slice.injEq] at hv
   obtain ⟨rfl, _, rfl⟩ := hv
   obtain ⟨u, rfl, hU⟩ := hR
   have p0 : w.cell? ⟨b, off + k, none⟩ = some u := by have := hcs 0 Nat.one_pos; rw [show tVersionS.n = 1 from rfl, Nat.mul_one, Nat.add_zero] at this; exact this
   have hel := (hbel.cell (p := ⟨b, off + k, none⟩) hbl).trans p0
   obtain ⟨M, hM, hSh⟩ := slR_raw tVersion_law one_Version hU
   have HM := Lib.hid (slR_below (tRaw_law (by decide)) hM hbel)
   have HC : Hid (Sh tVersion w (L ++ M) (cat ss (k + 1))) := Lib.hid (by rw [← cat_step hlt]; exact sh_app hsh.out hSh)
   have HL : Hid (L.length + M.length ≤ 2097152) := Lib.hid (by have h1 := sh_len HC.out; have h2 := cat_le ss (k + 1); have h3 := HF.out; rw [List.length_append] at h1; omega)
   have i1 : (0 : Int) ≤ (k : Int) := by omega
   have i2 : (k : Int) < (ss.length : Int) := by omega
   obtain ⟨ua, uc, hu⟩ := slR_len hU
   have HOWN := Lib.hid hown
   have HB := Lib.hid hbox
   have HY := Lib.hid hy
   have HD := Lib.hid hbel
   have HUV : Hid (∃ m, u = .slice ua m uc) := Lib.hid ⟨_, hu⟩
   clear hcs p0 hU hM hSh hsh hown hbox hu hbel hy
   obtain ⟨m, rfl⟩ := HUV.out
   clear HUV
   go_wp2_with (at_builtin; refine append_flat (tRaw_law (by decide)) (flat_raw 4) info_R_Version Try.underlying89 rfl rfl (.tmp 13) (.tmp 18) rfl (fun b => w.heap.size < b) (fun b => w.heap.size < b) _ _ L M rfl rfl HOWN.out HM.out (fun b h => h) HY.out HL.out ?_)
   intro v' w4 ho4 t4
   have hb4 := (t4.block w.heap.size HY.out (fun h => Nat.lt_irrefl _ h)).trans HB.out
   have hy4 := Nat.lt_of_lt_of_le HY.out t4.size
   have hd4 := below_turn HD.out t4 (fun b h => Nat.le_of_lt h) (Nat.le_of_lt HY.out)
   clear HOWN HM HL HB HY HD t4 c0 hel
   go_wp2
   go_roundw
   case rel => exact ⟨k + 1, _, by omega, by go_num, ho4, HC, hb4, hd4, hy4⟩
   case measure => simp [intOf]; omega
  ·
   obtain rfl : k = ss.length := by omega
   have HC : Hid (Sh tVersion w L ss.flatten) := Lib.hid (by rw [← cat_all]; exact hsh.out)
   clear hsh
   go_wp2
   go_ret
   exact ⟨_, L, rfl, slO_mono hown (fun b h => Nat.le_of_lt h), HC.out, hbel⟩
set_option maxHeartbeats 8000000 in
set_option maxRecDepth 100000 in
theorem specIsStore (sv : Value) (ss : List (List VerD)) (now : Int) (w : World) (h : SlR tVersionS w sv ss) (hs : zL tVersionS ss ≤ 1048576) :
  Calls Try.prog 49 #[.agg #[sv, .int .i64 now]] w (fun e w' => e = .returned (.bool (storeB ss now)) ∧ Below w.heap.size w w') := by
 have hlen := zL_len hs
 obtain ⟨a, cap, rfl⟩ := slR_len h
 have HC := Lib.hid (fun W g => specL7All (.slice a ss.length cap) ss now W g hs)
 have HZF : Hid (zL tVersion ss.flatten ≤ 1048576) := Lib.hid (by have := zL_all ss; omega)
 have H := Lib.hid h
 have HS := Lib.hid hs
 have d0 := Lib.hid (show Below w.heap.size w (w.alloc (.cells #[.slice a ss.length cap, .int .i64 now] 41)) from (Below.refl _ _).alloc (Nat.le_refl _) _)
 have B0 : Hid ((w.alloc (.cells #[.slice a ss.length cap, .int .i64 now] 41)).heap[w.heap.size]? = some (.cells #[.slice a ss.length cap, .int .i64 now] 41 (0, 0))) := Lib.hid (heap_alloc_new w _)
 have Y0 : Hid (w.heap.size < (w.alloc (.cells #[.slice a ss.length cap, .int .i64 now] 41)).heap.size) := Lib.hid (by simp [World.size_alloc])
 clear h hs
 by_cases hc : 1 ≤ ss.length ∧ ss.length ≤ 8
 rotate_left
 ·
  have HF := Lib.hid (store_no_count (now := now) hc)
  have HI := Lib.hid (fun W => in_no (ss.length : Int) 1 8 W (by omega))
  clear hc
  rw [HF.out]
  go_enter Try.func49, Try.ntmps49
  go_wp2_with fail
  refine (HI.out _).mono ?_
  rintro e wx ⟨rfl, rfl⟩
  go_wp2
  go_ret
  exact ⟨rfl, d0.out⟩
 have HI1 := Lib.hid (fun W => in_yes (ss.length : Int) 1 8 W (by omega) (by omega))
 have HCN := Lib.hid hc
 by_cases hn : 0 ≤ now ∧ now ≤ 100000
 rotate_left
 ·
  have HF := Lib.hid (store_no_now (ss := ss) hn)
  have HI := Lib.hid (fun W => in_no now 0 100000 W hn)
  clear hn
  rw [HF.out]
  go_enter Try.func49, Try.ntmps49
  go_wp2_with fail
  refine (HI1.out _).mono ?_
  rintro e wx ⟨rfl, rfl⟩
  go_wp2_with fail
  refine (HI.out _).mono ?_
  rintro e wx ⟨rfl, rfl⟩
  go_wp2
  go_ret
  exact ⟨rfl, d0.out⟩
 have HI2 := Lib.hid (fun W => in_yes now 0 100000 W hn.1 hn.2)
 have HNN := Lib.hid hn
 clear hc hn
 go_enter Try.func49, Try.ntmps49
 go_wp2_with fail
 refine (HI1.out _).mono ?_
 rintro e wx ⟨rfl, rfl⟩
 go_wp2_with fail
 refine (HI2.out _).mono ?_
 rintro e wx ⟨rfl, rfl⟩
 go_wp2
 generalize w.alloc (.cells #[.slice a ss.length cap, .int .i64 now] 41) = W at *
 have q0 := (cell_of_row W _ 0 _ _ _ B0.out).trans (show _ = some (Value.slice a ss.length cap) from rfl)
 have q1 := (cell_of_row W _ 1 _ _ _ B0.out).trans (show _ = some (Value.int .i64 now) from rfl)
 have G0 := Lib.hid q0
 have G1 := Lib.hid q1
 have HW := Lib.hid (slR_below tVersionS_law H.out d0.out)
 clear q0 q1 B0
 go_loopw [3] (fun i wr => ∃ k : Nat, k ≤ ss.length ∧ i = .int .i64 k ∧ Hid (ShortP ss k) ∧ Below W.heap.size W wr) (fun i _ => ss.length - (intOf i).toNat)
 case atStart => exact ⟨0, Nat.zero_le _, rfl, Lib.hid (fun j hj => by omega), Below.refl _ _⟩
 case round =>
  obtain ⟨k, hk, rfl, hsh, hbel⟩ := hrel
  have p0 := (hbel.cell (p := ⟨w.heap.size, 0, none⟩) Y0.out).trans G0.out
  have p1 := (hbel.cell (p := ⟨w.heap.size, 1, none⟩) Y0.out).trans G1.out
  by_cases hlt : k < ss.length
  ·
   have i1 : (0 : Int) ≤ (k : Int) := by omega
   have i2 : (k : Int) < (ss.length : Int) := by omega
   obtain ⟨b, off, cap', cs, hv, hbl, hcs, hR⟩ := slR_at HW.out hlt
   simp only [Value.slice.injEq] at hv
   obtain ⟨rfl, _, rfl⟩ := hv
   obtain ⟨u, rfl, hU⟩ := hR
   change SlR tVersion W u (ss.getD k []) at hU
   have pe : W.cell? ⟨b, off + k, none⟩ = some u := by have := hcs 0 Nat.one_pos; rw [show tVersionS.n = 1 from rfl, Nat.mul_one, Nat.add_zero] at this; exact this
   have he := (hbel.cell (p := ⟨b, off + k, none⟩) hbl).trans pe
   have HNO := Lib.hid (fun g => store_no_short (ss := ss) (now := now) hlt g)
   have HYS : Hid ((ss.getD k []).length ≤ 4 → ShortP ss (k + 1)) := Lib.hid (fun g j hj => by
    by_cases e : j = k
    ·
     rw [e]; exact g
    ·
     exact hsh.out j (by omega))
   have HML := Lib.hid (zL_len (show zL tVersion (ss.getD k []) ≤ 1048576 from Nat.le_trans (zL_seg hlt) HS.out))
   obtain ⟨ua, uc, rfl⟩ := slR_len hU
   have HB := Lib.hid hbel
   clear hcs pe hU hsh hbel
   generalize (ss.getD k []).length = m at *
   by_cases hm : m ≤ 4
   ·
    have HY := Lib.hid (HYS.out hm)
    have hmi : ¬ (4 : Int) < (m : Int) := by omega
    clear HYS HNO
    go_wp2
    go_roundw
    case rel => exact ⟨k + 1, by omega, by go_num, HY, HB.out⟩
    case measure => simp [intOf]; omega
   ·
    have HF := Lib.hid (HNO.out hm)
    have hmi : (4 : Int) < (m : Int) := by omega
    clear HYS HNO
    go_wp2
    go_ret
    exact ⟨ret_b HF.out.symm, d0.out.trans (HB.out.mono d0.out.size)⟩
  ·
   obtain rfl : k = ss.length := by omega
   have HSH := Lib.hid hsh.out
   clear hsh
   have HB := Lib.hid hbel
   clear hbel
   go_wp2_with fail
   refine (HC.out wr (slR_below tVersionS_law HW.out HB.out)).mono ?_
   rintro e w1 ⟨v, L, rfl, hown, hshv, b1⟩
   have hVR := raw_reads (T := tVersion) (by decide) hown (sh_below tVersion_law hshv b1)
   obtain ⟨va, vc, rfl⟩ := slO_len hown
   rw [sh_len hshv] at *
   have V := Lib.hid hVR
   have b2 := HB.out.trans (b1.mono HB.out.size)
   have D1 := Lib.hid (d0.out.trans (b2.mono d0.out.size))
   have CN := Lib.hid ((b2.cell (p := ⟨w.heap.size, 1, none⟩) Y0.out).trans G1.out)
   have YN := Lib.hid (Nat.lt_of_lt_of_le Y0.out b2.size)
   have HFL := Lib.hid (zL_len HZF.out)
   clear hVR hown hshv b1 b2 HB p0 p1 HW G0 G1
   have hfl := HFL.out
   obtain ⟨l, hl⟩ : ∃ l, l = ss.flatten := ⟨_, rfl⟩
   have HLL := Lib.hid hl
   rw [← hl] at V HFL hfl ⊢
   clear hl
   go_wp2
   go_loopw [5] (fun i wr => ∃ k : Nat, k ≤ l.length ∧ i = .int .i64 k ∧ Hid (VersP l now k) ∧ Below w1.heap.size w1 wr) (fun i _ => l.length - (intOf i).toNat)
   case atStart => exact ⟨0, Nat.zero_le _, rfl, Lib.hid (fun j hj => by omega), Below.refl _ _⟩
   case round =>
    obtain ⟨k, hk, rfl, hvs, hbel⟩ := hrel
    by_cases hlt : k < l.length
    ·
     have i1 : (0 : Int) ≤ (k : Int) := by omega
     have i2 : (k : Int) < (l.length : Int) := by omega
     obtain ⟨b, off, cap', xa, xc, hv, hbl, c0, c1, c2, c3, hx⟩ := verR_at V.out hlt
     simp only [Value.slice.injEq] at hv
     obtain ⟨rfl, _, rfl⟩ := hv
     have HXL := Lib.hid (ver_len (by rw [HLL.out]; exact HZF.out) hlt)
     have HNV : Hid (verB (l.getD k v0D) now = false → storeB ss now = false) := Lib.hid (fun g => store_no_ver (i := k) (by rw [← HLL.out]; exact hlt) (by rw [← HLL.out]; exact g))
     have HNA : Hid (∀ j, j < k → apartB (l.getD k v0D) (l.getD j v0D) = false → storeB ss now = false) := Lib.hid (fun j hj g => store_no_apart (i := k) (k := j) (by rw [← HLL.out]; exact hlt) hj (by rw [← HLL.out]; exact g))
     have HST : Hid (verB (l.getD k v0D) now = true → (∀ j, j < k → apartB (l.getD k v0D) (l.getD j v0D) = true) → VersP l now (k + 1)) := Lib.hid (fun g1 g2 => vers_step hvs.out g1 g2)
     have HRX : Hid (Ints w1 (.slice xa (l.getD k v0D).2.1.length xc) (l.getD k v0D).2.1) := Lib.hid hx
     obtain ⟨x, hxe⟩ : ∃ x, x = l.getD k v0D := ⟨_, rfl⟩
     rw [← hxe] at HXL HNV HNA HST HRX c0 c1 c2 c3
     obtain ⟨id, xs, born, died⟩ := x
     simp only at c0 c1 c2 c3
     have C0 := Lib.hid c0
     have C1 := Lib.hid c1
     have C2 := Lib.hid c2
     have C3 := Lib.hid c3
     have HBL := Lib.hid hbl
     have d := Lib.hid hbel
     clear hx hxe c0 c1 c2 c3 hbl hbel hvs
     cases hver : verB (id, xs, born, died) now with
     | false =>
      have HF := Lib.hid (HNV.out hver)
      have HCV := Lib.hid (fun W g => hver ▸ specVersion id born died now (.slice xa xs.length xc) xs W g HXL.out HNN.out.2)
      clear hver HNV HNA HST
      go_wp2
      have p_C0 := (d.out.cell (p := ⟨b, off + k * 4, none⟩) HBL.out).trans C0.out
      have p_C1 := (d.out.cell (p := ⟨b, off + k * 4 + 1, none⟩) HBL.out).trans C1.out
      have p_C2 := (d.out.cell (p := ⟨b, off + k * 4 + 2, none⟩) HBL.out).trans C2.out
      have p_C3 := (d.out.cell (p := ⟨b, off + k * 4 + 3, none⟩) HBL.out).trans C3.out
      have p_CN := (d.out.cell (p := ⟨w.heap.size, 1, none⟩) YN.out).trans CN.out
      refine wp_region_held_drew (S := fun w' => w'.cell? ⟨b, off + k * 4, none⟩ = some (Value.int .i64 id) ∧ w'.cell? ⟨b, off + k * 4 + 1, none⟩ = some (Value.slice xa xs.length xc) ∧ w'.cell? ⟨b, off + k * 4 + 2, none⟩ = some (Value.int .i64 born) ∧ w'.cell? ⟨b, off + k * 4 + 3, none⟩ = some (Value.int .i64 died) ∧ w'.cell? ⟨w.heap.size, 1, none⟩ = some (.int .i64 now)) (by kernel_rfl) ⟨p_C0, p_C1, p_C2, p_C3, p_CN⟩ (fun hHeld => ?_)
      clear p_C0 p_C1 p_C2 p_C3 p_CN
      have cdr : Below wr.heap.size wr wr.drew := below_drew (Below.refl _ _)
      replace d := Lib.hid (d.out.trans (cdr.mono d.out.size))
      clear cdr
      refine tR (i := 0) (v := ?_) ?_ ?_; rotate_left
      ·
       intro w hSw; (try dsimp only at hSw); go_simp; try (with_reducible rfl)
      try simp only [Act.put, lA, lB, lC]
      refine tR (i := 1) (v := ?_) ?_ ?_; rotate_left
      ·
       intro w hSw; (try dsimp only at hSw); go_simp; try (with_reducible rfl)
      try simp only [Act.put, lA, lB, lC]
      refine tR (i := 2) (v := ?_) ?_ ?_; rotate_left
      ·
       intro w hSw; (try dsimp only at hSw); go_simp; try (with_reducible rfl)
      try simp only [Act.put, lA, lB, lC]
      refine tR (i := 3) (v := ?_) ?_ ?_; rotate_left
      ·
       intro w hSw; (try dsimp only at hSw); go_simp; try (with_reducible rfl)
      try simp only [Act.put, lA, lB, lC]
      refine tR (i := 4) (v := ?_) ?_ ?_; rotate_left
      ·
       intro w hSw; (try dsimp only at hSw); go_simp; try (with_reducible rfl)
      try simp only [Act.put, lA, lB, lC]
      refine tR (i := 5) (v := ?_) ?_ ?_; rotate_left
      ·
       intro w hSw; (try dsimp only at hSw); go_simp; try (with_reducible rfl)
      try simp only [Act.put, lA, lB, lC]
      refine wpAnyH_ready (rs := [6]) (by kernel_rfl) (by simp) ?_
      refine (AllReadyH.cons (o := _) (by simp only [hA, hB, hC]; rfl) (fun K hK => ?_) AllReadyH.nil)
      go_simp
      refine (HCV.out (wr.drew) (ints_below HRX.out d.out)).mono ?_
      rintro e w5 ⟨rfl, c5⟩
      replace d := Lib.hid (d.out.trans (c5.mono d.out.size))
      have Z_w5 := Lib.hid (show wr.heap.size ≤ w5.heap.size from c5.size)
      clear c5
      have p_C0 := (d.out.cell (p := ⟨b, off + k * 4, none⟩) HBL.out).trans C0.out
      have p_C1 := (d.out.cell (p := ⟨b, off + k * 4 + 1, none⟩) HBL.out).trans C1.out
      have p_C2 := (d.out.cell (p := ⟨b, off + k * 4 + 2, none⟩) HBL.out).trans C2.out
      have p_C3 := (d.out.cell (p := ⟨b, off + k * 4 + 3, none⟩) HBL.out).trans C3.out
      have p_CN := (d.out.cell (p := ⟨w.heap.size, 1, none⟩) YN.out).trans CN.out
      refine hK.out _ _ ⟨p_C0, p_C1, p_C2, p_C3, p_CN⟩ (fun hHeld => ?_)
      clear p_C0 p_C1 p_C2 p_C3 p_CN
      clear hK K
      try simp only [Act.put, lA, lB, lC]
      refine tR (i := 7) (v := ?_) ?_ ?_; rotate_left
      ·
       intro w hSw; (try dsimp only at hSw); go_simp; try (with_reducible rfl)
      try simp only [Act.put, lA, lB, lC]
      refine wpAnyH_done (by kernel_rfl) ?_ _
      clear hHeld
      go_wp2
      go_ret
      exact ⟨ret_b HF.out.symm, D1.out.trans (d.out.mono D1.out.size)⟩
     | true =>
      have HCV := Lib.hid (fun W g => hver ▸ specVersion id born died now (.slice xa xs.length xc) xs W g HXL.out HNN.out.2)
      have HST2 := Lib.hid (HST.out hver)
      clear hver HNV HST
      go_wp2
      have p_C0 := (d.out.cell (p := ⟨b, off + k * 4, none⟩) HBL.out).trans C0.out
      have p_C1 := (d.out.cell (p := ⟨b, off + k * 4 + 1, none⟩) HBL.out).trans C1.out
      have p_C2 := (d.out.cell (p := ⟨b, off + k * 4 + 2, none⟩) HBL.out).trans C2.out
      have p_C3 := (d.out.cell (p := ⟨b, off + k * 4 + 3, none⟩) HBL.out).trans C3.out
      have p_CN := (d.out.cell (p := ⟨w.heap.size, 1, none⟩) YN.out).trans CN.out
      refine wp_region_held_drew (S := fun w' => w'.cell? ⟨b, off + k * 4, none⟩ = some (Value.int .i64 id) ∧ w'.cell? ⟨b, off + k * 4 + 1, none⟩ = some (Value.slice xa xs.length xc) ∧ w'.cell? ⟨b, off + k * 4 + 2, none⟩ = some (Value.int .i64 born) ∧ w'.cell? ⟨b, off + k * 4 + 3, none⟩ = some (Value.int .i64 died) ∧ w'.cell? ⟨w.heap.size, 1, none⟩ = some (.int .i64 now)) (by kernel_rfl) ⟨p_C0, p_C1, p_C2, p_C3, p_CN⟩ (fun hHeld => ?_)
      clear p_C0 p_C1 p_C2 p_C3 p_CN
      have cdr : Below wr.heap.size wr wr.drew := below_drew (Below.refl _ _)
      replace d := Lib.hid (d.out.trans (cdr.mono d.out.size))
      clear cdr
      refine tR (i := 0) (v := ?_) ?_ ?_; rotate_left
      ·
       intro w hSw; (try dsimp only at hSw); go_simp; try (with_reducible rfl)
      try simp only [Act.put, lA, lB, lC]
      refine tR (i := 1) (v := ?_) ?_ ?_; rotate_left
      ·
       intro w hSw; (try dsimp only at hSw); go_simp; try (with_reducible rfl)
      try simp only [Act.put, lA, lB, lC]
      refine tR (i := 2) (v := ?_) ?_ ?_; rotate_left
      ·
       intro w hSw; (try dsimp only at hSw); go_simp; try (with_reducible rfl)
      try simp only [Act.put, lA, lB, lC]
      refine tR (i := 3) (v := ?_) ?_ ?_; rotate_left
      ·
       intro w hSw; (try dsimp only at hSw); go_simp; try (with_reducible rfl)
      try simp only [Act.put, lA, lB, lC]
      refine tR (i := 4) (v := ?_) ?_ ?_; rotate_left
      ·
       intro w hSw; (try dsimp only at hSw); go_simp; try (with_reducible rfl)
      try simp only [Act.put, lA, lB, lC]
      refine tR (i := 5) (v := ?_) ?_ ?_; rotate_left
      ·
       intro w hSw; (try dsimp only at hSw); go_simp; try (with_reducible rfl)
      try simp only [Act.put, lA, lB, lC]
      refine wpAnyH_ready (rs := [6]) (by kernel_rfl) (by simp) ?_
      refine (AllReadyH.cons (o := _) (by simp only [hA, hB, hC]; rfl) (fun K hK => ?_) AllReadyH.nil)
      go_simp
      refine (HCV.out (wr.drew) (ints_below HRX.out d.out)).mono ?_
      rintro e w5 ⟨rfl, c5⟩
      replace d := Lib.hid (d.out.trans (c5.mono d.out.size))
      have Z_w5 := Lib.hid (show wr.heap.size ≤ w5.heap.size from c5.size)
      clear c5
      have p_C0 := (d.out.cell (p := ⟨b, off + k * 4, none⟩) HBL.out).trans C0.out
      have p_C1 := (d.out.cell (p := ⟨b, off + k * 4 + 1, none⟩) HBL.out).trans C1.out
      have p_C2 := (d.out.cell (p := ⟨b, off + k * 4 + 2, none⟩) HBL.out).trans C2.out
      have p_C3 := (d.out.cell (p := ⟨b, off + k * 4 + 3, none⟩) HBL.out).trans C3.out
      have p_CN := (d.out.cell (p := ⟨w.heap.size, 1, none⟩) YN.out).trans CN.out
      refine hK.out _ _ ⟨p_C0, p_C1, p_C2, p_C3, p_CN⟩ (fun hHeld => ?_)
      clear p_C0 p_C1 p_C2 p_C3 p_CN
      clear hK K
      try simp only [Act.put, lA, lB, lC]
      refine tR (i := 7) (v := ?_) ?_ ?_; rotate_left
      ·
       intro w hSw; (try dsimp only at hSw); go_simp; try (with_reducible rfl)
      try simp only [Act.put, lA, lB, lC]
      refine wpAnyH_done (by kernel_rfl) ?_ _
      clear hHeld
      go_wp2
      go_loopw [6] (fun i wr => ∃ m : Nat, m ≤ k ∧ i = .int .i64 m ∧ Hid (∀ j, j < m → apartB (id, xs, born, died) (l.getD j v0D) = true) ∧ Below w1.heap.size w1 wr) (fun i _ => k - (intOf i).toNat)
      case atStart => exact ⟨0, Nat.zero_le _, rfl, Lib.hid (fun j hj => by omega), d.out⟩
      case round =>
       obtain ⟨m, hm, rfl, hap, hbel⟩ := hrel
       clear d
       by_cases hml : m < k
       ·
        have j1 : (0 : Int) ≤ (m : Int) := by omega
        have j2 : (m : Int) < (l.length : Int) := by omega
        have j3 : (m : Int) < (k : Int) := by omega
        obtain ⟨b2, off2, cap2, ya, yc, hv, hbl2, y0, y1, y2, y3, hy⟩ := verR_at V.out (k := m) (by omega)
        simp only [Value.slice.injEq, Option.some.injEq, Addr.mk.injEq] at hv
        obtain ⟨⟨rfl, rfl, _⟩, _, rfl⟩ := hv
        have HNX := Lib.hid (HNA.out m hml)
        have HYX : Hid (apartB (id, xs, born, died) (l.getD m v0D) = true → ∀ j, j < m + 1 → apartB (id, xs, born, died) (l.getD j v0D) = true) := Lib.hid (fun g j hj => by
         by_cases e : j = m
         ·
          rw [e]; exact g
         ·
          exact hap.out j (by omega))
        generalize l.getD m v0D = y at *
        obtain ⟨id2, ys, born2, died2⟩ := y
        simp only at y0 y1 y2 y3
        have E0 := Lib.hid y0
        have E1 := Lib.hid y1
        have E2 := Lib.hid y2
        have E3 := Lib.hid y3
        have d := Lib.hid hbel
        clear y0 y1 y2 y3 hy hap hbel
        have HCA := Lib.hid (specApart id born died id2 born2 died2 (.slice xa xs.length xc) (.slice ya ys.length yc))
        cases hapt : decide (apartP id born died id2 born2 died2) with
        | false =>
         have HF := Lib.hid (HNX.out hapt)
         rw [hapt] at HCA
         clear hapt HNX HYX
         go_wp2
         have p_C0 := (d.out.cell (p := ⟨b, off + k * 4, none⟩) HBL.out).trans C0.out
         have p_C1 := (d.out.cell (p := ⟨b, off + k * 4 + 1, none⟩) HBL.out).trans C1.out
         have p_C2 := (d.out.cell (p := ⟨b, off + k * 4 + 2, none⟩) HBL.out).trans C2.out
         have p_C3 := (d.out.cell (p := ⟨b, off + k * 4 + 3, none⟩) HBL.out).trans C3.out
         have p_E0 := (d.out.cell (p := ⟨b, off + m * 4, none⟩) HBL.out).trans E0.out
         have p_E1 := (d.out.cell (p := ⟨b, off + m * 4 + 1, none⟩) HBL.out).trans E1.out
         have p_E2 := (d.out.cell (p := ⟨b, off + m * 4 + 2, none⟩) HBL.out).trans E2.out
         have p_E3 := (d.out.cell (p := ⟨b, off + m * 4 + 3, none⟩) HBL.out).trans E3.out
         refine wp_region_held_drew (S := fun w' => w'.cell? ⟨b, off + k * 4, none⟩ = some (Value.int .i64 id) ∧ w'.cell? ⟨b, off + k * 4 + 1, none⟩ = some (Value.slice xa xs.length xc) ∧ w'.cell? ⟨b, off + k * 4 + 2, none⟩ = some (Value.int .i64 born) ∧ w'.cell? ⟨b, off + k * 4 + 3, none⟩ = some (Value.int .i64 died) ∧ w'.cell? ⟨b, off + m * 4, none⟩ = some (Value.int .i64 id2) ∧ w'.cell? ⟨b, off + m * 4 + 1, none⟩ = some (Value.slice ya ys.length yc) ∧ w'.cell? ⟨b, off + m * 4 + 2, none⟩ = some (Value.int .i64 born2) ∧ w'.cell? ⟨b, off + m * 4 + 3, none⟩ = some (Value.int .i64 died2)) (by kernel_rfl) ⟨p_C0, p_C1, p_C2, p_C3, p_E0, p_E1, p_E2, p_E3⟩ (fun hHeld => ?_)
         clear p_C0 p_C1 p_C2 p_C3 p_E0 p_E1 p_E2 p_E3
         have cdr : Below wr.heap.size wr wr.drew := below_drew (Below.refl _ _)
         replace d := Lib.hid (d.out.trans (cdr.mono d.out.size))
         clear cdr
         refine tR (i := 0) (v := ?_) ?_ ?_; rotate_left
         ·
          intro w hSw; (try dsimp only at hSw); go_simp; try (with_reducible rfl)
         try simp only [Act.put, lA, lB, lC]
         refine tR (i := 1) (v := ?_) ?_ ?_; rotate_left
         ·
          intro w hSw; (try dsimp only at hSw); go_simp; try (with_reducible rfl)
         try simp only [Act.put, lA, lB, lC]
         refine tR (i := 2) (v := ?_) ?_ ?_; rotate_left
         ·
          intro w hSw; (try dsimp only at hSw); go_simp; try (with_reducible rfl)
         try simp only [Act.put, lA, lB, lC]
         refine tR (i := 3) (v := ?_) ?_ ?_; rotate_left
         ·
          intro w hSw; (try dsimp only at hSw); go_simp; try (with_reducible rfl)
         try simp only [Act.put, lA, lB, lC]
         refine tR (i := 4) (v := ?_) ?_ ?_; rotate_left
         ·
          intro w hSw; (try dsimp only at hSw); go_simp; try (with_reducible rfl)
         try simp only [Act.put, lA, lB, lC]
         refine tR (i := 5) (v := ?_) ?_ ?_; rotate_left
         ·
          intro w hSw; (try dsimp only at hSw); go_simp; try (with_reducible rfl)
         try simp only [Act.put, lA, lB, lC]
         refine tR (i := 6) (v := ?_) ?_ ?_; rotate_left
         ·
          intro w hSw; (try dsimp only at hSw); go_simp; try (with_reducible rfl)
         try simp only [Act.put, lA, lB, lC]
         refine tR (i := 7) (v := ?_) ?_ ?_; rotate_left
         ·
          intro w hSw; (try dsimp only at hSw); go_simp; try (with_reducible rfl)
         try simp only [Act.put, lA, lB, lC]
         refine wpAnyH_ready (rs := [8]) (by kernel_rfl) (by simp) ?_
         refine (AllReadyH.cons (o := _) (by simp only [hA, hB, hC]; rfl) (fun K hK => ?_) AllReadyH.nil)
         go_simp
         refine (HCA.out (wr.drew)).mono ?_
         rintro e w6 ⟨rfl, c6⟩
         replace d := Lib.hid (d.out.trans (c6.mono d.out.size))
         have Z_w6 := Lib.hid (show wr.heap.size ≤ w6.heap.size from c6.size)
         clear c6
         have p_C0 := (d.out.cell (p := ⟨b, off + k * 4, none⟩) HBL.out).trans C0.out
         have p_C1 := (d.out.cell (p := ⟨b, off + k * 4 + 1, none⟩) HBL.out).trans C1.out
         have p_C2 := (d.out.cell (p := ⟨b, off + k * 4 + 2, none⟩) HBL.out).trans C2.out
         have p_C3 := (d.out.cell (p := ⟨b, off + k * 4 + 3, none⟩) HBL.out).trans C3.out
         have p_E0 := (d.out.cell (p := ⟨b, off + m * 4, none⟩) HBL.out).trans E0.out
         have p_E1 := (d.out.cell (p := ⟨b, off + m * 4 + 1, none⟩) HBL.out).trans E1.out
         have p_E2 := (d.out.cell (p := ⟨b, off + m * 4 + 2, none⟩) HBL.out).trans E2.out
         have p_E3 := (d.out.cell (p := ⟨b, off + m * 4 + 3, none⟩) HBL.out).trans E3.out
         refine hK.out _ _ ⟨p_C0, p_C1, p_C2, p_C3, p_E0, p_E1, p_E2, p_E3⟩ (fun hHeld => ?_)
         clear p_C0 p_C1 p_C2 p_C3 p_E0 p_E1 p_E2 p_E3
         clear hK K
         try simp only [Act.put, lA, lB, lC]
         refine tR (i := 9) (v := ?_) ?_ ?_; rotate_left
         ·
          intro w hSw; (try dsimp only at hSw); go_simp; try (with_reducible rfl)
         try simp only [Act.put, lA, lB, lC]
         refine wpAnyH_done (by kernel_rfl) ?_ _
         clear hHeld
         go_wp2
         go_ret
         exact ⟨ret_b HF.out.symm, D1.out.trans (d.out.mono D1.out.size)⟩
        | true =>
         have HA2 := Lib.hid (HYX.out hapt)
         rw [hapt] at HCA
         clear hapt HNX HYX
         go_wp2
         have p_C0 := (d.out.cell (p := ⟨b, off + k * 4, none⟩) HBL.out).trans C0.out
         have p_C1 := (d.out.cell (p := ⟨b, off + k * 4 + 1, none⟩) HBL.out).trans C1.out
         have p_C2 := (d.out.cell (p := ⟨b, off + k * 4 + 2, none⟩) HBL.out).trans C2.out
         have p_C3 := (d.out.cell (p := ⟨b, off + k * 4 + 3, none⟩) HBL.out).trans C3.out
         have p_E0 := (d.out.cell (p := ⟨b, off + m * 4, none⟩) HBL.out).trans E0.out
         have p_E1 := (d.out.cell (p := ⟨b, off + m * 4 + 1, none⟩) HBL.out).trans E1.out
         have p_E2 := (d.out.cell (p := ⟨b, off + m * 4 + 2, none⟩) HBL.out).trans E2.out
         have p_E3 := (d.out.cell (p := ⟨b, off + m * 4 + 3, none⟩) HBL.out).trans E3.out
         refine wp_region_held_drew (S := fun w' => w'.cell? ⟨b, off + k * 4, none⟩ = some (Value.int .i64 id) ∧ w'.cell? ⟨b, off + k * 4 + 1, none⟩ = some (Value.slice xa xs.length xc) ∧ w'.cell? ⟨b, off + k * 4 + 2, none⟩ = some (Value.int .i64 born) ∧ w'.cell? ⟨b, off + k * 4 + 3, none⟩ = some (Value.int .i64 died) ∧ w'.cell? ⟨b, off + m * 4, none⟩ = some (Value.int .i64 id2) ∧ w'.cell? ⟨b, off + m * 4 + 1, none⟩ = some (Value.slice ya ys.length yc) ∧ w'.cell? ⟨b, off + m * 4 + 2, none⟩ = some (Value.int .i64 born2) ∧ w'.cell? ⟨b, off + m * 4 + 3, none⟩ = some (Value.int .i64 died2)) (by kernel_rfl) ⟨p_C0, p_C1, p_C2, p_C3, p_E0, p_E1, p_E2, p_E3⟩ (fun hHeld => ?_)
         clear p_C0 p_C1 p_C2 p_C3 p_E0 p_E1 p_E2 p_E3
         have cdr : Below wr.heap.size wr wr.drew := below_drew (Below.refl _ _)
         replace d := Lib.hid (d.out.trans (cdr.mono d.out.size))
         clear cdr
         refine tR (i := 0) (v := ?_) ?_ ?_; rotate_left
         ·
          intro w hSw; (try dsimp only at hSw); go_simp; try (with_reducible rfl)
         try simp only [Act.put, lA, lB, lC]
         refine tR (i := 1) (v := ?_) ?_ ?_; rotate_left
         ·
          intro w hSw; (try dsimp only at hSw); go_simp; try (with_reducible rfl)
         try simp only [Act.put, lA, lB, lC]
         refine tR (i := 2) (v := ?_) ?_ ?_; rotate_left
         ·
          intro w hSw; (try dsimp only at hSw); go_simp; try (with_reducible rfl)
         try simp only [Act.put, lA, lB, lC]
         refine tR (i := 3) (v := ?_) ?_ ?_; rotate_left
         ·
          intro w hSw; (try dsimp only at hSw); go_simp; try (with_reducible rfl)
         try simp only [Act.put, lA, lB, lC]
         refine tR (i := 4) (v := ?_) ?_ ?_; rotate_left
         ·
          intro w hSw; (try dsimp only at hSw); go_simp; try (with_reducible rfl)
         try simp only [Act.put, lA, lB, lC]
         refine tR (i := 5) (v := ?_) ?_ ?_; rotate_left
         ·
          intro w hSw; (try dsimp only at hSw); go_simp; try (with_reducible rfl)
         try simp only [Act.put, lA, lB, lC]
         refine tR (i := 6) (v := ?_) ?_ ?_; rotate_left
         ·
          intro w hSw; (try dsimp only at hSw); go_simp; try (with_reducible rfl)
         try simp only [Act.put, lA, lB, lC]
         refine tR (i := 7) (v := ?_) ?_ ?_; rotate_left
         ·
          intro w hSw; (try dsimp only at hSw); go_simp; try (with_reducible rfl)
         try simp only [Act.put, lA, lB, lC]
         refine wpAnyH_ready (rs := [8]) (by kernel_rfl) (by simp) ?_
         refine (AllReadyH.cons (o := _) (by simp only [hA, hB, hC]; rfl) (fun K hK => ?_) AllReadyH.nil)
         go_simp
         refine (HCA.out (wr.drew)).mono ?_
         rintro e w6 ⟨rfl, c6⟩
         replace d := Lib.hid (d.out.trans (c6.mono d.out.size))
         have Z_w6 := Lib.hid (show wr.heap.size ≤ w6.heap.size from c6.size)
         clear c6
         have p_C0 := (d.out.cell (p := ⟨b, off + k * 4, none⟩) HBL.out).trans C0.out
         have p_C1 := (d.out.cell (p := ⟨b, off + k * 4 + 1, none⟩) HBL.out).trans C1.out
         have p_C2 := (d.out.cell (p := ⟨b, off + k * 4 + 2, none⟩) HBL.out).trans C2.out
         have p_C3 := (d.out.cell (p := ⟨b, off + k * 4 + 3, none⟩) HBL.out).trans C3.out
         have p_E0 := (d.out.cell (p := ⟨b, off + m * 4, none⟩) HBL.out).trans E0.out
         have p_E1 := (d.out.cell (p := ⟨b, off + m * 4 + 1, none⟩) HBL.out).trans E1.out
         have p_E2 := (d.out.cell (p := ⟨b, off + m * 4 + 2, none⟩) HBL.out).trans E2.out
         have p_E3 := (d.out.cell (p := ⟨b, off + m * 4 + 3, none⟩) HBL.out).trans E3.out
         refine hK.out _ _ ⟨p_C0, p_C1, p_C2, p_C3, p_E0, p_E1, p_E2, p_E3⟩ (fun hHeld => ?_)
         clear p_C0 p_C1 p_C2 p_C3 p_E0 p_E1 p_E2 p_E3
         clear hK K
         try simp only [Act.put, lA, lB, lC]
         refine tR (i := 9) (v := ?_) ?_ ?_; rotate_left
         ·
          intro w hSw; (try dsimp only at hSw); go_simp; try (with_reducible rfl)
         try simp only [Act.put, lA, lB, lC]
         refine wpAnyH_done (by kernel_rfl) ?_ _
         clear hHeld
         go_wp2
         go_roundw
         case rel => exact ⟨m + 1, by omega, by go_num, HA2, d.out⟩
         case measure => simp [intOf]; omega
       ·
        obtain rfl : m = k := by omega
        have HVK := Lib.hid (HST2.out hap.out)
        have HB := Lib.hid hbel
        clear hap hbel
        go_wp2
        go_roundw
        case rel => exact ⟨m + 1, by omega, by go_num, HVK, HB.out⟩
        case measure => simp [intOf]; omega
    ·
     obtain rfl : k = l.length := by omega
     have HT : Hid (storeB ss now = true) := Lib.hid (store_yes HCN.out HNN.out HSH.out (by rw [← HLL.out]; exact hvs.out))
     have HB := Lib.hid (D1.out.trans (hbel.mono D1.out.size))
     clear hvs hbel
     go_wp2
     go_ret
     exact ⟨ret_b HT.out.symm, HB.out⟩
def newP (rs : List RowD) (g : Int) : Prop := areB rs = true ∧ (1 ≤ g ∧ g ≤ 8) ∧ (rs.length : Int) ≤ 4 * g
instance (rs : List RowD) (g : Int) : Decidable (newP rs g) := by unfold newP; infer_instance
theorem info_T_VersionS : ElemInfo tVersionS 89 (.slice none 0 0) := elemInfo_of (by kernel_rfl)
/-- An update: its kind, row, field and value. -/
abbrev UpdD := Int × (Int × List Int) × Int × Int
def insP (u : UpdD) : Prop := u.1 = 1 ∧ rowB u.2.1 = true ∧ u.2.2.1 = 0 ∧ u.2.2.2 = 0
def delP (u : UpdD) : Prop := u.1 = 2 ∧ (0 ≤ u.2.1.1 ∧ u.2.1.1 ≤ 999) ∧ u.2.1.2.length = 0 ∧ u.2.2.1 = 0 ∧ u.2.2.2 = 0
def setP (u : UpdD) : Prop := u.1 = 3 ∧ (0 ≤ u.2.1.1 ∧ u.2.1.1 ≤ 999) ∧ u.2.1.2.length = 0 ∧ (0 ≤ u.2.2.1 ∧ u.2.2.1 ≤ 2) ∧ (0 ≤ u.2.2.2 ∧ u.2.2.2 ≤ 99)
instance (u : UpdD) : Decidable (insP u) := by unfold insP; infer_instance
instance (u : UpdD) : Decidable (delP u) := by unfold delP; infer_instance
instance (u : UpdD) : Decidable (setP u) := by unfold setP; infer_instance
def updB (u : UpdD) : Bool := decide (insP u) || (decide (delP u) || decide (setP u))
/- Where the living version of a row lies, and where there is room. -/
def aliveB (id : Int) (v : VerD) : Bool := decide (v.1 = id ∧ v.2.2.2 = -1)
def hasB (id : Int) (l : List VerD) : Bool := l.any (aliveB id)
def segI (ss : List (List VerD)) (id : Int) : Nat := ss.findIdx (hasB id)
def freeB (l : List VerD) : Bool := decide (l.length < 4)
def roomI (ss : List (List VerD)) : Nat := ss.findIdx freeB
/- What an update makes. -/
def okP (ss : List (List VerD)) (now : Int) (u : UpdD) : Prop := storeB ss now = true ∧ updB u = true ∧ now < 100000 ∧ (u.1 = 1 ↔ ¬ segI ss u.2.1.1 < ss.length) ∧ (u.1 ≠ 2 → roomI ss < ss.length)
instance (ss : List (List VerD)) (now : Int) (u : UpdD) : Decidable (okP ss now u) := by unfold okP; infer_instance
abbrev StoreD := List (List VerD) × Int
/- A store stays valid. -/
/- Reclaiming. -/
def needB (keep : List Int) (v : VerD) : Bool := decide (v.2.2.2 = -1) || keep.any (fun t => visB v t)
def needL (keep : List Int) (l : List VerD) : List VerD := l.filter (needB keep)
def reclaimL (keep : List Int) (ss : List (List VerD)) : List (List VerD) := ss.map (needL keep)
def reclaimB (s : StoreD) (keep : List Int) : StoreD × Int := if storeB s.1 s.2 then ((reclaimL keep s.1, s.2), (s.1.flatten.length : Int) - ((reclaimL keep s.1).flatten.length : Int)) else (s, 0)
theorem reclaim_no {s : StoreD} {keep : List Int} (h : storeB s.1 s.2 = false) : reclaimB s keep = (s, 0) := by unfold reclaimB; rw [h]; rfl
theorem reclaim_yes {s : StoreD} {keep : List Int} (h : storeB s.1 s.2 = true) : reclaimB s keep = ((reclaimL keep s.1, s.2), (s.1.flatten.length : Int) - ((reclaimL keep s.1).flatten.length : Int)) := by unfold reclaimB; rw [h]; rfl
theorem need_len (keep : List Int) (l : List VerD) : (needL keep l).length ≤ l.length := List.length_filter_le _ _
theorem need_yes {keep : List Int} {l : List VerD} {k : Nat} (h : k < l.length) (g : needB keep (l.getD k v0D) = true) : needL keep (l.take (k + 1)) = needL keep (l.take k) ++ [l.getD k v0D] := by
 rw [take_getD h]
 unfold needL
 rw [List.filter_append]
 generalize l.getD k v0D = v at *
 simp [g]
theorem need_no {keep : List Int} {l : List VerD} {k : Nat} (h : k < l.length) (g : needB keep (l.getD k v0D) = false) : needL keep (l.take (k + 1)) = needL keep (l.take k) := by
 rw [take_getD h]
 unfold needL
 rw [List.filter_append]
 generalize l.getD k v0D = v at *
 simp [g]
set_option maxHeartbeats 8000000 in
set_option maxRecDepth 100000 in
theorem specOne (id bo di : Int) (v : Value) (xs : List Int) (w : World) (h : SlR tInt w v xs) (hn : xs.length ≤ 1048576) :
  Calls Try.prog 96 #[.int .i64 id, v, .int .i64 bo, .int .i64 di] w (FreshT tVersion (fun cs => .agg cs.toArray) w (id, xs, bo, di)) := by
 obtain ⟨a, c, rfl⟩ := slR_len h
 have H := Lib.hid h
 have HN := Lib.hid hn
 clear h hn
 have Y0 : Hid (w.heap.size < (w.alloc (.cells #[.int .i64 0, .slice none 0 0, .int .i64 0, .int .i64 0] 88)).heap.size) := Lib.hid (by simp)
 have B0 : Hid ((w.alloc (.cells #[.int .i64 0, .slice none 0 0, .int .i64 0, .int .i64 0] 88)).heap[w.heap.size]? = some (.cells #[.int .i64 0, .slice none 0 0, .int .i64 0, .int .i64 0] 88 (0, 0))) := Lib.hid (heap_alloc_new w _)
 have d := Lib.hid ((Below.refl w.heap.size w).alloc (Nat.le_refl _) (.cells #[.int .i64 0, .slice none 0 0, .int .i64 0, .int .i64 0] 88))
 have E0 : Hid (SlO 3 tInt ((w.alloc (.cells #[.int .i64 0, .slice none 0 0, .int .i64 0, .int .i64 0] 88)).alloc (.cells #[] 3)) (fun b => w.heap.size + 1 ≤ b) (.slice (some ⟨w.heap.size + 1, 0, none⟩) 0 0) []) := Lib.hid (by
  have := slO_empty (T := tInt) (w.alloc (.cells #[.int .i64 0, .slice none 0 0, .int .i64 0, .int .i64 0] 88)) 3 (fun b => w.heap.size + 1 ≤ b) (by simp)
  simpa only [World.size_alloc] using this)
 go_enter Try.func96, Try.ntmps96
 go_wp2_with (at_builtin; refine append_flat tInt_law flat_int info_T_int Try.underlying22 rfl rfl (.tmp 10) (.tmp 11) rfl (fun b => w.heap.size + 1 ≤ b) (fun b => w.heap.size + 1 ≤ b) _ _ [] xs rfl rfl E0.out (slR_below tInt_law H.out (d.out.alloc d.out.size _)) (fun b h => h) (by first | (simp [World.size_alloc]; done) | (simp [World.size_alloc]; omega)) (by have := HN.out; simp; omega) ?_)
 intro v' w1 o1 t1
 obtain ⟨ua, uc, rfl⟩ := slO_len o1
 have k0 : w1.heap[w.heap.size]? = some (.cells #[.int .i64 0, .slice none 0 0, .int .i64 0, .int .i64 0] 88 (0, 0)) := (t1.block _ (by first | (simp [World.size_alloc]; done) | (simp [World.size_alloc]; omega)) (fun h => by have := Y0.out; omega)).trans ((((Below.refl _ _).alloc (Nat.le_refl _) _).block w.heap.size Y0.out).trans B0.out)
 have hd : Below w.heap.size w w1 := below_turn (d.out.alloc d.out.size _) t1 (fun b h => by have h3 : w.heap.size + 1 ≤ b := h; omega) (by first | (simp [World.size_alloc]; done) | (simp [World.size_alloc]; omega))
 have z0 := (cell_of_row w1 _ 0 _ _ _ k0).trans (show _ = some (Value.int .i64 0) from rfl)
 have g0 := frozen_of_row w1 _ 0 _ _ k0
 have z1 := (cell_of_row w1 _ 1 _ _ _ k0).trans (show _ = some (Value.slice none 0 0) from rfl)
 have g1 := frozen_of_row w1 _ 1 _ _ k0
 have z2 := (cell_of_row w1 _ 2 _ _ _ k0).trans (show _ = some (Value.int .i64 0) from rfl)
 have g2 := frozen_of_row w1 _ 2 _ _ k0
 have z3 := (cell_of_row w1 _ 3 _ _ _ k0).trans (show _ = some (Value.int .i64 0) from rfl)
 have g3 := frozen_of_row w1 _ 3 _ _ k0
 have DF := Lib.hid ((((hd.setCell (p := ⟨w.heap.size, 0, none⟩) (by simp) (.int .i64 id)).setCell (p := ⟨w.heap.size, 1, none⟩) (by simp) (.slice ua xs.length uc)).setCell (p := ⟨w.heap.size, 2, none⟩) (by simp) (.int .i64 bo)).setCell (p := ⟨w.heap.size, 3, none⟩) (by simp) (.int .i64 di))
 have r := (heap_setCell_same _ w.heap.size 3 _ _ (.int .i64 di) (heap_setCell_same _ w.heap.size 2 _ _ (.int .i64 bo) (heap_setCell_same _ w.heap.size 1 _ _ (.slice ua xs.length uc) (heap_setCell_same _ w.heap.size 0 _ _ (.int .i64 id) k0))))
 simp at r
 have e0 := (cell_of_row _ w.heap.size 0 _ _ _ r).trans (show _ = some (Value.int .i64 id) from rfl)
 have e1 := (cell_of_row _ w.heap.size 1 _ _ _ r).trans (show _ = some (Value.slice ua xs.length uc) from rfl)
 have e2 := (cell_of_row _ w.heap.size 2 _ _ _ r).trans (show _ = some (Value.int .i64 bo) from rfl)
 have e3 := (cell_of_row _ w.heap.size 3 _ _ _ r).trans (show _ = some (Value.int .i64 di) from rfl)
 have tt : Turn (fun b => b = w.heap.size) w1 ((((w1.setCell ⟨w.heap.size, 0, none⟩ (.int .i64 id)).setCell ⟨w.heap.size, 1, none⟩ (.slice ua xs.length uc)).setCell ⟨w.heap.size, 2, none⟩ (.int .i64 bo)).setCell ⟨w.heap.size, 3, none⟩ (.int .i64 di)) := (((((Turn.refl (fun b => b = w.heap.size) w1).trans (turn_set (G := fun b => b = w.heap.size) (g := w.heap.size) (j := 0) (u := .int .i64 id) rfl)).trans (turn_set (G := fun b => b = w.heap.size) (g := w.heap.size) (j := 1) (u := .slice ua xs.length uc) rfl)).trans (turn_set (G := fun b => b = w.heap.size) (g := w.heap.size) (j := 2) (u := .int .i64 bo) rfl)).trans (turn_set (G := fun b => b = w.heap.size) (g := w.heap.size) (j := 3) (u := .int .i64 di) rfl))
 have PF := Lib.hid (slO_turn tInt_law o1 tt (fun b h1 h2 => by have h3 : w.heap.size + 1 ≤ b := h1; have := Y0.out; omega))
 clear r tt k0 hd t1 o1
 go_wp2
 refine bodyPost_ret (v := .agg #[.int .i64 id, .slice ua xs.length uc, .int .i64 bo, .int .i64 di]) ?_ rfl ⟨[.int .i64 id, .slice ua xs.length uc, .int .i64 bo, .int .i64 di], rfl, tVersion_mkO PF.out (fun b h => by have h3 : w.heap.size + 1 ≤ b := h; have := Y0.out; show w.heap.size ≤ b; omega), DF.out⟩
 simp [results, Try.f96, go_sem, e0, e1, e2, e3]
set_option maxHeartbeats 16000000 in
set_option maxRecDepth 100000 in
theorem specPart (v : Value) (l : List VerD) (w : World) (h : SlR tVersion w v l) (hs : zL tVersion l ≤ 1048576) :
  Calls Try.prog 76 #[v] w (FreshS 88 tVersion w l) := by
 have H := Lib.hid h
 have hlen := zL_len hs
 have HS := Lib.hid hs
 obtain ⟨a, cap, rfl⟩ := slR_len h
 clear h hs
 go_enter Try.func76, Try.ntmps76
 go_wp2
 go_loopw [3, 4] (fun u i wr => ∃ k : Nat, k ≤ l.length ∧ i = .int .i64 k ∧ SlO 88 tVersion wr (since w) u (l.take k) ∧ Below w.heap.size w wr) (fun _ i _ => l.length - (intOf i).toNat)
 case atStart => exact ⟨0, Nat.zero_le _, rfl, slO_empty w 88 (since w) (Nat.le_refl _), (Below.refl _ _).alloc (Nat.le_refl _) _⟩
 case round =>
  obtain ⟨k, hk, rfl, hown, hbel⟩ := hrel
  by_cases hlt : k < l.length
  ·
   have i1 : (0 : Int) ≤ (k : Int) := by omega
   have i2 : (k : Int) < (l.length : Int) := by omega
   obtain ⟨b, off, cap', xa, xc, hv, hbl, c0, c1, c2, c3, hx⟩ := verR_at H.out hlt
   simp only [Value.slice.injEq] at hv
   obtain ⟨rfl, _, rfl⟩ := hv
   have HXL := Lib.hid (ver_len HS.out hlt)
   have HTK := Lib.hid (take_getD hlt).symm
   have HYL : Hid ((l.take k).length ≤ 1048576) := Lib.hid (by rw [List.length_take]; omega)
   have HX := Lib.hid (ints_slR hx)
   generalize l.getD k v0D = x at *
   obtain ⟨id, xs, bo, di⟩ := x
   simp only at c0 c1 c2 c3 HXL
   change Hid (SlR tInt w (.slice xa xs.length xc) xs) at HX
   have C0 := Lib.hid c0
   have C1 := Lib.hid c1
   have C2 := Lib.hid c2
   have C3 := Lib.hid c3
   have HBL := Lib.hid hbl
   have PP := Lib.hid (slO_lt tVersion_law hown)
   have d := Lib.hid hbel
   have ZR := Lib.hid hbel.size
   obtain ⟨oa, oc, rfl⟩ := slO_len hown
   clear c0 c1 c2 c3 hbl hx hown hbel
   have QP := Lib.hid (fun q (h : since w q ∧ q < wr.heap.size) => h)
   generalize l.take k = ys at *
   go_wp2
   have p_C0 := (d.out.cell (p := ⟨b, off + k * 4, none⟩) HBL.out).trans C0.out
   have p_C1 := (d.out.cell (p := ⟨b, off + k * 4 + 1, none⟩) HBL.out).trans C1.out
   have p_C2 := (d.out.cell (p := ⟨b, off + k * 4 + 2, none⟩) HBL.out).trans C2.out
   have p_C3 := (d.out.cell (p := ⟨b, off + k * 4 + 3, none⟩) HBL.out).trans C3.out
   refine wp_region_held_drew (S := fun w' => w'.cell? ⟨b, off + k * 4, none⟩ = some (Value.int .i64 id) ∧ w'.cell? ⟨b, off + k * 4 + 1, none⟩ = some (Value.slice xa xs.length xc) ∧ w'.cell? ⟨b, off + k * 4 + 2, none⟩ = some (Value.int .i64 bo) ∧ w'.cell? ⟨b, off + k * 4 + 3, none⟩ = some (Value.int .i64 di)) (by kernel_rfl) ⟨p_C0, p_C1, p_C2, p_C3⟩ (fun hHeld => ?_)
   clear p_C0 p_C1 p_C2 p_C3
   have cdr : Below wr.heap.size wr wr.drew := below_drew (Below.refl _ _)
   replace PP := Lib.hid (slO_fresh tVersion_law PP.out cdr)
   replace d := Lib.hid (d.out.trans (cdr.mono d.out.size))
   clear cdr
   have Z_dr := Lib.hid (show wr.heap.size ≤ wr.drew.heap.size from Nat.le_refl _)
   generalize wr.drew = Wd at *
   refine tR (i := 0) (v := ?_) ?_ ?_; rotate_left
   ·
    intro w hSw; (try dsimp only at hSw); go_simp; try (with_reducible rfl)
   try simp only [Act.put, lA, lB, lC]
   refine tR (i := 1) (v := ?_) ?_ ?_; rotate_left
   ·
    intro w hSw; (try dsimp only at hSw); go_simp; try (with_reducible rfl)
   try simp only [Act.put, lA, lB, lC]
   refine tR (i := 2) (v := ?_) ?_ ?_; rotate_left
   ·
    intro w hSw; (try dsimp only at hSw); go_simp; try (with_reducible rfl)
   try simp only [Act.put, lA, lB, lC]
   refine tR (i := 3) (v := ?_) ?_ ?_; rotate_left
   ·
    intro w hSw; (try dsimp only at hSw); go_simp; try (with_reducible rfl)
   try simp only [Act.put, lA, lB, lC]
   refine tR (i := 4) (v := ?_) ?_ ?_; rotate_left
   ·
    intro w hSw; (try dsimp only at hSw); go_simp; try (with_reducible rfl)
   try simp only [Act.put, lA, lB, lC]
   refine tR (i := 5) (v := ?_) ?_ ?_; rotate_left
   ·
    intro w hSw; (try dsimp only at hSw); go_simp; try (with_reducible rfl)
   try simp only [Act.put, lA, lB, lC]
   refine tR (i := 6) (v := ?_) ?_ ?_; rotate_left
   ·
    intro w hSw; (try dsimp only at hSw); go_simp; try (with_reducible rfl)
   try simp only [Act.put, lA, lB, lC]
   refine tR (i := 7) (v := ?_) ?_ ?_; rotate_left
   ·
    intro w hSw; (try dsimp only at hSw); go_simp; try (with_reducible rfl)
   try simp only [Act.put, lA, lB, lC]
   refine tR (i := 8) (v := ?_) ?_ ?_; rotate_left
   ·
    intro w hSw; (try dsimp only at hSw); go_simp; try (with_reducible rfl)
   try simp only [Act.put, lA, lB, lC]
   refine tR (i := 9) (v := ?_) ?_ ?_; rotate_left
   ·
    intro w hSw; (try dsimp only at hSw); go_simp; try (with_reducible rfl)
   try simp only [Act.put, lA, lB, lC]
   refine tR (i := 10) (v := ?_) ?_ ?_; rotate_left
   ·
    intro w hSw; (try dsimp only at hSw); go_simp; try (with_reducible rfl)
   try simp only [Act.put, lA, lB, lC]
   refine tR (i := 11) (v := ?_) ?_ ?_; rotate_left
   ·
    intro w hSw; (try dsimp only at hSw); go_simp; try (with_reducible rfl)
   try simp only [Act.put, lA, lB, lC]
   refine tR (i := 12) (v := ?_) ?_ ?_; rotate_left
   ·
    intro w hSw; (try dsimp only at hSw); go_simp; try (with_reducible rfl)
   try simp only [Act.put, lA, lB, lC]
   refine tR (i := 13) (v := ?_) ?_ ?_; rotate_left
   ·
    intro w hSw; (try dsimp only at hSw); go_simp; try (with_reducible rfl)
   try simp only [Act.put, lA, lB, lC]
   refine tR (i := 14) (v := ?_) ?_ ?_; rotate_left
   ·
    intro w hSw; (try dsimp only at hSw); go_simp; try (with_reducible rfl)
   try simp only [Act.put, lA, lB, lC]
   refine tR (i := 15) (v := ?_) ?_ ?_; rotate_left
   ·
    intro w hSw; (try dsimp only at hSw); go_simp; try (with_reducible rfl)
   try simp only [Act.put, lA, lB, lC]
   refine tR (i := 16) (v := ?_) ?_ ?_; rotate_left
   ·
    intro w hSw; (try dsimp only at hSw); go_simp; try (with_reducible rfl)
   try simp only [Act.put, lA, lB, lC]
   refine tR (i := 17) (v := ?_) ?_ ?_; rotate_left
   ·
    intro w hSw; (try dsimp only at hSw); go_simp; try (with_reducible rfl)
   try simp only [Act.put, lA, lB, lC]
   refine tR (i := 18) (v := ?_) ?_ ?_; rotate_left
   ·
    intro w hSw; (try dsimp only at hSw); go_simp; try (with_reducible rfl)
   try simp only [Act.put, lA, lB, lC]
   refine tR (i := 19) (v := ?_) ?_ ?_; rotate_left
   ·
    intro w hSw; (try dsimp only at hSw); go_simp; try (with_reducible rfl)
   try simp only [Act.put, lA, lB, lC]
   refine tR (i := 20) (v := ?_) ?_ ?_; rotate_left
   ·
    intro w hSw; (try dsimp only at hSw); go_simp; try (with_reducible rfl)
   try simp only [Act.put, lA, lB, lC]
   refine wpAnyH_ready (rs := [21]) (by kernel_rfl) (by simp) ?_
   refine (AllReadyH.cons (o := _) (by simp only [hA, hB, hC]; rfl) (fun K hK => ?_) AllReadyH.nil)
   go_simp
   refine (specOne id bo di (.slice xa xs.length xc) xs Wd (slR_below tInt_law HX.out d.out) HXL.out).mono ?_
   rintro e w5 ⟨cs, rfl, ow, c5⟩
   have ox : tVersion.O w5 (fun q => wr.heap.size ≤ q) cs (id, xs, bo, di) := tVersion_law.mono ow (fun q hq => Nat.le_trans Z_dr.out hq)
   obtain ⟨u1, K1, rfl, o1, q1⟩ := tVersion_O ox
   obtain ⟨ua, uc, rfl⟩ := slO_len o1
   have PX := Lib.hid (slO_mono o1 q1)
   replace PP := Lib.hid (slO_fresh tVersion_law PP.out c5)
   replace d := Lib.hid (d.out.trans (c5.mono d.out.size))
   have Z_w5 := Lib.hid (show Wd.heap.size ≤ w5.heap.size from c5.size)
   clear c5 ow ox o1 q1
   have p_C0 := (d.out.cell (p := ⟨b, off + k * 4, none⟩) HBL.out).trans C0.out
   have p_C1 := (d.out.cell (p := ⟨b, off + k * 4 + 1, none⟩) HBL.out).trans C1.out
   have p_C2 := (d.out.cell (p := ⟨b, off + k * 4 + 2, none⟩) HBL.out).trans C2.out
   have p_C3 := (d.out.cell (p := ⟨b, off + k * 4 + 3, none⟩) HBL.out).trans C3.out
   refine hK.out _ _ ⟨p_C0, p_C1, p_C2, p_C3⟩ (fun hHeld => ?_)
   clear p_C0 p_C1 p_C2 p_C3
   clear hK K
   try simp only [Act.put, lA, lB, lC]
   refine wpAnyH_ready (rs := [22]) (by kernel_rfl) (by simp) ?_
   refine (AllReadyH.cons (o := _) (by simp only [hA, hB, hC]; rfl) (fun K hK => ?_) AllReadyH.nil)
   go_simp
   have hal : Below w5.heap.size w5 (w5.alloc (.cells #[.int .i64 id, .slice ua xs.length uc, .int .i64 bo, .int .i64 di] 88)) := (Below.refl _ _).alloc (Nat.le_refl _) _
   have Kd := d
   replace d := Lib.hid (d.out.trans (hal.mono d.out.size))
   clear hal
   have p_C0 := (d.out.cell (p := ⟨b, off + k * 4, none⟩) HBL.out).trans C0.out
   have p_C1 := (d.out.cell (p := ⟨b, off + k * 4 + 1, none⟩) HBL.out).trans C1.out
   have p_C2 := (d.out.cell (p := ⟨b, off + k * 4 + 2, none⟩) HBL.out).trans C2.out
   have p_C3 := (d.out.cell (p := ⟨b, off + k * 4 + 3, none⟩) HBL.out).trans C3.out
   refine hK.out _ _ ⟨p_C0, p_C1, p_C2, p_C3⟩ (fun hHeld => ?_)
   clear p_C0 p_C1 p_C2 p_C3
   clear hK K
   try simp only [Act.put, lA, lB, lC]
   refine wpAnyH_ready (rs := [23]) (by kernel_rfl) (by simp) ?_
   refine (AllReadyH.cons (o := _) (by simp only [hA, hB, hC]; rfl) (fun K hK => ?_) AllReadyH.nil)
   have y0 := ZR.out
   have y1 := Z_dr.out
   have y2 := Z_w5.out
   have yd := Kd.out.size
   have hD : wr.heap.size ≤ w5.heap.size := by omega
   have hnew : tVersion.O w5 (fun q => wr.heap.size ≤ q) [.int .i64 id, .slice ua xs.length uc, .int .i64 bo, .int .i64 di] (id, xs, bo, di) := tVersion_mkO PX.out (fun q hq => hq)
   refine step_append_T tVersion_law info_T_Version Try.underlying89 rfl rfl (.tmp 12) (.tmp 34) rfl (since w) wr.heap.size _ (ys) rfl PP.out hD (fun q hq => Nat.le_trans ZR.out hq) HYL.out [.int .i64 id, .slice ua xs.length uc, .int .i64 bo, .int .i64 di] (id, xs, bo, di) hnew (by simp [Value.oneCell']) 1 _ rfl rfl ?_
   intro v' w7 oN tN
   rw [HTK.out] at oN
   have PN := Lib.hid oN
   have DN := Lib.hid (below_turn Kd.out tN (fun q hq => hq.1) yd)
   clear hnew hD oN tN yd PX Kd d PP y0 y1 y2
   have p_C0 := (DN.out.cell (p := ⟨b, off + k * 4, none⟩) HBL.out).trans C0.out
   have p_C1 := (DN.out.cell (p := ⟨b, off + k * 4 + 1, none⟩) HBL.out).trans C1.out
   have p_C2 := (DN.out.cell (p := ⟨b, off + k * 4 + 2, none⟩) HBL.out).trans C2.out
   have p_C3 := (DN.out.cell (p := ⟨b, off + k * 4 + 3, none⟩) HBL.out).trans C3.out
   refine hK.out _ _ ⟨p_C0, p_C1, p_C2, p_C3⟩ (fun hHeld => ?_)
   clear p_C0 p_C1 p_C2 p_C3
   clear hK K
   try simp only [Act.put, lA, lB, lC]
   refine tR (i := 24) (v := ?_) ?_ ?_; rotate_left
   ·
    intro w hSw; (try dsimp only at hSw); go_simp; try (with_reducible rfl)
   try simp only [Act.put, lA, lB, lC]
   refine wpAnyH_done (by kernel_rfl) ?_ _
   clear hHeld
   go_wp2
   go_roundw
   case rel => exact ⟨k + 1, by omega, by go_num, PN.out, DN.out⟩
   case measure => simp [intOf]; omega
  ·
   obtain rfl : k = l.length := by omega
   rw [List.take_length] at hown
   obtain ⟨oa, oc, rfl⟩ := slO_len hown
   go_wp2
   go_ret
   exact ⟨_, rfl, hown, hbel⟩
set_option maxHeartbeats 16000000 in
set_option maxRecDepth 100000 in
theorem specCopy (v : Value) (ss : List (List VerD)) (now : Int) (w : World) (h : SlR tVersionS w v ss) (hs : zL tVersionS ss ≤ 1048576) :
  Calls Try.prog 48 #[.agg #[v, .int .i64 now]] w (FreshT tStore (fun cs => .agg cs.toArray) w (ss, now)) := by
 have hlen := zL_len hs
 have HS := Lib.hid hs
 obtain ⟨a, cap, rfl⟩ := slR_len h
 have d0 := Lib.hid (show Below w.heap.size w (((w.alloc (.cells #[.slice a ss.length cap, .int .i64 now] 41)).alloc (.cells #[.slice none 0 0, .int .i64 0] 41)).alloc (.cells #[.slice none 0 0, .int .i64 now] 41)) from (((Below.refl _ _).alloc (Nat.le_refl _) _).alloc (by simp <;> omega) _).alloc (by simp <;> omega) _)
 have k0 : (((w.alloc (.cells #[.slice a ss.length cap, .int .i64 now] 41)).alloc (.cells #[.slice none 0 0, .int .i64 0] 41)).alloc (.cells #[.slice none 0 0, .int .i64 now] 41)).heap[w.heap.size]? = some (.cells #[.slice a ss.length cap, .int .i64 now] 41 (0, 0)) := by
  rw [Below.heap_alloc _ _ _ (by simp <;> omega), Below.heap_alloc _ _ _ (by simp)]; exact heap_alloc_new w _
 have k1 : (((w.alloc (.cells #[.slice a ss.length cap, .int .i64 now] 41)).alloc (.cells #[.slice none 0 0, .int .i64 0] 41)).alloc (.cells #[.slice none 0 0, .int .i64 now] 41)).heap[w.heap.size + 1]? = some (.cells #[.slice none 0 0, .int .i64 0] 41 (0, 0)) := by
  rw [Below.heap_alloc _ _ _ (by simp)]
  have := heap_alloc_new (w.alloc (.cells #[.slice a ss.length cap, .int .i64 now] 41)) (.cells #[.slice none 0 0, .int .i64 0] 41)
  simpa only [World.size_alloc] using this
 have k2 : (((w.alloc (.cells #[.slice a ss.length cap, .int .i64 now] 41)).alloc (.cells #[.slice none 0 0, .int .i64 0] 41)).alloc (.cells #[.slice none 0 0, .int .i64 now] 41)).heap[w.heap.size + 2]? = some (.cells #[.slice none 0 0, .int .i64 now] 41 (0, 0)) := by
  have := heap_alloc_new ((w.alloc (.cells #[.slice a ss.length cap, .int .i64 now] 41)).alloc (.cells #[.slice none 0 0, .int .i64 0] 41)) (.cells #[.slice none 0 0, .int .i64 now] 41)
  simpa only [World.size_alloc] using this
 have K0 := Lib.hid k0
 have K1 := Lib.hid k1
 have K2 := Lib.hid k2
 have YW : Hid (w.heap.size + 2 < (((w.alloc (.cells #[.slice a ss.length cap, .int .i64 now] 41)).alloc (.cells #[.slice none 0 0, .int .i64 0] 41)).alloc (.cells #[.slice none 0 0, .int .i64 now] 41)).heap.size) := Lib.hid (by simp)
 have H := Lib.hid h
 clear h hs k0 k1 k2
 go_enter Try.func48, Try.ntmps48
 go_wp2
 generalize (((w.alloc (.cells #[.slice a ss.length cap, .int .i64 now] 41)).alloc (.cells #[.slice none 0 0, .int .i64 0] 41)).alloc (.cells #[.slice none 0 0, .int .i64 now] 41)) = W at *
 go_loopw [4] (fun i wr => ∃ (k : Nat) (fv : Value), k ≤ ss.length ∧ i = .int .i64 k ∧ wr.heap[w.heap.size]? = some (.cells #[.slice a ss.length cap, .int .i64 now] 41 (0, 0)) ∧ wr.heap[w.heap.size + 1]? = some (.cells #[.slice none 0 0, .int .i64 0] 41 (0, 0)) ∧ wr.heap[w.heap.size + 2]? = some (.cells #[fv, .int .i64 now] 41 (0, 0)) ∧ SlO 89 tVersionS wr (fun q => w.heap.size + 2 < q) fv (ss.take k) ∧ Below w.heap.size w wr ∧ w.heap.size + 2 < wr.heap.size) (fun i _ => ss.length - (intOf i).toNat)
 case atStart => exact ⟨0, .slice none 0 0, Nat.zero_le _, rfl, K0.out, K1.out, K2.out, slO_nil _ _ _ _, d0.out, YW.out⟩
 case round =>
  obtain ⟨k, fv, hk, rfl, r0, r1, r2, hown, hbel, hsz⟩ := hrel
  have hfl : (ss.take k).length = k := by rw [List.length_take]; omega
  obtain ⟨fa, fc, rfl⟩ := slO_len hown
  by_cases hlt : k < ss.length
  ·
   have i1 : (0 : Int) ≤ (k : Int) := by omega
   have i2 : (k : Int) < (ss.length : Int) := by omega
   obtain ⟨b, off, cap', cs, hv, hbl, hcs, hR⟩ := slR_at H.out hlt
   simp only [Value.slice.injEq] at hv
   obtain ⟨rfl, _, rfl⟩ := hv
   obtain ⟨u, rfl, hU⟩ := hR
   change SlR tVersion w u (ss.getD k []) at hU
   have pe : w.cell? ⟨b, off + k, none⟩ = some u := by have := hcs 0 Nat.one_pos; rw [show tVersionS.n = 1 from rfl, Nat.mul_one, Nat.add_zero] at this; exact this
   have hzl : zL tVersion (ss.getD k []) ≤ 1048576 := Nat.le_trans (zL_seg hlt) HS.out
   obtain ⟨ua, uc, rfl⟩ := slR_len hU
   have HC := Lib.hid (fun w h => specPart (.slice ua (ss.getD k []).length uc) (ss.getD k []) w h hzl)
   have HTK : Hid (ss.take k ++ [ss.getD k []] = ss.take (k + 1)) := Lib.hid (by rw [List.take_succ_eq_append_getElem hlt]; simp [List.getD, hlt])
   have HTL : Hid ((ss.take (k + 1)).length = k + 1) := Lib.hid (by rw [List.length_take]; omega)
   have HYL : Hid ((ss.take k).length ≤ 1048576) := Lib.hid (by omega)
   have HU := Lib.hid hU
   have C0 := Lib.hid pe
   have HBL := Lib.hid hbl
   have B0 := Lib.hid r0
   have BZ := Lib.hid r1
   have BX := Lib.hid r2
   have PF := Lib.hid (slO_lt tVersionS_law hown)
   have QF := Lib.hid (fun q (h : w.heap.size + 2 < q ∧ q < wr.heap.size) => h)
   have d := Lib.hid hbel
   have ZR := Lib.hid hsz
   have q0 := (cell_of_row wr _ 0 _ _ _ r0).trans (show _ = some (Value.slice (some ⟨b, off, none⟩) ss.length cap) from rfl)
   clear hcs pe hU hzl hbl r0 r1 r2 hown hbel hsz hfl
   generalize ss.getD k [] = l at *
   generalize ss.take k = ys at *
   go_wp2
   clear q0
   have p_B0_0 := (cell_of_row wr _ 0 _ _ _ B0.out).trans (show _ = some (Value.slice (some ⟨b, off, none⟩) ss.length cap) from rfl)
   have p_B0_1 := (cell_of_row wr _ 1 _ _ _ B0.out).trans (show _ = some (Value.int .i64 now) from rfl)
   have p_C0 := (d.out.cell (p := ⟨b, off + k, none⟩) HBL.out).trans C0.out
   refine wp_region_held_drew (S := fun w' => w'.cell? ⟨w.heap.size, 0, none⟩ = some (Value.slice (some ⟨b, off, none⟩) ss.length cap) ∧ w'.cell? ⟨w.heap.size, 1, none⟩ = some (Value.int .i64 now) ∧ w'.cell? ⟨b, off + k, none⟩ = some (Value.slice ua l.length uc)) (by kernel_rfl) ⟨p_B0_0, p_B0_1, p_C0⟩ (fun hHeld => ?_)
   clear p_B0_0 p_B0_1 p_C0
   have cdr : Below wr.heap.size wr wr.drew := below_drew (Below.refl _ _)
   replace B0 := Lib.hid ((cdr.block w.heap.size (Array.getElem?_eq_some_iff.1 B0.out).1).trans B0.out)
   replace BZ := Lib.hid ((cdr.block (w.heap.size + 1) (Array.getElem?_eq_some_iff.1 BZ.out).1).trans BZ.out)
   replace BX := Lib.hid ((cdr.block (w.heap.size + 2) (Array.getElem?_eq_some_iff.1 BX.out).1).trans BX.out)
   replace PF := Lib.hid (slO_fresh tVersionS_law PF.out cdr)
   replace d := Lib.hid (d.out.trans (cdr.mono d.out.size))
   clear cdr
   have Z_dr := Lib.hid (show wr.heap.size ≤ wr.drew.heap.size from Nat.le_refl _)
   generalize wr.drew = Wd at *
   refine tR (i := 0) (v := ?_) ?_ ?_; rotate_left
   ·
    intro w hSw; (try dsimp only at hSw); go_simp; try (with_reducible rfl)
   try simp only [Act.put, lA, lB, lC]
   refine tR (i := 2) (v := ?_) ?_ ?_; rotate_left
   ·
    intro w hSw; (try dsimp only at hSw); go_simp; try (with_reducible rfl)
   try simp only [Act.put, lA, lB, lC]
   refine tR (i := 3) (v := ?_) ?_ ?_; rotate_left
   ·
    intro w hSw; (try dsimp only at hSw); go_simp; try (with_reducible rfl)
   try simp only [Act.put, lA, lB, lC]
   refine tR (i := 4) (v := ?_) ?_ ?_; rotate_left
   ·
    intro w hSw; (try dsimp only at hSw); go_simp; try (with_reducible rfl)
   try simp only [Act.put, lA, lB, lC]
   refine tR (i := 5) (v := ?_) ?_ ?_; rotate_left
   ·
    intro w hSw; (try dsimp only at hSw); go_simp; try (with_reducible rfl)
   try simp only [Act.put, lA, lB, lC]
   refine tR (i := 6) (v := ?_) ?_ ?_; rotate_left
   ·
    intro w hSw; (try dsimp only at hSw); go_simp; try (with_reducible rfl)
   try simp only [Act.put, lA, lB, lC]
   refine wpAnyH_ready (rs := [1, 7]) (by kernel_rfl) (by simp) ?_
   refine (AllReadyH.cons (o := _) (by simp only [hA, hB, hC]; rfl) (fun K hK => ?_) (AllReadyH.cons (o := _) (by simp only [hA, hB, hC]; rfl) (fun K hK => ?_) AllReadyH.nil))
   ·
    have px := (cell_of_row Wd _ 0 _ _ _ BX.out).trans (show _ = some (Value.slice fa ys.length fc) from rfl)
    go_simp
    clear px
    have p_B0_0 := (cell_of_row Wd _ 0 _ _ _ B0.out).trans (show _ = some (Value.slice (some ⟨b, off, none⟩) ss.length cap) from rfl)
    have p_B0_1 := (cell_of_row Wd _ 1 _ _ _ B0.out).trans (show _ = some (Value.int .i64 now) from rfl)
    have p_C0 := (d.out.cell (p := ⟨b, off + k, none⟩) HBL.out).trans C0.out
    refine hK.out _ _ ⟨p_B0_0, p_B0_1, p_C0⟩ (fun hHeld => ?_)
    clear p_B0_0 p_B0_1 p_C0
    clear hK K
    try simp only [Act.put, lA, lB, lC]
    refine wpAnyH_ready (rs := [7]) (by kernel_rfl) (by simp) ?_
    refine (AllReadyH.cons (o := _) (by simp only [hA, hB, hC]; rfl) (fun K hK => ?_) AllReadyH.nil)
    go_simp
    refine (HC.out Wd (slR_below tVersion_law HU.out d.out)).mono ?_
    rintro e w5 ⟨pv, rfl, op, c5⟩
    have ox : SlO 88 tVersion w5 (fun q => wr.heap.size ≤ q) pv l := slO_mono op (fun q hq => Nat.le_trans Z_dr.out hq)
    obtain ⟨pa, pc, rfl⟩ := slO_len ox
    have PX := Lib.hid ox
    replace B0 := Lib.hid ((c5.block w.heap.size (Array.getElem?_eq_some_iff.1 B0.out).1).trans B0.out)
    replace BZ := Lib.hid ((c5.block (w.heap.size + 1) (Array.getElem?_eq_some_iff.1 BZ.out).1).trans BZ.out)
    replace BX := Lib.hid ((c5.block (w.heap.size + 2) (Array.getElem?_eq_some_iff.1 BX.out).1).trans BX.out)
    replace PF := Lib.hid (slO_fresh tVersionS_law PF.out c5)
    replace d := Lib.hid (d.out.trans (c5.mono d.out.size))
    have Z_w5 := Lib.hid (show Wd.heap.size ≤ w5.heap.size from c5.size)
    have QX := Lib.hid (fun q (h : wr.heap.size ≤ q) => h)
    clear c5 op ox
    have p_B0_0 := (cell_of_row w5 _ 0 _ _ _ B0.out).trans (show _ = some (Value.slice (some ⟨b, off, none⟩) ss.length cap) from rfl)
    have p_B0_1 := (cell_of_row w5 _ 1 _ _ _ B0.out).trans (show _ = some (Value.int .i64 now) from rfl)
    have p_C0 := (d.out.cell (p := ⟨b, off + k, none⟩) HBL.out).trans C0.out
    refine hK.out _ _ ⟨p_B0_0, p_B0_1, p_C0⟩ (fun hHeld => ?_)
    clear p_B0_0 p_B0_1 p_C0
    clear hK K
    try simp only [Act.put, lA, lB, lC]
    refine wpAnyH_ready (rs := [8]) (by kernel_rfl) (by simp) ?_
    refine (AllReadyH.cons (o := _) (by simp only [hA, hB, hC]; rfl) (fun K hK => ?_) AllReadyH.nil)
    go_simp
    have hal : Below w5.heap.size w5 (w5.alloc (.cells #[.slice pa l.length pc] 89)) := (Below.refl _ _).alloc (Nat.le_refl _) _
    have KB0 := B0
    have KBZ := BZ
    have KBX := BX
    have KPF := PF
    have KPX := PX
    have Kd := d
    replace B0 := Lib.hid ((hal.block w.heap.size (Array.getElem?_eq_some_iff.1 B0.out).1).trans B0.out)
    replace BZ := Lib.hid ((hal.block (w.heap.size + 1) (Array.getElem?_eq_some_iff.1 BZ.out).1).trans BZ.out)
    replace BX := Lib.hid ((hal.block (w.heap.size + 2) (Array.getElem?_eq_some_iff.1 BX.out).1).trans BX.out)
    replace PF := Lib.hid (slO_fresh tVersionS_law PF.out hal)
    replace PX := Lib.hid (slO_fresh tVersion_law PX.out hal)
    replace d := Lib.hid (d.out.trans (hal.mono d.out.size))
    clear hal
    have p_B0_0 := (cell_of_row (w5.alloc (.cells #[.slice pa l.length pc] 89)) _ 0 _ _ _ B0.out).trans (show _ = some (Value.slice (some ⟨b, off, none⟩) ss.length cap) from rfl)
    have p_B0_1 := (cell_of_row (w5.alloc (.cells #[.slice pa l.length pc] 89)) _ 1 _ _ _ B0.out).trans (show _ = some (Value.int .i64 now) from rfl)
    have p_C0 := (d.out.cell (p := ⟨b, off + k, none⟩) HBL.out).trans C0.out
    refine hK.out _ _ ⟨p_B0_0, p_B0_1, p_C0⟩ (fun hHeld => ?_)
    clear p_B0_0 p_B0_1 p_C0
    clear hK K
    try simp only [Act.put, lA, lB, lC]
    refine wpAnyH_ready (rs := [9]) (by kernel_rfl) (by simp) ?_
    refine (AllReadyH.cons (o := _) (by simp only [hA, hB, hC]; rfl) (fun K hK => ?_) AllReadyH.nil)
    have y0 := ZR.out
    have y1 := Z_dr.out
    have y2 := Z_w5.out
    have yd := Kd.out.size
    have hD : wr.heap.size ≤ w5.heap.size := by omega
    refine step_append_T tVersionS_law info_T_VersionS Try.underlying39 rfl rfl (.tmp 16) (.tmp 23) rfl (fun q => w.heap.size + 2 < q) wr.heap.size _ ys rfl KPF.out hD (fun q hq => by show w.heap.size + 2 < q; omega) HYL.out [.slice pa l.length pc] l ⟨_, rfl, KPX.out⟩ (by simp [Value.oneCell']) 1 _ rfl rfl ?_
    intro v' w7 oN tN
    replace B0 := Lib.hid ((tN.block w.heap.size (Array.getElem?_eq_some_iff.1 KB0.out).1 (fun h => by have r : w.heap.size + 2 < w.heap.size := h.1; omega)).trans KB0.out)
    replace BZ := Lib.hid ((tN.block (w.heap.size + 1) (Array.getElem?_eq_some_iff.1 KBZ.out).1 (fun h => by have r : w.heap.size + 2 < (w.heap.size + 1) := h.1; omega)).trans KBZ.out)
    replace BX := Lib.hid ((tN.block (w.heap.size + 2) (Array.getElem?_eq_some_iff.1 KBX.out).1 (fun h => by have r : w.heap.size + 2 < (w.heap.size + 2) := h.1; omega)).trans KBX.out)
    replace d := Lib.hid (below_turn Kd.out tN (fun q hq => by have r : w.heap.size + 2 < q := hq.1; omega) yd)
    have zN := Lib.hid (show w5.heap.size ≤ w7.heap.size from tN.size)
    rw [HTK.out] at oN
    obtain ⟨na, nc, rfl⟩ := slO_len oN
    rw [HTL.out] at oN
    have PN := Lib.hid oN
    clear hD oN tN yd PF PX KB0 KBZ KBX KPF KPX Kd y0 y1 y2
    have p_B0_0 := (cell_of_row w7 _ 0 _ _ _ B0.out).trans (show _ = some (Value.slice (some ⟨b, off, none⟩) ss.length cap) from rfl)
    have p_B0_1 := (cell_of_row w7 _ 1 _ _ _ B0.out).trans (show _ = some (Value.int .i64 now) from rfl)
    have p_C0 := (d.out.cell (p := ⟨b, off + k, none⟩) HBL.out).trans C0.out
    refine hK.out _ _ ⟨p_B0_0, p_B0_1, p_C0⟩ (fun hHeld => ?_)
    clear p_B0_0 p_B0_1 p_C0
    clear hK K
    try simp only [Act.put, lA, lB, lC]
    refine tR (i := 10) (v := ?_) ?_ ?_; rotate_left
    ·
     intro w hSw; (try dsimp only at hSw); go_simp; try (with_reducible rfl)
    try simp only [Act.put, lA, lB, lC]
    refine wpAnyH_ready (rs := [11]) (by kernel_rfl) (by simp) ?_
    refine (AllReadyH.cons (o := _) (by simp only [hA, hB, hC]; rfl) (fun K hK => ?_) AllReadyH.nil)
    have px := (cell_of_row w7 _ 0 _ _ _ BX.out).trans (show _ = some (Value.slice fa ys.length fc) from rfl)
    have fx := frozen_of_row w7 _ 0 _ _ BX.out
    rw [HTL.out]
    go_simp
    clear px fx
    have tt : Turn (fun q => q = w.heap.size + 2) w7 (w7.setCell ⟨w.heap.size + 2, 0, none⟩ (.slice na (k + 1) nc)) := turn_set (G := fun q => q = w.heap.size + 2) (g := w.heap.size + 2) (j := 0) (u := .slice na (k + 1) nc) rfl
    have r := heap_setCell_same w7 (w.heap.size + 2) 0 _ _ (.slice na (k + 1) nc) BX.out
    simp at r
    have y0 := ZR.out
    have y1 := Z_dr.out
    have y2 := Z_w5.out
    have y3 := zN.out
    replace BX : Hid ((w7.setCell ⟨w.heap.size + 2, 0, none⟩ (.slice na (k + 1) nc)).heap[w.heap.size + 2]? = some (.cells #[.slice na (k + 1) nc, .int .i64 now] 41 (0, 0))) := Lib.hid r
    replace B0 := Lib.hid ((tt.block w.heap.size (Array.getElem?_eq_some_iff.1 B0.out).1 (fun h => by omega)).trans B0.out)
    replace BZ := Lib.hid ((tt.block (w.heap.size + 1) (Array.getElem?_eq_some_iff.1 BZ.out).1 (fun h => by omega)).trans BZ.out)
    replace PN := Lib.hid (slO_turn tVersionS_law PN.out tt (fun q h1 h2 => by have r1 : w.heap.size + 2 < q := h1; omega))
    replace d := Lib.hid (below_turn d.out tt (fun q h => by omega) d.out.size)
    have zM := Lib.hid (show w7.heap.size ≤ (w7.setCell ⟨w.heap.size + 2, 0, none⟩ (.slice na (k + 1) nc)).heap.size from tt.size)
    clear tt r y0 y1 y2 y3
    generalize (w7.setCell ⟨w.heap.size + 2, 0, none⟩ (.slice na (k + 1) nc)) = w8 at *
    have p_B0_0 := (cell_of_row w8 _ 0 _ _ _ B0.out).trans (show _ = some (Value.slice (some ⟨b, off, none⟩) ss.length cap) from rfl)
    have p_B0_1 := (cell_of_row w8 _ 1 _ _ _ B0.out).trans (show _ = some (Value.int .i64 now) from rfl)
    have p_C0 := (d.out.cell (p := ⟨b, off + k, none⟩) HBL.out).trans C0.out
    refine hK.out _ _ ⟨p_B0_0, p_B0_1, p_C0⟩ (fun hHeld => ?_)
    clear p_B0_0 p_B0_1 p_C0
    clear hK K
    try simp only [Act.put, lA, lB, lC]
    refine wpAnyH_done (by kernel_rfl) ?_ _
    clear hHeld
    have y0 := ZR.out
    have y1 := Z_dr.out
    have y2 := Z_w5.out
    have y3 := zN.out
    have y4 := zM.out
    have zz : w.heap.size + 2 < w8.heap.size := by omega
    have ZZ := Lib.hid zz
    clear zz y0 y1 y2 y3 y4
    go_wp2
    go_roundw
    case rel => exact ⟨k + 1, _, by omega, by go_num, B0.out, BZ.out, BX.out, PN.out, d.out, ZZ.out⟩
    case measure => simp [intOf]; omega
   ·
    go_simp
    refine (HC.out Wd (slR_below tVersion_law HU.out d.out)).mono ?_
    rintro e w5 ⟨pv, rfl, op, c5⟩
    have ox : SlO 88 tVersion w5 (fun q => wr.heap.size ≤ q) pv l := slO_mono op (fun q hq => Nat.le_trans Z_dr.out hq)
    obtain ⟨pa, pc, rfl⟩ := slO_len ox
    have PX := Lib.hid ox
    replace B0 := Lib.hid ((c5.block w.heap.size (Array.getElem?_eq_some_iff.1 B0.out).1).trans B0.out)
    replace BZ := Lib.hid ((c5.block (w.heap.size + 1) (Array.getElem?_eq_some_iff.1 BZ.out).1).trans BZ.out)
    replace BX := Lib.hid ((c5.block (w.heap.size + 2) (Array.getElem?_eq_some_iff.1 BX.out).1).trans BX.out)
    replace PF := Lib.hid (slO_fresh tVersionS_law PF.out c5)
    replace d := Lib.hid (d.out.trans (c5.mono d.out.size))
    have Z_w5 := Lib.hid (show Wd.heap.size ≤ w5.heap.size from c5.size)
    have QX := Lib.hid (fun q (h : wr.heap.size ≤ q) => h)
    clear c5 op ox
    have p_B0_0 := (cell_of_row w5 _ 0 _ _ _ B0.out).trans (show _ = some (Value.slice (some ⟨b, off, none⟩) ss.length cap) from rfl)
    have p_B0_1 := (cell_of_row w5 _ 1 _ _ _ B0.out).trans (show _ = some (Value.int .i64 now) from rfl)
    have p_C0 := (d.out.cell (p := ⟨b, off + k, none⟩) HBL.out).trans C0.out
    refine hK.out _ _ ⟨p_B0_0, p_B0_1, p_C0⟩ (fun hHeld => ?_)
    clear p_B0_0 p_B0_1 p_C0
    clear hK K
    try simp only [Act.put, lA, lB, lC]
    refine wpAnyH_ready (rs := [1, 8]) (by kernel_rfl) (by simp) ?_
    refine (AllReadyH.cons (o := _) (by simp only [hA, hB, hC]; rfl) (fun K hK => ?_) (AllReadyH.cons (o := _) (by simp only [hA, hB, hC]; rfl) (fun K hK => ?_) AllReadyH.nil))
    ·
     have px := (cell_of_row w5 _ 0 _ _ _ BX.out).trans (show _ = some (Value.slice fa ys.length fc) from rfl)
     go_simp
     clear px
     have p_B0_0 := (cell_of_row w5 _ 0 _ _ _ B0.out).trans (show _ = some (Value.slice (some ⟨b, off, none⟩) ss.length cap) from rfl)
     have p_B0_1 := (cell_of_row w5 _ 1 _ _ _ B0.out).trans (show _ = some (Value.int .i64 now) from rfl)
     have p_C0 := (d.out.cell (p := ⟨b, off + k, none⟩) HBL.out).trans C0.out
     refine hK.out _ _ ⟨p_B0_0, p_B0_1, p_C0⟩ (fun hHeld => ?_)
     clear p_B0_0 p_B0_1 p_C0
     clear hK K
     try simp only [Act.put, lA, lB, lC]
     refine wpAnyH_ready (rs := [8]) (by kernel_rfl) (by simp) ?_
     refine (AllReadyH.cons (o := _) (by simp only [hA, hB, hC]; rfl) (fun K hK => ?_) AllReadyH.nil)
     go_simp
     have hal : Below w5.heap.size w5 (w5.alloc (.cells #[.slice pa l.length pc] 89)) := (Below.refl _ _).alloc (Nat.le_refl _) _
     have KB0 := B0
     have KBZ := BZ
     have KBX := BX
     have KPF := PF
     have KPX := PX
     have Kd := d
     replace B0 := Lib.hid ((hal.block w.heap.size (Array.getElem?_eq_some_iff.1 B0.out).1).trans B0.out)
     replace BZ := Lib.hid ((hal.block (w.heap.size + 1) (Array.getElem?_eq_some_iff.1 BZ.out).1).trans BZ.out)
     replace BX := Lib.hid ((hal.block (w.heap.size + 2) (Array.getElem?_eq_some_iff.1 BX.out).1).trans BX.out)
     replace PF := Lib.hid (slO_fresh tVersionS_law PF.out hal)
     replace PX := Lib.hid (slO_fresh tVersion_law PX.out hal)
     replace d := Lib.hid (d.out.trans (hal.mono d.out.size))
     clear hal
     have p_B0_0 := (cell_of_row (w5.alloc (.cells #[.slice pa l.length pc] 89)) _ 0 _ _ _ B0.out).trans (show _ = some (Value.slice (some ⟨b, off, none⟩) ss.length cap) from rfl)
     have p_B0_1 := (cell_of_row (w5.alloc (.cells #[.slice pa l.length pc] 89)) _ 1 _ _ _ B0.out).trans (show _ = some (Value.int .i64 now) from rfl)
     have p_C0 := (d.out.cell (p := ⟨b, off + k, none⟩) HBL.out).trans C0.out
     refine hK.out _ _ ⟨p_B0_0, p_B0_1, p_C0⟩ (fun hHeld => ?_)
     clear p_B0_0 p_B0_1 p_C0
     clear hK K
     try simp only [Act.put, lA, lB, lC]
     refine wpAnyH_ready (rs := [9]) (by kernel_rfl) (by simp) ?_
     refine (AllReadyH.cons (o := _) (by simp only [hA, hB, hC]; rfl) (fun K hK => ?_) AllReadyH.nil)
     have y0 := ZR.out
     have y1 := Z_dr.out
     have y2 := Z_w5.out
     have yd := Kd.out.size
     have hD : wr.heap.size ≤ w5.heap.size := by omega
     refine step_append_T tVersionS_law info_T_VersionS Try.underlying39 rfl rfl (.tmp 16) (.tmp 23) rfl (fun q => w.heap.size + 2 < q) wr.heap.size _ ys rfl KPF.out hD (fun q hq => by show w.heap.size + 2 < q; omega) HYL.out [.slice pa l.length pc] l ⟨_, rfl, KPX.out⟩ (by simp [Value.oneCell']) 1 _ rfl rfl ?_
     intro v' w7 oN tN
     replace B0 := Lib.hid ((tN.block w.heap.size (Array.getElem?_eq_some_iff.1 KB0.out).1 (fun h => by have r : w.heap.size + 2 < w.heap.size := h.1; omega)).trans KB0.out)
     replace BZ := Lib.hid ((tN.block (w.heap.size + 1) (Array.getElem?_eq_some_iff.1 KBZ.out).1 (fun h => by have r : w.heap.size + 2 < (w.heap.size + 1) := h.1; omega)).trans KBZ.out)
     replace BX := Lib.hid ((tN.block (w.heap.size + 2) (Array.getElem?_eq_some_iff.1 KBX.out).1 (fun h => by have r : w.heap.size + 2 < (w.heap.size + 2) := h.1; omega)).trans KBX.out)
     replace d := Lib.hid (below_turn Kd.out tN (fun q hq => by have r : w.heap.size + 2 < q := hq.1; omega) yd)
     have zN := Lib.hid (show w5.heap.size ≤ w7.heap.size from tN.size)
     rw [HTK.out] at oN
     obtain ⟨na, nc, rfl⟩ := slO_len oN
     rw [HTL.out] at oN
     have PN := Lib.hid oN
     clear hD oN tN yd PF PX KB0 KBZ KBX KPF KPX Kd y0 y1 y2
     have p_B0_0 := (cell_of_row w7 _ 0 _ _ _ B0.out).trans (show _ = some (Value.slice (some ⟨b, off, none⟩) ss.length cap) from rfl)
     have p_B0_1 := (cell_of_row w7 _ 1 _ _ _ B0.out).trans (show _ = some (Value.int .i64 now) from rfl)
     have p_C0 := (d.out.cell (p := ⟨b, off + k, none⟩) HBL.out).trans C0.out
     refine hK.out _ _ ⟨p_B0_0, p_B0_1, p_C0⟩ (fun hHeld => ?_)
     clear p_B0_0 p_B0_1 p_C0
     clear hK K
     try simp only [Act.put, lA, lB, lC]
     refine tR (i := 10) (v := ?_) ?_ ?_; rotate_left
     ·
      intro w hSw; (try dsimp only at hSw); go_simp; try (with_reducible rfl)
     try simp only [Act.put, lA, lB, lC]
     refine wpAnyH_ready (rs := [11]) (by kernel_rfl) (by simp) ?_
     refine (AllReadyH.cons (o := _) (by simp only [hA, hB, hC]; rfl) (fun K hK => ?_) AllReadyH.nil)
     have px := (cell_of_row w7 _ 0 _ _ _ BX.out).trans (show _ = some (Value.slice fa ys.length fc) from rfl)
     have fx := frozen_of_row w7 _ 0 _ _ BX.out
     rw [HTL.out]
     go_simp
     clear px fx
     have tt : Turn (fun q => q = w.heap.size + 2) w7 (w7.setCell ⟨w.heap.size + 2, 0, none⟩ (.slice na (k + 1) nc)) := turn_set (G := fun q => q = w.heap.size + 2) (g := w.heap.size + 2) (j := 0) (u := .slice na (k + 1) nc) rfl
     have r := heap_setCell_same w7 (w.heap.size + 2) 0 _ _ (.slice na (k + 1) nc) BX.out
     simp at r
     have y0 := ZR.out
     have y1 := Z_dr.out
     have y2 := Z_w5.out
     have y3 := zN.out
     replace BX : Hid ((w7.setCell ⟨w.heap.size + 2, 0, none⟩ (.slice na (k + 1) nc)).heap[w.heap.size + 2]? = some (.cells #[.slice na (k + 1) nc, .int .i64 now] 41 (0, 0))) := Lib.hid r
     replace B0 := Lib.hid ((tt.block w.heap.size (Array.getElem?_eq_some_iff.1 B0.out).1 (fun h => by omega)).trans B0.out)
     replace BZ := Lib.hid ((tt.block (w.heap.size + 1) (Array.getElem?_eq_some_iff.1 BZ.out).1 (fun h => by omega)).trans BZ.out)
     replace PN := Lib.hid (slO_turn tVersionS_law PN.out tt (fun q h1 h2 => by have r1 : w.heap.size + 2 < q := h1; omega))
     replace d := Lib.hid (below_turn d.out tt (fun q h => by omega) d.out.size)
     have zM := Lib.hid (show w7.heap.size ≤ (w7.setCell ⟨w.heap.size + 2, 0, none⟩ (.slice na (k + 1) nc)).heap.size from tt.size)
     clear tt r y0 y1 y2 y3
     generalize (w7.setCell ⟨w.heap.size + 2, 0, none⟩ (.slice na (k + 1) nc)) = w8 at *
     have p_B0_0 := (cell_of_row w8 _ 0 _ _ _ B0.out).trans (show _ = some (Value.slice (some ⟨b, off, none⟩) ss.length cap) from rfl)
     have p_B0_1 := (cell_of_row w8 _ 1 _ _ _ B0.out).trans (show _ = some (Value.int .i64 now) from rfl)
     have p_C0 := (d.out.cell (p := ⟨b, off + k, none⟩) HBL.out).trans C0.out
     refine hK.out _ _ ⟨p_B0_0, p_B0_1, p_C0⟩ (fun hHeld => ?_)
     clear p_B0_0 p_B0_1 p_C0
     clear hK K
     try simp only [Act.put, lA, lB, lC]
     refine wpAnyH_done (by kernel_rfl) ?_ _
     clear hHeld
     have y0 := ZR.out
     have y1 := Z_dr.out
     have y2 := Z_w5.out
     have y3 := zN.out
     have y4 := zM.out
     have zz : w.heap.size + 2 < w8.heap.size := by omega
     have ZZ := Lib.hid zz
     clear zz y0 y1 y2 y3 y4
     go_wp2
     go_roundw
     case rel => exact ⟨k + 1, _, by omega, by go_num, B0.out, BZ.out, BX.out, PN.out, d.out, ZZ.out⟩
     case measure => simp [intOf]; omega
    ·
     go_simp
     have hal : Below w5.heap.size w5 (w5.alloc (.cells #[.slice pa l.length pc] 89)) := (Below.refl _ _).alloc (Nat.le_refl _) _
     have KB0 := B0
     have KBZ := BZ
     have KBX := BX
     have KPF := PF
     have KPX := PX
     have Kd := d
     replace B0 := Lib.hid ((hal.block w.heap.size (Array.getElem?_eq_some_iff.1 B0.out).1).trans B0.out)
     replace BZ := Lib.hid ((hal.block (w.heap.size + 1) (Array.getElem?_eq_some_iff.1 BZ.out).1).trans BZ.out)
     replace BX := Lib.hid ((hal.block (w.heap.size + 2) (Array.getElem?_eq_some_iff.1 BX.out).1).trans BX.out)
     replace PF := Lib.hid (slO_fresh tVersionS_law PF.out hal)
     replace PX := Lib.hid (slO_fresh tVersion_law PX.out hal)
     replace d := Lib.hid (d.out.trans (hal.mono d.out.size))
     clear hal
     have p_B0_0 := (cell_of_row (w5.alloc (.cells #[.slice pa l.length pc] 89)) _ 0 _ _ _ B0.out).trans (show _ = some (Value.slice (some ⟨b, off, none⟩) ss.length cap) from rfl)
     have p_B0_1 := (cell_of_row (w5.alloc (.cells #[.slice pa l.length pc] 89)) _ 1 _ _ _ B0.out).trans (show _ = some (Value.int .i64 now) from rfl)
     have p_C0 := (d.out.cell (p := ⟨b, off + k, none⟩) HBL.out).trans C0.out
     refine hK.out _ _ ⟨p_B0_0, p_B0_1, p_C0⟩ (fun hHeld => ?_)
     clear p_B0_0 p_B0_1 p_C0
     clear hK K
     try simp only [Act.put, lA, lB, lC]
     refine wpAnyH_ready (rs := [1]) (by kernel_rfl) (by simp) ?_
     refine (AllReadyH.cons (o := _) (by simp only [hA, hB, hC]; rfl) (fun K hK => ?_) AllReadyH.nil)
     have px := (cell_of_row (w5.alloc (.cells #[.slice pa l.length pc] 89)) _ 0 _ _ _ BX.out).trans (show _ = some (Value.slice fa ys.length fc) from rfl)
     go_simp
     clear px
     have p_B0_0 := (cell_of_row (w5.alloc (.cells #[.slice pa l.length pc] 89)) _ 0 _ _ _ B0.out).trans (show _ = some (Value.slice (some ⟨b, off, none⟩) ss.length cap) from rfl)
     have p_B0_1 := (cell_of_row (w5.alloc (.cells #[.slice pa l.length pc] 89)) _ 1 _ _ _ B0.out).trans (show _ = some (Value.int .i64 now) from rfl)
     have p_C0 := (d.out.cell (p := ⟨b, off + k, none⟩) HBL.out).trans C0.out
     refine hK.out _ _ ⟨p_B0_0, p_B0_1, p_C0⟩ (fun hHeld => ?_)
     clear p_B0_0 p_B0_1 p_C0
     clear hK K
     try simp only [Act.put, lA, lB, lC]
     refine wpAnyH_ready (rs := [9]) (by kernel_rfl) (by simp) ?_
     refine (AllReadyH.cons (o := _) (by simp only [hA, hB, hC]; rfl) (fun K hK => ?_) AllReadyH.nil)
     have y0 := ZR.out
     have y1 := Z_dr.out
     have y2 := Z_w5.out
     have yd := Kd.out.size
     have hD : wr.heap.size ≤ w5.heap.size := by omega
     refine step_append_T tVersionS_law info_T_VersionS Try.underlying39 rfl rfl (.tmp 16) (.tmp 23) rfl (fun q => w.heap.size + 2 < q) wr.heap.size _ ys rfl KPF.out hD (fun q hq => by show w.heap.size + 2 < q; omega) HYL.out [.slice pa l.length pc] l ⟨_, rfl, KPX.out⟩ (by simp [Value.oneCell']) 1 _ rfl rfl ?_
     intro v' w7 oN tN
     replace B0 := Lib.hid ((tN.block w.heap.size (Array.getElem?_eq_some_iff.1 KB0.out).1 (fun h => by have r : w.heap.size + 2 < w.heap.size := h.1; omega)).trans KB0.out)
     replace BZ := Lib.hid ((tN.block (w.heap.size + 1) (Array.getElem?_eq_some_iff.1 KBZ.out).1 (fun h => by have r : w.heap.size + 2 < (w.heap.size + 1) := h.1; omega)).trans KBZ.out)
     replace BX := Lib.hid ((tN.block (w.heap.size + 2) (Array.getElem?_eq_some_iff.1 KBX.out).1 (fun h => by have r : w.heap.size + 2 < (w.heap.size + 2) := h.1; omega)).trans KBX.out)
     replace d := Lib.hid (below_turn Kd.out tN (fun q hq => by have r : w.heap.size + 2 < q := hq.1; omega) yd)
     have zN := Lib.hid (show w5.heap.size ≤ w7.heap.size from tN.size)
     rw [HTK.out] at oN
     obtain ⟨na, nc, rfl⟩ := slO_len oN
     rw [HTL.out] at oN
     have PN := Lib.hid oN
     clear hD oN tN yd PF PX KB0 KBZ KBX KPF KPX Kd y0 y1 y2
     have p_B0_0 := (cell_of_row w7 _ 0 _ _ _ B0.out).trans (show _ = some (Value.slice (some ⟨b, off, none⟩) ss.length cap) from rfl)
     have p_B0_1 := (cell_of_row w7 _ 1 _ _ _ B0.out).trans (show _ = some (Value.int .i64 now) from rfl)
     have p_C0 := (d.out.cell (p := ⟨b, off + k, none⟩) HBL.out).trans C0.out
     refine hK.out _ _ ⟨p_B0_0, p_B0_1, p_C0⟩ (fun hHeld => ?_)
     clear p_B0_0 p_B0_1 p_C0
     clear hK K
     try simp only [Act.put, lA, lB, lC]
     refine tR (i := 10) (v := ?_) ?_ ?_; rotate_left
     ·
      intro w hSw; (try dsimp only at hSw); go_simp; try (with_reducible rfl)
     try simp only [Act.put, lA, lB, lC]
     refine wpAnyH_ready (rs := [11]) (by kernel_rfl) (by simp) ?_
     refine (AllReadyH.cons (o := _) (by simp only [hA, hB, hC]; rfl) (fun K hK => ?_) AllReadyH.nil)
     have px := (cell_of_row w7 _ 0 _ _ _ BX.out).trans (show _ = some (Value.slice fa ys.length fc) from rfl)
     have fx := frozen_of_row w7 _ 0 _ _ BX.out
     rw [HTL.out]
     go_simp
     clear px fx
     have tt : Turn (fun q => q = w.heap.size + 2) w7 (w7.setCell ⟨w.heap.size + 2, 0, none⟩ (.slice na (k + 1) nc)) := turn_set (G := fun q => q = w.heap.size + 2) (g := w.heap.size + 2) (j := 0) (u := .slice na (k + 1) nc) rfl
     have r := heap_setCell_same w7 (w.heap.size + 2) 0 _ _ (.slice na (k + 1) nc) BX.out
     simp at r
     have y0 := ZR.out
     have y1 := Z_dr.out
     have y2 := Z_w5.out
     have y3 := zN.out
     replace BX : Hid ((w7.setCell ⟨w.heap.size + 2, 0, none⟩ (.slice na (k + 1) nc)).heap[w.heap.size + 2]? = some (.cells #[.slice na (k + 1) nc, .int .i64 now] 41 (0, 0))) := Lib.hid r
     replace B0 := Lib.hid ((tt.block w.heap.size (Array.getElem?_eq_some_iff.1 B0.out).1 (fun h => by omega)).trans B0.out)
     replace BZ := Lib.hid ((tt.block (w.heap.size + 1) (Array.getElem?_eq_some_iff.1 BZ.out).1 (fun h => by omega)).trans BZ.out)
     replace PN := Lib.hid (slO_turn tVersionS_law PN.out tt (fun q h1 h2 => by have r1 : w.heap.size + 2 < q := h1; omega))
     replace d := Lib.hid (below_turn d.out tt (fun q h => by omega) d.out.size)
     have zM := Lib.hid (show w7.heap.size ≤ (w7.setCell ⟨w.heap.size + 2, 0, none⟩ (.slice na (k + 1) nc)).heap.size from tt.size)
     clear tt r y0 y1 y2 y3
     generalize (w7.setCell ⟨w.heap.size + 2, 0, none⟩ (.slice na (k + 1) nc)) = w8 at *
     have p_B0_0 := (cell_of_row w8 _ 0 _ _ _ B0.out).trans (show _ = some (Value.slice (some ⟨b, off, none⟩) ss.length cap) from rfl)
     have p_B0_1 := (cell_of_row w8 _ 1 _ _ _ B0.out).trans (show _ = some (Value.int .i64 now) from rfl)
     have p_C0 := (d.out.cell (p := ⟨b, off + k, none⟩) HBL.out).trans C0.out
     refine hK.out _ _ ⟨p_B0_0, p_B0_1, p_C0⟩ (fun hHeld => ?_)
     clear p_B0_0 p_B0_1 p_C0
     clear hK K
     try simp only [Act.put, lA, lB, lC]
     refine wpAnyH_done (by kernel_rfl) ?_ _
     clear hHeld
     have y0 := ZR.out
     have y1 := Z_dr.out
     have y2 := Z_w5.out
     have y3 := zN.out
     have y4 := zM.out
     have zz : w.heap.size + 2 < w8.heap.size := by omega
     have ZZ := Lib.hid zz
     clear zz y0 y1 y2 y3 y4
     go_wp2
     go_roundw
     case rel => exact ⟨k + 1, _, by omega, by go_num, B0.out, BZ.out, BX.out, PN.out, d.out, ZZ.out⟩
     case measure => simp [intOf]; omega
  ·
   obtain rfl : k = ss.length := by omega
   rw [List.take_length] at hown
   have HFL := Lib.hid hfl
   rw [List.take_length] at r2
   have q0 := (cell_of_row wr _ 0 _ _ _ r0).trans (show _ = some (Value.slice a ss.length cap) from rfl)
   have x0 := (cell_of_row wr _ 0 _ _ _ r2).trans (show _ = some (Value.slice fa ss.length fc) from rfl)
   have x1 := (cell_of_row wr _ 1 _ _ _ r2).trans (show _ = some (Value.int .i64 now) from rfl)
   have z0 := (cell_of_row wr _ 0 _ _ _ r1).trans (show _ = some (Value.slice none 0 0) from rfl)
   have z1 := (cell_of_row wr _ 1 _ _ _ r1).trans (show _ = some (Value.int .i64 0) from rfl)
   have g0 := frozen_of_row wr _ 0 _ _ r1
   have g1 := frozen_of_row wr _ 1 _ _ r1
   have hd : Below w.heap.size w wr := hbel
   have DF := Lib.hid ((hd.setCell (p := ⟨w.heap.size + 1, 0, none⟩) (by simp) (.slice fa ss.length fc)).setCell (p := ⟨w.heap.size + 1, 1, none⟩) (by simp) (.int .i64 now))
   have r := (heap_setCell_same _ (w.heap.size + 1) 1 _ _ (.int .i64 now) (heap_setCell_same wr (w.heap.size + 1) 0 _ _ (.slice fa ss.length fc) r1))
   simp at r
   have e0 := (cell_of_row _ (w.heap.size + 1) 0 _ _ _ r).trans (show _ = some (Value.slice fa ss.length fc) from rfl)
   have e1 := (cell_of_row _ (w.heap.size + 1) 1 _ _ _ r).trans (show _ = some (Value.int .i64 now) from rfl)
   have tt : Turn (fun b => b = w.heap.size + 1) wr ((wr.setCell ⟨w.heap.size + 1, 0, none⟩ (.slice fa ss.length fc)).setCell ⟨w.heap.size + 1, 1, none⟩ (.int .i64 now)) := ((Turn.refl (fun b => b = w.heap.size + 1) _).trans (turn_set (G := fun b => b = w.heap.size + 1) (g := w.heap.size + 1) (j := 0) (u := .slice fa ss.length fc) rfl)).trans (turn_set (G := fun b => b = w.heap.size + 1) (g := w.heap.size + 1) (j := 1) (u := .int .i64 now) rfl)
   have PF1 := Lib.hid (slO_turn tVersionS_law hown tt (fun b h1 h2 => by have h3 : w.heap.size + 2 < b := h1; omega))
   clear r tt r0 r1 r2 hown hbel hd hfl
   go_wp2
   refine bodyPost_ret (v := .agg #[.slice fa ss.length fc, .int .i64 now]) ?_ rfl ⟨[.slice fa ss.length fc, .int .i64 now], rfl, tStore_mkO PF1.out (fun b h => by have h3 : w.heap.size + 2 < b := h; show w.heap.size ≤ b; omega), DF.out⟩
   simp [results, Try.f48, go_sem, e0, e1]
end Go.Proofs.Ythiiaiholcfhhaa
