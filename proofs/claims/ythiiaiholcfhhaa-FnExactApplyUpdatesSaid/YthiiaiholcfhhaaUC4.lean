/-
 Texts of the proof, merged: RowAre, RowLess, RowCopy, RowIns, VerMath, VerSpec1, VerBr, VerSpec2, VerSpec3, VerSpec4, RowInsM, RowSort, VerSpec5, NewMath, VerSpec6, VerSpec7, UpdMath, UpdSpec2, UpdSpec3.
-/
import Derived.Test.YthiiaiholcfhhaaUC1
import Derived.Test.YthiiaiholcfhhaaUC2
import Derived.Test.YthiiaiholcfhhaaUC3
import Derived.Maps.AppendAt
namespace Go.Proofs.Ythiiaiholcfhhaa
open Go.RowKit
set_option linter.unusedVariables false
set_option linter.unusedSimpArgs false
/-- Are they rows? -/
def areB (rs : List RowD) : Bool := (List.range rs.length).all (fun i => rowB (rs.getD i (0, [])) && (decide (i = 0) || decide ((rs.getD (i - 1) (0, [])).1 < (rs.getD i (0, [])).1))) && decide (rs.length ≤ 32)
/-- A version: its number, values, birth and death. -/
abbrev VerD := Int × List Int × Int × Int
def v0D : VerD := (0, [], 0, 0)
def visP (born died t : Int) : Prop := born ≤ t ∧ (died = -1 ∨ t < died)
instance (a b c : Int) : Decidable (visP a b c) := by unfold visP; infer_instance
def lifeP (born died now : Int) : Prop := 0 ≤ born ∧ born ≤ now ∧ (died = -1 ∨ born < died ∧ died ≤ now)
instance (a b c : Int) : Decidable (lifeP a b c) := by unfold lifeP; infer_instance
def verB (v : VerD) (now : Int) : Bool := rowB (v.1, v.2.1) && decide (lifeP v.2.2.1 v.2.2.2 now)
def apartP (i1 b1 d1 i2 b2 d2 : Int) : Prop := i1 ≠ i2 ∨ (d1 ≠ -1 ∧ d1 ≤ b2) ∨ (d2 ≠ -1 ∧ d2 ≤ b1)
instance (a b c d e f : Int) : Decidable (apartP a b c d e f) := by unfold apartP; infer_instance
def apartB (a b : VerD) : Bool := decide (apartP a.1 a.2.2.1 a.2.2.2 b.1 b.2.2.1 b.2.2.2)
/-- Two valid versions are apart iff they are not seen together when the later one is born. -/
def seenP (i1 b1 d1 i2 b2 d2 : Int) : Prop := i1 = i2 ∧ visP b1 d1 (max b1 b2) ∧ visP b2 d2 (max b1 b2)
instance (a b c d e f : Int) : Decidable (seenP a b c d e f) := by unfold seenP; infer_instance
def seenB (a b : VerD) : Bool := decide (seenP a.1 a.2.2.1 a.2.2.2 b.1 b.2.2.1 b.2.2.2)
theorem seen_apart {i1 b1 d1 i2 b2 d2 now : Int} (h1 : lifeP b1 d1 now) (h2 : lifeP b2 d2 now) : seenP i1 b1 d1 i2 b2 d2 ↔ ¬ apartP i1 b1 d1 i2 b2 d2 := by
 unfold seenP apartP visP
 unfold lifeP at h1 h2
 omega
theorem ver_life {v : VerD} {now : Int} (h : verB v now = true) : lifeP v.2.2.1 v.2.2.2 now := by
 unfold verB at h
 rw [Bool.and_eq_true] at h
 exact of_decide_eq_true h.2
theorem seenB_apart {a b : VerD} {now : Int} (h1 : verB a now = true) (h2 : verB b now = true) : seenB a b = !apartB a b := by
 unfold seenB apartB
 by_cases h : apartP a.1 a.2.2.1 a.2.2.2 b.1 b.2.2.1 b.2.2.2
 ·
  rw [decide_eq_true h, decide_eq_false (fun g => (seen_apart (ver_life h1) (ver_life h2)).1 g h)]; rfl
 ·
  rw [decide_eq_false h, decide_eq_true ((seen_apart (ver_life h1) (ver_life h2)).2 h)]; rfl
/-- The first n versions are valid and apart. -/
def VersP (l : List VerD) (now : Int) (n : Nat) : Prop := ∀ i, i < n → verB (l.getD i v0D) now = true ∧ ∀ k, k < i → apartB (l.getD i v0D) (l.getD k v0D) = true
instance (l : List VerD) (now : Int) (n : Nat) : Decidable (VersP l now n) := by unfold VersP; infer_instance
def ShortP (ss : List (List VerD)) (n : Nat) : Prop := ∀ i, i < n → (ss.getD i []).length ≤ 4
instance (ss : List (List VerD)) (n : Nat) : Decidable (ShortP ss n) := by unfold ShortP; infer_instance
def storeP (ss : List (List VerD)) (now : Int) : Prop := ((1 ≤ ss.length ∧ ss.length ≤ 8) ∧ (0 ≤ now ∧ now ≤ 100000)) ∧ ShortP ss ss.length ∧ VersP ss.flatten now ss.flatten.length
instance (ss : List (List VerD)) (now : Int) : Decidable (storeP ss now) := by unfold storeP; infer_instance
def storeB (ss : List (List VerD)) (now : Int) : Bool := decide (storeP ss now)
theorem vers_step {l : List VerD} {now : Int} {n : Nat} (h : VersP l now n) (h1 : verB (l.getD n v0D) now = true) (h2 : ∀ k, k < n → apartB (l.getD n v0D) (l.getD k v0D) = true) : VersP l now (n + 1) := fun i hi => by
 by_cases e : i = n
 ·
  subst e; exact ⟨h1, h2⟩
 ·
  exact h i (by omega)
theorem store_no_count {ss : List (List VerD)} {now : Int} (h : ¬ (1 ≤ ss.length ∧ ss.length ≤ 8)) : storeB ss now = false := decide_eq_false (fun g => h g.1.1)
theorem store_no_now {ss : List (List VerD)} {now : Int} (h : ¬ (0 ≤ now ∧ now ≤ 100000)) : storeB ss now = false := decide_eq_false (fun g => h g.1.2)
theorem store_no_short {ss : List (List VerD)} {now : Int} {i : Nat} (hi : i < ss.length) (h : ¬ (ss.getD i []).length ≤ 4) : storeB ss now = false := decide_eq_false (fun g => h (g.2.1 i hi))
theorem store_no_ver {ss : List (List VerD)} {now : Int} {i : Nat} (hi : i < ss.flatten.length) (h : verB (ss.flatten.getD i v0D) now = false) : storeB ss now = false := decide_eq_false (fun g => by
 have := (g.2.2 i hi).1; rw [h] at this; cases this)
theorem store_no_apart {ss : List (List VerD)} {now : Int} {i k : Nat} (hi : i < ss.flatten.length) (hk : k < i) (h : apartB (ss.flatten.getD i v0D) (ss.flatten.getD k v0D) = false) : storeB ss now = false := decide_eq_false (fun g => by
 have := (g.2.2 i hi).2 k hk; rw [h] at this; cases this)
theorem store_yes {ss : List (List VerD)} {now : Int} (h1 : 1 ≤ ss.length ∧ ss.length ≤ 8) (h2 : 0 ≤ now ∧ now ≤ 100000) (h3 : ShortP ss ss.length) (h4 : VersP ss.flatten now ss.flatten.length) : storeB ss now = true := decide_eq_true ⟨⟨h1, h2⟩, h3, h4⟩
theorem store_iff {ss : List (List VerD)} {now : Int} (h : storeB ss now = true) : storeP ss now := of_decide_eq_true h
/-- The segments as far as k, one behind the other. -/
def cat (ss : List (List VerD)) (k : Nat) : List VerD := (ss.take k).flatten
theorem cat_zero (ss : List (List VerD)) : cat ss 0 = [] := by simp [cat]
theorem cat_all (ss : List (List VerD)) : cat ss ss.length = ss.flatten := by simp [cat]
theorem cat_step {ss : List (List VerD)} {k : Nat} (h : k < ss.length) : cat ss k ++ ss.getD k [] = cat ss (k + 1) := by
 unfold cat
 have e : ss.getD k [] = ss[k] := by simp [List.getD, h]
 rw [e, List.take_succ_eq_append_getElem h, List.flatten_append]
 simp
theorem cat_len {ss : List (List VerD)} {k : Nat} (h : k < ss.length) : (cat ss (k + 1)).length = (cat ss k).length + (ss.getD k []).length := by rw [← cat_step h, List.length_append]
theorem cat_le (ss : List (List VerD)) (k : Nat) : (cat ss k).length ≤ ss.flatten.length := by
 unfold cat
 have e : ss.flatten = (ss.take k).flatten ++ (ss.drop k).flatten := by rw [← List.flatten_append, List.take_append_drop]
 rw [e, List.length_append]; omega
theorem cat_at {ss : List (List VerD)} {k i : Nat} (h : i < (cat ss k).length) : ss.flatten.getD i v0D = (cat ss k).getD i v0D := by
 unfold cat at h ⊢
 have e : ss.flatten = (ss.take k).flatten ++ (ss.drop k).flatten := by rw [← List.flatten_append, List.take_append_drop]
 rw [e]
 simp only [List.getD, List.getElem?_append_left h]
theorem cat_in {ss : List (List VerD)} {k j : Nat} (h : k < ss.length) (hj : j < (ss.getD k []).length) : ss.flatten.getD ((cat ss k).length + j) v0D = (ss.getD k []).getD j v0D := by
 have hl := cat_len h
 rw [cat_at (k := k + 1) (by omega), ← cat_step h]
 simp only [List.getD]
 rw [List.getElem?_append_right (by omega), Nat.add_sub_cancel_left]
theorem take_getD {l : List VerD} {k : Nat} (h : k < l.length) : l.take (k + 1) = l.take k ++ [l.getD k v0D] := by
 have e : l.getD k v0D = l[k] := by simp [List.getD, h]
 rw [e, List.take_succ_eq_append_getElem h]
theorem verR_at {w : World} {v : Value} {l : List VerD} (h : SlR tVersion w v l) {k : Nat} (hk : k < l.length) :
  ∃ (b off cap : Nat) (a : Option Addr) (c : Nat), v = .slice (some ⟨b, off, none⟩) l.length cap ∧ b < w.heap.size ∧
   w.cell? ⟨b, off + k * 4, none⟩ = some (.int .i64 (l.getD k v0D).1) ∧ w.cell? ⟨b, off + k * 4 + 1, none⟩ = some (.slice a (l.getD k v0D).2.1.length c) ∧
   w.cell? ⟨b, off + k * 4 + 2, none⟩ = some (.int .i64 (l.getD k v0D).2.2.1) ∧ w.cell? ⟨b, off + k * 4 + 3, none⟩ = some (.int .i64 (l.getD k v0D).2.2.2) ∧
   Ints w (.slice a (l.getD k v0D).2.1.length c) (l.getD k v0D).2.1 := by
 obtain ⟨b, off, cap, cs, hv, hb, hc, hR⟩ := slR_at h hk
 change tVersion.R w cs (l.getD k v0D) at hR
 generalize l.getD k v0D = r at *
 obtain ⟨i, xs, bo, di⟩ := r
 obtain ⟨v1, rfl, h1⟩ := tVersion_R hR
 obtain ⟨a, c, rfl⟩ := slR_len h1
 exact ⟨b, off, cap, a, c, hv, hb, hc 0 (by decide), hc 1 (by decide), hc 2 (by decide), hc 3 (by decide), slR_ints h1⟩
theorem one_Version : OneC tVersion := fun {w cs x} h u hu => by
 obtain ⟨i, xs, bo, di⟩ := x
 obtain ⟨v1, rfl, h1⟩ := tVersion_R h
 obtain ⟨a, c, rfl⟩ := slR_len h1
 simp at hu
 rcases hu with rfl | rfl | rfl | rfl <;> rfl
theorem info_T_Version : ElemInfo tVersion 88 (.agg #[.int .i64 0, .slice none 0 0, .int .i64 0, .int .i64 0]) := elemInfo_of (by kernel_rfl)
theorem info_R_Version : ElemInfo (tRaw 4) 88 (.agg #[.int .i64 0, .slice none 0 0, .int .i64 0, .int .i64 0]) := elemInfo_of (by kernel_rfl)
theorem zL_sum {α : Type} (T : Ty α) (xs : List α) : zL T xs = xs.length + (xs.map T.sz).sum := by unfold zL zTo sumN; rw [List.take_length]
theorem ver_sz (v : VerD) : tVersion.sz v = v.2.1.length := by
 obtain ⟨i, xs, bo, di⟩ := v
 rw [tVersion_sz, zL_ints]
theorem zL_all (ss : List (List VerD)) : ss.length + zL tVersion ss.flatten = zL tVersionS ss := by
 rw [zL_sum tVersionS, zL_sum tVersion]
 congr 1
 induction ss with
 | nil => rfl
 | cons s ss ih =>
  rw [List.flatten_cons, List.length_append, List.map_append, List.sum_append, List.map_cons, List.sum_cons, ← ih]
  have e : tVersionS.sz s = s.length + (s.map tVersion.sz).sum := zL_sum tVersion s
  rw [e]; omega
theorem zL_seg {ss : List (List VerD)} {k : Nat} (hk : k < ss.length) : zL tVersion (ss.getD k []) ≤ zL tVersionS ss := zL_at (T := tVersionS) (Nat.le_refl _) hk
theorem ver_len {l : List VerD} (hs : zL tVersion l ≤ 1048576) {k : Nat} (hk : k < l.length) : (l.getD k v0D).2.1.length ≤ 1048576 := by
 have := zL_at (T := tVersion) hs hk
 rw [ver_sz] at this
 exact this
set_option maxHeartbeats 8000000 in
set_option maxRecDepth 100000 in
theorem specVersion (id born died now : Int) (vv : Value) (xs : List Int) (w : World) (h : Ints w vv xs) (hn : xs.length ≤ 1048576) (hw : now ≤ 100000) :
  Calls Try.prog 78 #[.agg #[.int .i64 id, vv, .int .i64 born, .int .i64 died], .int .i64 now] w fun e w' => e = .returned (.bool (verB (id, xs, born, died) now)) ∧ Below w.heap.size w w' := by
 have HR := Lib.hid (fun W g => specIsRow id vv xs W g hn)
 have H := Lib.hid h
 clear hn
 obtain ⟨va, vc, rfl⟩ := ints_len h
 have d0 := Lib.hid (show Below w.heap.size w (w.alloc (.cells #[.int .i64 id, .slice va xs.length vc, .int .i64 born, .int .i64 died] 88)) from (Below.refl _ _).alloc (Nat.le_refl _) _)
 have B0 : Hid ((w.alloc (.cells #[.int .i64 id, .slice va xs.length vc, .int .i64 born, .int .i64 died] 88)).heap[w.heap.size]? = some (.cells #[.int .i64 id, .slice va xs.length vc, .int .i64 born, .int .i64 died] 88 (0, 0))) := Lib.hid (heap_alloc_new w _)
 have Y0 : Hid (w.heap.size < (w.alloc (.cells #[.int .i64 id, .slice va xs.length vc, .int .i64 born, .int .i64 died] 88)).heap.size) := Lib.hid (by simp [World.size_alloc])
 have HV : Hid (∀ r l, rowB (id, xs) = r → decide (lifeP born died now) = l → verB (id, xs, born, died) now = (r && l)) := Lib.hid (fun r l h1 h2 => by unfold verB; rw [h1]; show (r && decide (lifeP born died now)) = _; rw [h2])
 clear h
 cases hr : rowB (id, xs) with
 | false =>
  rw [hr] at HR
  rw [HV.out _ _ hr rfl, Bool.false_and]
  clear hr HV
  go_enter Try.func78, Try.ntmps78
  go_wp2_with fail
  generalize w.alloc (.cells #[.int .i64 id, .slice va xs.length vc, .int .i64 born, .int .i64 died] 88) = W at *
  refine (HR.out W (ints_below H.out d0.out)).mono ?_
  rintro e w1 ⟨rfl, b1⟩
  have k0 := (b1.block w.heap.size Y0.out).trans B0.out
  have b2 := d0.out.trans (b1.mono d0.out.size)
  go_wp2
  go_ret
  exact ⟨rfl, b2⟩
 | true =>
  rw [hr] at HR
  have HV2 := Lib.hid (fun l => HV.out _ l hr)
  clear hr HV
  by_cases h1 : 0 ≤ born ∧ born ≤ now
  ·
   obtain ⟨h1a, h1b⟩ := h1
   by_cases h2 : died = -1
   ·
    have hl : decide (lifeP born died now) = true := decide_eq_true ⟨h1a, h1b, Or.inl h2⟩
    rw [HV2.out _ hl]
    have e2 : (died == -1) = true := by simp [h2]
    clear hl h2
    go_enter Try.func78, Try.ntmps78
    go_wp2_with fail
    generalize w.alloc (.cells #[.int .i64 id, .slice va xs.length vc, .int .i64 born, .int .i64 died] 88) = W at *
    refine (HR.out W (ints_below H.out d0.out)).mono ?_
    rintro e w1 ⟨rfl, b1⟩
    have k0 := (b1.block w.heap.size Y0.out).trans B0.out
    have b2 := d0.out.trans (b1.mono d0.out.size)
    have p0 := (cell_of_row w1 _ 0 _ _ _ k0).trans (show _ = some (Value.int .i64 id) from rfl)
    have p1 := (cell_of_row w1 _ 1 _ _ _ k0).trans (show _ = some (Value.slice va xs.length vc) from rfl)
    have p2 := (cell_of_row w1 _ 2 _ _ _ k0).trans (show _ = some (Value.int .i64 born) from rfl)
    have p3 := (cell_of_row w1 _ 3 _ _ _ k0).trans (show _ = some (Value.int .i64 died) from rfl)
    clear k0
    go_wp2_with fail
    refine (in_yes born 0 now _ h1a h1b).mono ?_
    rintro e wx ⟨rfl, rfl⟩
    go_wp2
    go_ret
    exact ⟨rfl, b2⟩
   ·
    have e2 : (died == -1) = false := by simp [h2]
    by_cases h3 : born + 1 ≤ died ∧ died ≤ now
    ·
     have hl : decide (lifeP born died now) = true := decide_eq_true ⟨h1a, h1b, Or.inr ⟨by omega, h3.2⟩⟩
     rw [HV2.out _ hl]
     have H3 := Lib.hid h3
     clear hl h2 h3
     go_enter Try.func78, Try.ntmps78
     go_wp2_with fail
     generalize w.alloc (.cells #[.int .i64 id, .slice va xs.length vc, .int .i64 born, .int .i64 died] 88) = W at *
     refine (HR.out W (ints_below H.out d0.out)).mono ?_
     rintro e w1 ⟨rfl, b1⟩
     have k0 := (b1.block w.heap.size Y0.out).trans B0.out
     have b2 := d0.out.trans (b1.mono d0.out.size)
     have p0 := (cell_of_row w1 _ 0 _ _ _ k0).trans (show _ = some (Value.int .i64 id) from rfl)
     have p1 := (cell_of_row w1 _ 1 _ _ _ k0).trans (show _ = some (Value.slice va xs.length vc) from rfl)
     have p2 := (cell_of_row w1 _ 2 _ _ _ k0).trans (show _ = some (Value.int .i64 born) from rfl)
     have p3 := (cell_of_row w1 _ 3 _ _ _ k0).trans (show _ = some (Value.int .i64 died) from rfl)
     clear k0
     go_wp2_with fail
     refine (in_yes born 0 now _ h1a h1b).mono ?_
     rintro e wx ⟨rfl, rfl⟩
     go_wp2_with fail
     refine (in_yes died (born + 1) now _ H3.out.1 H3.out.2).mono ?_
     rintro e wx ⟨rfl, rfl⟩
     go_wp2
     go_ret
     exact ⟨rfl, b2⟩
    ·
     have hl : decide (lifeP born died now) = false := decide_eq_false (fun g => by unfold lifeP at g; omega)
     rw [HV2.out _ hl]
     have H3 := Lib.hid h3
     clear hl h2 h3
     go_enter Try.func78, Try.ntmps78
     go_wp2_with fail
     generalize w.alloc (.cells #[.int .i64 id, .slice va xs.length vc, .int .i64 born, .int .i64 died] 88) = W at *
     refine (HR.out W (ints_below H.out d0.out)).mono ?_
     rintro e w1 ⟨rfl, b1⟩
     have k0 := (b1.block w.heap.size Y0.out).trans B0.out
     have b2 := d0.out.trans (b1.mono d0.out.size)
     have p0 := (cell_of_row w1 _ 0 _ _ _ k0).trans (show _ = some (Value.int .i64 id) from rfl)
     have p1 := (cell_of_row w1 _ 1 _ _ _ k0).trans (show _ = some (Value.slice va xs.length vc) from rfl)
     have p2 := (cell_of_row w1 _ 2 _ _ _ k0).trans (show _ = some (Value.int .i64 born) from rfl)
     have p3 := (cell_of_row w1 _ 3 _ _ _ k0).trans (show _ = some (Value.int .i64 died) from rfl)
     clear k0
     go_wp2_with fail
     refine (in_yes born 0 now _ h1a h1b).mono ?_
     rintro e wx ⟨rfl, rfl⟩
     go_wp2_with fail
     refine (in_no died (born + 1) now _ H3.out).mono ?_
     rintro e wx ⟨rfl, rfl⟩
     go_wp2
     go_ret
     exact ⟨rfl, b2⟩
  ·
   have hl : decide (lifeP born died now) = false := decide_eq_false (fun g => h1 ⟨g.1, g.2.1⟩)
   rw [HV2.out _ hl]
   have H1 := Lib.hid h1
   clear hl h1
   go_enter Try.func78, Try.ntmps78
   go_wp2_with fail
   generalize w.alloc (.cells #[.int .i64 id, .slice va xs.length vc, .int .i64 born, .int .i64 died] 88) = W at *
   refine (HR.out W (ints_below H.out d0.out)).mono ?_
   rintro e w1 ⟨rfl, b1⟩
   have k0 := (b1.block w.heap.size Y0.out).trans B0.out
   have b2 := d0.out.trans (b1.mono d0.out.size)
   have p0 := (cell_of_row w1 _ 0 _ _ _ k0).trans (show _ = some (Value.int .i64 id) from rfl)
   have p1 := (cell_of_row w1 _ 1 _ _ _ k0).trans (show _ = some (Value.slice va xs.length vc) from rfl)
   have p2 := (cell_of_row w1 _ 2 _ _ _ k0).trans (show _ = some (Value.int .i64 born) from rfl)
   have p3 := (cell_of_row w1 _ 3 _ _ _ k0).trans (show _ = some (Value.int .i64 died) from rfl)
   clear k0
   go_wp2_with fail
   refine (in_no born 0 now _ H1.out).mono ?_
   rintro e wx ⟨rfl, rfl⟩
   go_wp2
   go_ret
   exact ⟨rfl, b2⟩
set_option maxHeartbeats 8000000 in
set_option maxRecDepth 100000 in
theorem specApart (i1 b1 d1 i2 b2 d2 : Int) (v1 v2 : Value) (w : World) :
  Calls Try.prog 79 #[.agg #[.int .i64 i1, v1, .int .i64 b1, .int .i64 d1], .agg #[.int .i64 i2, v2, .int .i64 b2, .int .i64 d2]] w fun e w' => e = .returned (.bool (decide (apartP i1 b1 d1 i2 b2 d2))) ∧ Below w.heap.size w w' := by
 have hb : Below w.heap.size w ((w.alloc (.cells #[.int .i64 i1, v1, .int .i64 b1, .int .i64 d1] 88)).alloc (.cells #[.int .i64 i2, v2, .int .i64 b2, .int .i64 d2] 88)) := ((Below.refl _ w).alloc (Nat.le_refl _) _).alloc (by simp) _
 by_cases q1 : i1 = i2
 ·
  have e1 : (i1 != i2) = false := by simp [q1]
  have Q1 := Lib.hid q1
  clear q1
  by_cases q2 : d1 = -1
  ·
   have e2 : (d1 != -1) = false := by simp [q2]
   have Q2 := Lib.hid q2
   clear q2
   by_cases q4 : d2 = -1
   ·
    have e4 : (d2 != -1) = false := by simp [q4]
    have HD : Hid (decide (apartP i1 b1 d1 i2 b2 d2) = false) := Lib.hid (by have h1 := Q1.out; have h2 := Q2.out; exact decide_eq_false (fun g => by unfold apartP at g; omega))
    rw [HD.out]
    clear q4
    go_enter Try.func79, Try.ntmps79
    go_wp2
    go_ret
    exact ⟨ret_b (by first | rfl | simp [*]), hb⟩
   ·
    have e4 : (d2 != -1) = true := by simp [q4]
    by_cases q5 : d2 ≤ b1
    ·
     have q6 : d2 ≤ b1 := q5
     have HD : Hid (decide (apartP i1 b1 d1 i2 b2 d2) = true) := Lib.hid (decide_eq_true (Or.inr (Or.inr ⟨q4, q5⟩)))
     rw [HD.out]
     clear q4
     go_enter Try.func79, Try.ntmps79
     go_wp2
     go_ret
     exact ⟨ret_b (by first | rfl | simp [*]), hb⟩
    ·
     have e5 : decide (d2 ≤ b1) = false := decide_eq_false q5
     have HD : Hid (decide (apartP i1 b1 d1 i2 b2 d2) = false) := Lib.hid (by have h1 := Q1.out; have h2 := Q2.out; exact decide_eq_false (fun g => by unfold apartP at g; omega))
     rw [HD.out]
     clear q4
     go_enter Try.func79, Try.ntmps79
     go_wp2
     go_ret
     exact ⟨ret_b (by first | rfl | simp [*]), hb⟩
  ·
   have e2 : (d1 != -1) = true := by simp [q2]
   have Q2 := Lib.hid q2
   clear q2
   by_cases q3 : d1 ≤ b2
   ·
    have q6 : d1 ≤ b2 := q3
    have HD : Hid (decide (apartP i1 b1 d1 i2 b2 d2) = true) := Lib.hid (decide_eq_true (Or.inr (Or.inl ⟨Q2.out, q3⟩)))
    rw [HD.out]
    go_enter Try.func79, Try.ntmps79
    go_wp2
    go_ret
    exact ⟨ret_b (by first | rfl | simp [*]), hb⟩
   ·
    have e3 : decide (d1 ≤ b2) = false := decide_eq_false q3
    have Q3 := Lib.hid q3
    by_cases q4 : d2 = -1
    ·
     have e4 : (d2 != -1) = false := by simp [q4]
     have HD : Hid (decide (apartP i1 b1 d1 i2 b2 d2) = false) := Lib.hid (by have h1 := Q1.out; have h2 := Q2.out; have h3 := Q3.out; exact decide_eq_false (fun g => by unfold apartP at g; omega))
     rw [HD.out]
     clear q4
     go_enter Try.func79, Try.ntmps79
     go_wp2
     go_ret
     exact ⟨ret_b (by first | rfl | simp [*]), hb⟩
    ·
     have e4 : (d2 != -1) = true := by simp [q4]
     by_cases q5 : d2 ≤ b1
     ·
      have q6 : d2 ≤ b1 := q5
      have HD : Hid (decide (apartP i1 b1 d1 i2 b2 d2) = true) := Lib.hid (decide_eq_true (Or.inr (Or.inr ⟨q4, q5⟩)))
      rw [HD.out]
      clear q4
      go_enter Try.func79, Try.ntmps79
      go_wp2
      go_ret
      exact ⟨ret_b (by first | rfl | simp [*]), hb⟩
     ·
      have e5 : decide (d2 ≤ b1) = false := decide_eq_false q5
      have HD : Hid (decide (apartP i1 b1 d1 i2 b2 d2) = false) := Lib.hid (by have h1 := Q1.out; have h2 := Q2.out; have h3 := Q3.out; exact decide_eq_false (fun g => by unfold apartP at g; omega))
      rw [HD.out]
      clear q4
      go_enter Try.func79, Try.ntmps79
      go_wp2
      go_ret
      exact ⟨ret_b (by first | rfl | simp [*]), hb⟩
 ·
  have e1 : (i1 != i2) = true := by simp [q1]
  have HD : Hid (decide (apartP i1 b1 d1 i2 b2 d2) = true) := Lib.hid (decide_eq_true (Or.inl q1))
  rw [HD.out]
  clear q1
  go_enter Try.func79, Try.ntmps79
  go_wp2
  go_ret
  exact ⟨ret_b (by first | rfl | simp [*]), hb⟩
/-- The answer: a slice of the call's own whose cells read as these versions. -/
def AllV (w : World) (l : List VerD) (e : Ending) (w' : World) : Prop := ∃ (v : Value) (L : List (List Value)), e = .returned v ∧ SlO 88 (tRaw 4) w' (since w) v L ∧ Sh tVersion w L l ∧ Below w.heap.size w w'
set_option maxHeartbeats 8000000 in
set_option maxRecDepth 100000 in
theorem specL7All (sv : Value) (ss : List (List VerD)) (now : Int) (w : World) (h : SlR tVersionS w sv ss) (hs : zL tVersionS ss ≤ 1048576) :
  Calls Try.prog 77 #[.agg #[sv, .int .i64 now]] w (AllV w ss.flatten) := by
 have H := Lib.hid h
 have HS := Lib.hid hs
 have hlen := zL_len hs
 have HF : Hid (ss.flatten.length ≤ 1048576) := Lib.hid (by have h1 := zL_all ss; have h2 := zL_len (T := tVersion) (xs := ss.flatten) (M := 1048576) (by omega); omega)
 obtain ⟨a, cap, rfl⟩ := slR_len h
 clear h hs
 have d0 := Lib.hid (show Below w.heap.size w ((w.alloc (.cells #[.slice a ss.length cap, .int .i64 now] 41)).alloc (.cells #[] 88)) from ((Below.refl _ _).alloc (Nat.le_refl _) _).alloc (by simp) _)
 have B0 : Hid (((w.alloc (.cells #[.slice a ss.length cap, .int .i64 now] 41)).alloc (.cells #[] 88)).heap[w.heap.size]? = some (.cells #[.slice a ss.length cap, .int .i64 now] 41 (0, 0))) := Lib.hid (by rw [Below.heap_alloc _ _ _ (by simp)]; exact heap_alloc_new w _)
 have Y0 : Hid (w.heap.size < ((w.alloc (.cells #[.slice a ss.length cap, .int .i64 now] 41)).alloc (.cells #[] 88)).heap.size) := Lib.hid (by simp [World.size_alloc]; omega)
 have P0 : Hid (SlO 88 (tRaw 4) ((w.alloc (.cells #[.slice a ss.length cap, .int .i64 now] 41)).alloc (.cells #[] 88)) (fun b => w.heap.size < b) (.slice (some ⟨w.heap.size + 1, 0, none⟩) 0 0) []) := Lib.hid (by have := slO_empty (T := tRaw 4) (w.alloc (.cells #[.slice a ss.length cap, .int .i64 now] 41)) 88 (fun b => w.heap.size < b) (by simp [World.size_alloc]); simpa only [World.size_alloc] using this)
 go_enter Try.func77, Try.ntmps77
 go_wp2
 go_loopw [3, 4] (fun o i wr => ∃ (k : Nat) (L : List (List Value)), k ≤ ss.length ∧ i = .int .i64 k ∧ SlO 88 (tRaw 4) wr (fun b => w.heap.size < b) o L ∧ Hid (Sh tVersion w L (cat ss k)) ∧ wr.heap[w.heap.size]? = some (.cells #[.slice a ss.length cap, .int .i64 now] 41 (0, 0)) ∧ Below w.heap.size w wr ∧ w.heap.size < wr.heap.size) (fun _ i _ => ss.length - (intOf i).toNat)
 case atStart => exact ⟨0, [], Nat.zero_le _, rfl, P0.out, Lib.hid (by rw [cat_zero]; exact sh_nil w), B0.out, d0.out, Y0.out⟩
 case round =>
  obtain ⟨k, L, hk, rfl, hown, hsh, hbox, hbel, hy⟩ := hrel
  clear d0 B0 Y0 P0
  obtain ⟨oa, oc, rfl⟩ := slO_len hown
  have c0 := (cell_of_row wr _ 0 _ _ _ hbox).trans (show _ = some (Value.slice a ss.length cap) from rfl)
  by_cases hlt : k < ss.length
  ·
   obtain ⟨b, off, cap2, cs, hv, hbl, hcs, hR⟩ := slR_at H.out hlt
   simp only [Value.slice.injEq] at hv
   obtain ⟨rfl, _, rfl⟩ := hv
   obtain ⟨u, rfl, hU⟩ := hR
   have p0 : w.cell? ⟨b, off + k, none⟩ = some u := by have := hcs 0 Nat.one_pos; rw [show tVersionS.n = 1 from rfl, Nat.mul_one, Nat.add_zero] at this; exact this
   have hel := (hbel.cell (p := ⟨b, off + k, none⟩) hbl).trans p0
   obtain ⟨M, hM, hSh⟩ := slR_raw tVersion_law one_Version hU
   have HM := Lib.hid (slR_below (tRaw_law (by decide)) hM hbel)
   have HC : Hid (Sh tVersion w (L ++ M) (cat ss (k + 1))) := Lib.hid (by rw [← cat_step hlt]; exact sh_app hsh.out hSh)
   have HL : Hid (L.length + M.length ≤ 2097152) := Lib.hid (by have h1 := sh_len HC.out; have h2 := cat_le ss (k + 1); have h3 := HF.out; rw [List.length_append] at h1; omega)
   have i1 : (0 : Int) ≤ (k : Int) := by omega
   have i2 : (k : Int) < (ss.length : Int) := by omega
   obtain ⟨ua, uc, hu⟩ := slR_len hU
   have HOWN := Lib.hid hown
   have HB := Lib.hid hbox
   have HY := Lib.hid hy
   have HD := Lib.hid hbel
   have HUV : Hid (∃ m, u = .slice ua m uc) := Lib.hid ⟨_, hu⟩
   clear hcs p0 hU hM hSh hsh hown hbox hu hbel hy
   obtain ⟨m, rfl⟩ := HUV.out
   clear HUV
   go_wp2_with (at_builtin; refine append_flat (tRaw_law (by decide)) (flat_raw 4) info_R_Version Try.underlying89 rfl rfl (.tmp 13) (.tmp 18) rfl (fun b => w.heap.size < b) (fun b => w.heap.size < b) _ _ L M rfl rfl HOWN.out HM.out (fun b h => h) HY.out HL.out ?_)
   intro v' w4 ho4 t4
   have hb4 := (t4.block w.heap.size HY.out (fun h => Nat.lt_irrefl _ h)).trans HB.out
   have hy4 := Nat.lt_of_lt_of_le HY.out t4.size
   have hd4 := below_turn HD.out t4 (fun b h => Nat.le_of_lt h) (Nat.le_of_lt HY.out)
   clear HOWN HM HL HB HY HD t4 c0 hel
   go_wp2
   go_roundw
   case rel => exact ⟨k + 1, _, by omega, by go_num, ho4, HC, hb4, hd4, hy4⟩
   case measure => simp [intOf]; omega
  ·
   obtain rfl : k = ss.length := by omega
   have HC : Hid (Sh tVersion w L ss.flatten) := Lib.hid (by rw [← cat_all]; exact hsh.out)
   clear hsh
   go_wp2
   go_ret
   exact ⟨_, L, rfl, slO_mono hown (fun b h => Nat.le_of_lt h), HC.out, hbel⟩
set_option maxHeartbeats 8000000 in
set_option maxRecDepth 100000 in
theorem specIsStore (sv : Value) (ss : List (List VerD)) (now : Int) (w : World) (h : SlR tVersionS w sv ss) (hs : zL tVersionS ss ≤ 1048576) :
  Calls Try.prog 49 #[.agg #[sv, .int .i64 now]] w (fun e w' => e = .returned (.bool (storeB ss now)) ∧ Below w.heap.size w w') := by
 have hlen := zL_len hs
 obtain ⟨a, cap, rfl⟩ := slR_len h
 have HC := Lib.hid (fun W g => specL7All (.slice a ss.length cap) ss now W g hs)
 have HZF : Hid (zL tVersion ss.flatten ≤ 1048576) := Lib.hid (by have := zL_all ss; omega)
 have H := Lib.hid h
 have HS := Lib.hid hs
 have d0 := Lib.hid (show Below w.heap.size w (w.alloc (.cells #[.slice a ss.length cap, .int .i64 now] 41)) from (Below.refl _ _).alloc (Nat.le_refl _) _)
 have B0 : Hid ((w.alloc (.cells #[.slice a ss.length cap, .int .i64 now] 41)).heap[w.heap.size]? = some (.cells #[.slice a ss.length cap, .int .i64 now] 41 (0, 0))) := Lib.hid (heap_alloc_new w _)
 have Y0 : Hid (w.heap.size < (w.alloc (.cells #[.slice a ss.length cap, .int .i64 now] 41)).heap.size) := Lib.hid (by simp [World.size_alloc])
 clear h hs
 by_cases hc : 1 ≤ ss.length ∧ ss.length ≤ 8
 rotate_left
 ·
  have HF := Lib.hid (store_no_count (now := now) hc)
  have HI := Lib.hid (fun W => in_no (ss.length : Int) 1 8 W (by omega))
  clear hc
  rw [HF.out]
  go_enter Try.func49, Try.ntmps49
  go_wp2_with fail
  refine (HI.out _).mono ?_
  rintro e wx ⟨rfl, rfl⟩
  go_wp2
  go_ret
  exact ⟨rfl, d0.out⟩
 have HI1 := Lib.hid (fun W => in_yes (ss.length : Int) 1 8 W (by omega) (by omega))
 have HCN := Lib.hid hc
 by_cases hn : 0 ≤ now ∧ now ≤ 100000
 rotate_left
 ·
  have HF := Lib.hid (store_no_now (ss := ss) hn)
  have HI := Lib.hid (fun W => in_no now 0 100000 W hn)
  clear hn
  rw [HF.out]
  go_enter Try.func49, Try.ntmps49
  go_wp2_with fail
  refine (HI1.out _).mono ?_
  rintro e wx ⟨rfl, rfl⟩
  go_wp2_with fail
  refine (HI.out _).mono ?_
  rintro e wx ⟨rfl, rfl⟩
  go_wp2
  go_ret
  exact ⟨rfl, d0.out⟩
 have HI2 := Lib.hid (fun W => in_yes now 0 100000 W hn.1 hn.2)
 have HNN := Lib.hid hn
 clear hc hn
 go_enter Try.func49, Try.ntmps49
 go_wp2_with fail
 refine (HI1.out _).mono ?_
 rintro e wx ⟨rfl, rfl⟩
 go_wp2_with fail
 refine (HI2.out _).mono ?_
 rintro e wx ⟨rfl, rfl⟩
 go_wp2
 generalize w.alloc (.cells #[.slice a ss.length cap, .int .i64 now] 41) = W at *
 have q0 := (cell_of_row W _ 0 _ _ _ B0.out).trans (show _ = some (Value.slice a ss.length cap) from rfl)
 have q1 := (cell_of_row W _ 1 _ _ _ B0.out).trans (show _ = some (Value.int .i64 now) from rfl)
 have G0 := Lib.hid q0
 have G1 := Lib.hid q1
 have HW := Lib.hid (slR_below tVersionS_law H.out d0.out)
 clear q0 q1 B0
 go_loopw [3] (fun i wr => ∃ k : Nat, k ≤ ss.length ∧ i = .int .i64 k ∧ Hid (ShortP ss k) ∧ Below W.heap.size W wr) (fun i _ => ss.length - (intOf i).toNat)
 case atStart => exact ⟨0, Nat.zero_le _, rfl, Lib.hid (fun j hj => by omega), Below.refl _ _⟩
 case round =>
  obtain ⟨k, hk, rfl, hsh, hbel⟩ := hrel
  have p0 := (hbel.cell (p := ⟨w.heap.size, 0, none⟩) Y0.out).trans G0.out
  have p1 := (hbel.cell (p := ⟨w.heap.size, 1, none⟩) Y0.out).trans G1.out
  by_cases hlt : k < ss.length
  ·
   have i1 : (0 : Int) ≤ (k : Int) := by omega
   have i2 : (k : Int) < (ss.length : Int) := by omega
   obtain ⟨b, off, cap', cs, hv, hbl, hcs, hR⟩ := slR_at HW.out hlt
   simp only [Value.slice.injEq] at hv
   obtain ⟨rfl, _, rfl⟩ := hv
   obtain ⟨u, rfl, hU⟩ := hR
   change SlR tVersion W u (ss.getD k []) at hU
   have pe : W.cell? ⟨b, off + k, none⟩ = some u := by have := hcs 0 Nat.one_pos; rw [show tVersionS.n = 1 from rfl, Nat.mul_one, Nat.add_zero] at this; exact this
   have he := (hbel.cell (p := ⟨b, off + k, none⟩) hbl).trans pe
   have HNO := Lib.hid (fun g => store_no_short (ss := ss) (now := now) hlt g)
   have HYS : Hid ((ss.getD k []).length ≤ 4 → ShortP ss (k + 1)) := Lib.hid (fun g j hj => by
    by_cases e : j = k
    ·
     rw [e]; exact g
    ·
     exact hsh.out j (by omega))
   have HML := Lib.hid (zL_len (show zL tVersion (ss.getD k []) ≤ 1048576 from Nat.le_trans (zL_seg hlt) HS.out))
   obtain ⟨ua, uc, rfl⟩ := slR_len hU
   have HB := Lib.hid hbel
   clear hcs pe hU hsh hbel
   generalize (ss.getD k []).length = m at *
   by_cases hm : m ≤ 4
   ·
    have HY := Lib.hid (HYS.out hm)
    have hmi : ¬ (4 : Int) < (m : Int) := by omega
    clear HYS HNO
    go_wp2
    go_roundw
    case rel => exact ⟨k + 1, by omega, by go_num, HY, HB.out⟩
    case measure => simp [intOf]; omega
   ·
    have HF := Lib.hid (HNO.out hm)
    have hmi : (4 : Int) < (m : Int) := by omega
    clear HYS HNO
    go_wp2
    go_ret
    exact ⟨ret_b HF.out.symm, d0.out.trans (HB.out.mono d0.out.size)⟩
  ·
   obtain rfl : k = ss.length := by omega
   have HSH := Lib.hid hsh.out
   clear hsh
   have HB := Lib.hid hbel
   clear hbel
   go_wp2_with fail
   refine (HC.out wr (slR_below tVersionS_law HW.out HB.out)).mono ?_
   rintro e w1 ⟨v, L, rfl, hown, hshv, b1⟩
   have hVR := raw_reads (T := tVersion) (by decide) hown (sh_below tVersion_law hshv b1)
   obtain ⟨va, vc, rfl⟩ := slO_len hown
   rw [sh_len hshv] at *
   have V := Lib.hid hVR
   have b2 := HB.out.trans (b1.mono HB.out.size)
   have D1 := Lib.hid (d0.out.trans (b2.mono d0.out.size))
   have CN := Lib.hid ((b2.cell (p := ⟨w.heap.size, 1, none⟩) Y0.out).trans G1.out)
   have YN := Lib.hid (Nat.lt_of_lt_of_le Y0.out b2.size)
   have HFL := Lib.hid (zL_len HZF.out)
   clear hVR hown hshv b1 b2 HB p0 p1 HW G0 G1
   have hfl := HFL.out
   obtain ⟨l, hl⟩ : ∃ l, l = ss.flatten := ⟨_, rfl⟩
   have HLL := Lib.hid hl
   rw [← hl] at V HFL hfl ⊢
   clear hl
   go_wp2
   go_loopw [5] (fun i wr => ∃ k : Nat, k ≤ l.length ∧ i = .int .i64 k ∧ Hid (VersP l now k) ∧ Below w1.heap.size w1 wr) (fun i _ => l.length - (intOf i).toNat)
   case atStart => exact ⟨0, Nat.zero_le _, rfl, Lib.hid (fun j hj => by omega), Below.refl _ _⟩
   case round =>
    obtain ⟨k, hk, rfl, hvs, hbel⟩ := hrel
    by_cases hlt : k < l.length
    ·
     have i1 : (0 : Int) ≤ (k : Int) := by omega
     have i2 : (k : Int) < (l.length : Int) := by omega
     obtain ⟨b, off, cap', xa, xc, hv, hbl, c0, c1, c2, c3, hx⟩ := verR_at V.out hlt
     simp only [Value.slice.injEq] at hv
     obtain ⟨rfl, _, rfl⟩ := hv
     have HXL := Lib.hid (ver_len (by rw [HLL.out]; exact HZF.out) hlt)
     have HNV : Hid (verB (l.getD k v0D) now = false → storeB ss now = false) := Lib.hid (fun g => store_no_ver (i := k) (by rw [← HLL.out]; exact hlt) (by rw [← HLL.out]; exact g))
     have HNA : Hid (∀ j, j < k → apartB (l.getD k v0D) (l.getD j v0D) = false → storeB ss now = false) := Lib.hid (fun j hj g => store_no_apart (i := k) (k := j) (by rw [← HLL.out]; exact hlt) hj (by rw [← HLL.out]; exact g))
     have HST : Hid (verB (l.getD k v0D) now = true → (∀ j, j < k → apartB (l.getD k v0D) (l.getD j v0D) = true) → VersP l now (k + 1)) := Lib.hid (fun g1 g2 => vers_step hvs.out g1 g2)
     have HRX : Hid (Ints w1 (.slice xa (l.getD k v0D).2.1.length xc) (l.getD k v0D).2.1) := Lib.hid hx
     obtain ⟨x, hxe⟩ : ∃ x, x = l.getD k v0D := ⟨_, rfl⟩
     rw [← hxe] at HXL HNV HNA HST HRX c0 c1 c2 c3
     obtain ⟨id, xs, born, died⟩ := x
     simp only at c0 c1 c2 c3
     have C0 := Lib.hid c0
     have C1 := Lib.hid c1
     have C2 := Lib.hid c2
     have C3 := Lib.hid c3
     have HBL := Lib.hid hbl
     have d := Lib.hid hbel
     clear hx hxe c0 c1 c2 c3 hbl hbel hvs
     cases hver : verB (id, xs, born, died) now with
     | false =>
      have HF := Lib.hid (HNV.out hver)
      have HCV := Lib.hid (fun W g => hver ▸ specVersion id born died now (.slice xa xs.length xc) xs W g HXL.out HNN.out.2)
      clear hver HNV HNA HST
      go_wp2
      have p_C0 := (d.out.cell (p := ⟨b, off + k * 4, none⟩) HBL.out).trans C0.out
      have p_C1 := (d.out.cell (p := ⟨b, off + k * 4 + 1, none⟩) HBL.out).trans C1.out
      have p_C2 := (d.out.cell (p := ⟨b, off + k * 4 + 2, none⟩) HBL.out).trans C2.out
      have p_C3 := (d.out.cell (p := ⟨b, off + k * 4 + 3, none⟩) HBL.out).trans C3.out
      have p_CN := (d.out.cell (p := ⟨w.heap.size, 1, none⟩) YN.out).trans CN.out
      refine wp_region_held_drew (S := fun w' => w'.cell? ⟨b, off + k * 4, none⟩ = some (Value.int .i64 id) ∧ w'.cell? ⟨b, off + k * 4 + 1, none⟩ = some (Value.slice xa xs.length xc) ∧ w'.cell? ⟨b, off + k * 4 + 2, none⟩ = some (Value.int .i64 born) ∧ w'.cell? ⟨b, off + k * 4 + 3, none⟩ = some (Value.int .i64 died) ∧ w'.cell? ⟨w.heap.size, 1, none⟩ = some (.int .i64 now)) (by kernel_rfl) ⟨p_C0, p_C1, p_C2, p_C3, p_CN⟩ (fun hHeld => ?_)
      clear p_C0 p_C1 p_C2 p_C3 p_CN
      have cdr : Below wr.heap.size wr wr.drew := below_drew (Below.refl _ _)
      replace d := Lib.hid (d.out.trans (cdr.mono d.out.size))
      clear cdr
      refine tR (i := 0) (v := ?_) ?_ ?_; rotate_left
      ·
       intro w hSw; (try dsimp only at hSw); go_simp; try (with_reducible rfl)
      try simp only [Act.put, lA, lB, lC]
      refine tR (i := 1) (v := ?_) ?_ ?_; rotate_left
      ·
       intro w hSw; (try dsimp only at hSw); go_simp; try (with_reducible rfl)
      try simp only [Act.put, lA, lB, lC]
      refine tR (i := 2) (v := ?_) ?_ ?_; rotate_left
      ·
       intro w hSw; (try dsimp only at hSw); go_simp; try (with_reducible rfl)
      try simp only [Act.put, lA, lB, lC]
      refine tR (i := 3) (v := ?_) ?_ ?_; rotate_left
      ·
       intro w hSw; (try dsimp only at hSw); go_simp; try (with_reducible rfl)
      try simp only [Act.put, lA, lB, lC]
      refine tR (i := 4) (v := ?_) ?_ ?_; rotate_left
      ·
       intro w hSw; (try dsimp only at hSw); go_simp; try (with_reducible rfl)
      try simp only [Act.put, lA, lB, lC]
      refine tR (i := 5) (v := ?_) ?_ ?_; rotate_left
      ·
       intro w hSw; (try dsimp only at hSw); go_simp; try (with_reducible rfl)
      try simp only [Act.put, lA, lB, lC]
      refine wpAnyH_ready (rs := [6]) (by kernel_rfl) (by simp) ?_
      refine (AllReadyH.cons (o := _) (by simp only [hA, hB, hC]; rfl) (fun K hK => ?_) AllReadyH.nil)
      go_simp
      refine (HCV.out (wr.drew) (ints_below HRX.out d.out)).mono ?_
      rintro e w5 ⟨rfl, c5⟩
      replace d := Lib.hid (d.out.trans (c5.mono d.out.size))
      have Z_w5 := Lib.hid (show wr.heap.size ≤ w5.heap.size from c5.size)
      clear c5
      have p_C0 := (d.out.cell (p := ⟨b, off + k * 4, none⟩) HBL.out).trans C0.out
      have p_C1 := (d.out.cell (p := ⟨b, off + k * 4 + 1, none⟩) HBL.out).trans C1.out
      have p_C2 := (d.out.cell (p := ⟨b, off + k * 4 + 2, none⟩) HBL.out).trans C2.out
      have p_C3 := (d.out.cell (p := ⟨b, off + k * 4 + 3, none⟩) HBL.out).trans C3.out
      have p_CN := (d.out.cell (p := ⟨w.heap.size, 1, none⟩) YN.out).trans CN.out
      refine hK.out _ _ ⟨p_C0, p_C1, p_C2, p_C3, p_CN⟩ (fun hHeld => ?_)
      clear p_C0 p_C1 p_C2 p_C3 p_CN
      clear hK K
      try simp only [Act.put, lA, lB, lC]
      refine tR (i := 7) (v := ?_) ?_ ?_; rotate_left
      ·
       intro w hSw; (try dsimp only at hSw); go_simp; try (with_reducible rfl)
      try simp only [Act.put, lA, lB, lC]
      refine wpAnyH_done (by kernel_rfl) ?_ _
      clear hHeld
      go_wp2
      go_ret
      exact ⟨ret_b HF.out.symm, D1.out.trans (d.out.mono D1.out.size)⟩
     | true =>
      have HCV := Lib.hid (fun W g => hver ▸ specVersion id born died now (.slice xa xs.length xc) xs W g HXL.out HNN.out.2)
      have HST2 := Lib.hid (HST.out hver)
      clear hver HNV HST
      go_wp2
      have p_C0 := (d.out.cell (p := ⟨b, off + k * 4, none⟩) HBL.out).trans C0.out
      have p_C1 := (d.out.cell (p := ⟨b, off + k * 4 + 1, none⟩) HBL.out).trans C1.out
      have p_C2 := (d.out.cell (p := ⟨b, off + k * 4 + 2, none⟩) HBL.out).trans C2.out
      have p_C3 := (d.out.cell (p := ⟨b, off + k * 4 + 3, none⟩) HBL.out).trans C3.out
      have p_CN := (d.out.cell (p := ⟨w.heap.size, 1, none⟩) YN.out).trans CN.out
      refine wp_region_held_drew (S := fun w' => w'.cell? ⟨b, off + k * 4, none⟩ = some (Value.int .i64 id) ∧ w'.cell? ⟨b, off + k * 4 + 1, none⟩ = some (Value.slice xa xs.length xc) ∧ w'.cell? ⟨b, off + k * 4 + 2, none⟩ = some (Value.int .i64 born) ∧ w'.cell? ⟨b, off + k * 4 + 3, none⟩ = some (Value.int .i64 died) ∧ w'.cell? ⟨w.heap.size, 1, none⟩ = some (.int .i64 now)) (by kernel_rfl) ⟨p_C0, p_C1, p_C2, p_C3, p_CN⟩ (fun hHeld => ?_)
      clear p_C0 p_C1 p_C2 p_C3 p_CN
      have cdr : Below wr.heap.size wr wr.drew := below_drew (Below.refl _ _)
      replace d := Lib.hid (d.out.trans (cdr.mono d.out.size))
      clear cdr
      refine tR (i := 0) (v := ?_) ?_ ?_; rotate_left
      ·
       intro w hSw; (try dsimp only at hSw); go_simp; try (with_reducible rfl)
      try simp only [Act.put, lA, lB, lC]
      refine tR (i := 1) (v := ?_) ?_ ?_; rotate_left
      ·
       intro w hSw; (try dsimp only at hSw); go_simp; try (with_reducible rfl)
      try simp only [Act.put, lA, lB, lC]
      refine tR (i := 2) (v := ?_) ?_ ?_; rotate_left
      ·
       intro w hSw; (try dsimp only at hSw); go_simp; try (with_reducible rfl)
      try simp only [Act.put, lA, lB, lC]
      refine tR (i := 3) (v := ?_) ?_ ?_; rotate_left
      ·
       intro w hSw; (try dsimp only at hSw); go_simp; try (with_reducible rfl)
      try simp only [Act.put, lA, lB, lC]
      refine tR (i := 4) (v := ?_) ?_ ?_; rotate_left
      ·
       intro w hSw; (try dsimp only at hSw); go_simp; try (with_reducible rfl)
      try simp only [Act.put, lA, lB, lC]
      refine tR (i := 5) (v := ?_) ?_ ?_; rotate_left
      ·
       intro w hSw; (try dsimp only at hSw); go_simp; try (with_reducible rfl)
      try simp only [Act.put, lA, lB, lC]
      refine wpAnyH_ready (rs := [6]) (by kernel_rfl) (by simp) ?_
      refine (AllReadyH.cons (o := _) (by simp only [hA, hB, hC]; rfl) (fun K hK => ?_) AllReadyH.nil)
      go_simp
      refine (HCV.out (wr.drew) (ints_below HRX.out d.out)).mono ?_
      rintro e w5 ⟨rfl, c5⟩
      replace d := Lib.hid (d.out.trans (c5.mono d.out.size))
      have Z_w5 := Lib.hid (show wr.heap.size ≤ w5.heap.size from c5.size)
      clear c5
      have p_C0 := (d.out.cell (p := ⟨b, off + k * 4, none⟩) HBL.out).trans C0.out
      have p_C1 := (d.out.cell (p := ⟨b, off + k * 4 + 1, none⟩) HBL.out).trans C1.out
      have p_C2 := (d.out.cell (p := ⟨b, off + k * 4 + 2, none⟩) HBL.out).trans C2.out
      have p_C3 := (d.out.cell (p := ⟨b, off + k * 4 + 3, none⟩) HBL.out).trans C3.out
      have p_CN := (d.out.cell (p := ⟨w.heap.size, 1, none⟩) YN.out).trans CN.out
      refine hK.out _ _ ⟨p_C0, p_C1, p_C2, p_C3, p_CN⟩ (fun hHeld => ?_)
      clear p_C0 p_C1 p_C2 p_C3 p_CN
      clear hK K
      try simp only [Act.put, lA, lB, lC]
      refine tR (i := 7) (v := ?_) ?_ ?_; rotate_left
      ·
       intro w hSw; (try dsimp only at hSw); go_simp; try (with_reducible rfl)
      try simp only [Act.put, lA, lB, lC]
      refine wpAnyH_done (by kernel_rfl) ?_ _
      clear hHeld
      go_wp2
      go_loopw [6] (fun i wr => ∃ m : Nat, m ≤ k ∧ i = .int .i64 m ∧ Hid (∀ j, j < m → apartB (id, xs, born, died) (l.getD j v0D) = true) ∧ Below w1.heap.size w1 wr) (fun i _ => k - (intOf i).toNat)
      case atStart => exact ⟨0, Nat.zero_le _, rfl, Lib.hid (fun j hj => by omega), d.out⟩
      case round =>
       obtain ⟨m, hm, rfl, hap, hbel⟩ := hrel
       clear d
       by_cases hml : m < k
       ·
        have j1 : (0 : Int) ≤ (m : Int) := by omega
        have j2 : (m : Int) < (l.length : Int) := by omega
        have j3 : (m : Int) < (k : Int) := by omega
        obtain ⟨b2, off2, cap2, ya, yc, hv, hbl2, y0, y1, y2, y3, hy⟩ := verR_at V.out (k := m) (by omega)
        simp only [Value.slice.injEq, Option.some.injEq, Addr.mk.injEq] at hv
        obtain ⟨⟨rfl, rfl, _⟩, _, rfl⟩ := hv
        have HNX := Lib.hid (HNA.out m hml)
        have HYX : Hid (apartB (id, xs, born, died) (l.getD m v0D) = true → ∀ j, j < m + 1 → apartB (id, xs, born, died) (l.getD j v0D) = true) := Lib.hid (fun g j hj => by
         by_cases e : j = m
         ·
          rw [e]; exact g
         ·
          exact hap.out j (by omega))
        generalize l.getD m v0D = y at *
        obtain ⟨id2, ys, born2, died2⟩ := y
        simp only at y0 y1 y2 y3
        have E0 := Lib.hid y0
        have E1 := Lib.hid y1
        have E2 := Lib.hid y2
        have E3 := Lib.hid y3
        have d := Lib.hid hbel
        clear y0 y1 y2 y3 hy hap hbel
        have HCA := Lib.hid (specApart id born died id2 born2 died2 (.slice xa xs.length xc) (.slice ya ys.length yc))
        cases hapt : decide (apartP id born died id2 born2 died2) with
        | false =>
         have HF := Lib.hid (HNX.out hapt)
         rw [hapt] at HCA
         clear hapt HNX HYX
         go_wp2
         have p_C0 := (d.out.cell (p := ⟨b, off + k * 4, none⟩) HBL.out).trans C0.out
         have p_C1 := (d.out.cell (p := ⟨b, off + k * 4 + 1, none⟩) HBL.out).trans C1.out
         have p_C2 := (d.out.cell (p := ⟨b, off + k * 4 + 2, none⟩) HBL.out).trans C2.out
         have p_C3 := (d.out.cell (p := ⟨b, off + k * 4 + 3, none⟩) HBL.out).trans C3.out
         have p_E0 := (d.out.cell (p := ⟨b, off + m * 4, none⟩) HBL.out).trans E0.out
         have p_E1 := (d.out.cell (p := ⟨b, off + m * 4 + 1, none⟩) HBL.out).trans E1.out
         have p_E2 := (d.out.cell (p := ⟨b, off + m * 4 + 2, none⟩) HBL.out).trans E2.out
         have p_E3 := (d.out.cell (p := ⟨b, off + m * 4 + 3, none⟩) HBL.out).trans E3.out
         refine wp_region_held_drew (S := fun w' => w'.cell? ⟨b, off + k * 4, none⟩ = some (Value.int .i64 id) ∧ w'.cell? ⟨b, off + k * 4 + 1, none⟩ = some (Value.slice xa xs.length xc) ∧ w'.cell? ⟨b, off + k * 4 + 2, none⟩ = some (Value.int .i64 born) ∧ w'.cell? ⟨b, off + k * 4 + 3, none⟩ = some (Value.int .i64 died) ∧ w'.cell? ⟨b, off + m * 4, none⟩ = some (Value.int .i64 id2) ∧ w'.cell? ⟨b, off + m * 4 + 1, none⟩ = some (Value.slice ya ys.length yc) ∧ w'.cell? ⟨b, off + m * 4 + 2, none⟩ = some (Value.int .i64 born2) ∧ w'.cell? ⟨b, off + m * 4 + 3, none⟩ = some (Value.int .i64 died2)) (by kernel_rfl) ⟨p_C0, p_C1, p_C2, p_C3, p_E0, p_E1, p_E2, p_E3⟩ (fun hHeld => ?_)
         clear p_C0 p_C1 p_C2 p_C3 p_E0 p_E1 p_E2 p_E3
         have cdr : Below wr.heap.size wr wr.drew := below_drew (Below.refl _ _)
         replace d := Lib.hid (d.out.trans (cdr.mono d.out.size))
         clear cdr
         refine tR (i := 0) (v := ?_) ?_ ?_; rotate_left
         ·
          intro w hSw; (try dsimp only at hSw); go_simp; try (with_reducible rfl)
         try simp only [Act.put, lA, lB, lC]
         refine tR (i := 1) (v := ?_) ?_ ?_; rotate_left
         ·
          intro w hSw; (try dsimp only at hSw); go_simp; try (with_reducible rfl)
         try simp only [Act.put, lA, lB, lC]
         refine tR (i := 2) (v := ?_) ?_ ?_; rotate_left
         ·
          intro w hSw; (try dsimp only at hSw); go_simp; try (with_reducible rfl)
         try simp only [Act.put, lA, lB, lC]
         refine tR (i := 3) (v := ?_) ?_ ?_; rotate_left
         ·
          intro w hSw; (try dsimp only at hSw); go_simp; try (with_reducible rfl)
         try simp only [Act.put, lA, lB, lC]
         refine tR (i := 4) (v := ?_) ?_ ?_; rotate_left
         ·
          intro w hSw; (try dsimp only at hSw); go_simp; try (with_reducible rfl)
         try simp only [Act.put, lA, lB, lC]
         refine tR (i := 5) (v := ?_) ?_ ?_; rotate_left
         ·
          intro w hSw; (try dsimp only at hSw); go_simp; try (with_reducible rfl)
         try simp only [Act.put, lA, lB, lC]
         refine tR (i := 6) (v := ?_) ?_ ?_; rotate_left
         ·
          intro w hSw; (try dsimp only at hSw); go_simp; try (with_reducible rfl)
         try simp only [Act.put, lA, lB, lC]
         refine tR (i := 7) (v := ?_) ?_ ?_; rotate_left
         ·
          intro w hSw; (try dsimp only at hSw); go_simp; try (with_reducible rfl)
         try simp only [Act.put, lA, lB, lC]
         refine wpAnyH_ready (rs := [8]) (by kernel_rfl) (by simp) ?_
         refine (AllReadyH.cons (o := _) (by simp only [hA, hB, hC]; rfl) (fun K hK => ?_) AllReadyH.nil)
         go_simp
         refine (HCA.out (wr.drew)).mono ?_
         rintro e w6 ⟨rfl, c6⟩
         replace d := Lib.hid (d.out.trans (c6.mono d.out.size))
         have Z_w6 := Lib.hid (show wr.heap.size ≤ w6.heap.size from c6.size)
         clear c6
         have p_C0 := (d.out.cell (p := ⟨b, off + k * 4, none⟩) HBL.out).trans C0.out
         have p_C1 := (d.out.cell (p := ⟨b, off + k * 4 + 1, none⟩) HBL.out).trans C1.out
         have p_C2 := (d.out.cell (p := ⟨b, off + k * 4 + 2, none⟩) HBL.out).trans C2.out
         have p_C3 := (d.out.cell (p := ⟨b, off + k * 4 + 3, none⟩) HBL.out).trans C3.out
         have p_E0 := (d.out.cell (p := ⟨b, off + m * 4, none⟩) HBL.out).trans E0.out
         have p_E1 := (d.out.cell (p := ⟨b, off + m * 4 + 1, none⟩) HBL.out).trans E1.out
         have p_E2 := (d.out.cell (p := ⟨b, off + m * 4 + 2, none⟩) HBL.out).trans E2.out
         have p_E3 := (d.out.cell (p := ⟨b, off + m * 4 + 3, none⟩) HBL.out).trans E3.out
         refine hK.out _ _ ⟨p_C0, p_C1, p_C2, p_C3, p_E0, p_E1, p_E2, p_E3⟩ (fun hHeld => ?_)
         clear p_C0 p_C1 p_C2 p_C3 p_E0 p_E1 p_E2 p_E3
         clear hK K
         try simp only [Act.put, lA, lB, lC]
         refine tR (i := 9) (v := ?_) ?_ ?_; rotate_left
         ·
          intro w hSw; (try dsimp only at hSw); go_simp; try (with_reducible rfl)
         try simp only [Act.put, lA, lB, lC]
         refine wpAnyH_done (by kernel_rfl) ?_ _
         clear hHeld
         go_wp2
         go_ret
         exact ⟨ret_b HF.out.symm, D1.out.trans (d.out.mono D1.out.size)⟩
        | true =>
         have HA2 := Lib.hid (HYX.out hapt)
         rw [hapt] at HCA
         clear hapt HNX HYX
         go_wp2
         have p_C0 := (d.out.cell (p := ⟨b, off + k * 4, none⟩) HBL.out).trans C0.out
         have p_C1 := (d.out.cell (p := ⟨b, off + k * 4 + 1, none⟩) HBL.out).trans C1.out
         have p_C2 := (d.out.cell (p := ⟨b, off + k * 4 + 2, none⟩) HBL.out).trans C2.out
         have p_C3 := (d.out.cell (p := ⟨b, off + k * 4 + 3, none⟩) HBL.out).trans C3.out
         have p_E0 := (d.out.cell (p := ⟨b, off + m * 4, none⟩) HBL.out).trans E0.out
         have p_E1 := (d.out.cell (p := ⟨b, off + m * 4 + 1, none⟩) HBL.out).trans E1.out
         have p_E2 := (d.out.cell (p := ⟨b, off + m * 4 + 2, none⟩) HBL.out).trans E2.out
         have p_E3 := (d.out.cell (p := ⟨b, off + m * 4 + 3, none⟩) HBL.out).trans E3.out
         refine wp_region_held_drew (S := fun w' => w'.cell? ⟨b, off + k * 4, none⟩ = some (Value.int .i64 id) ∧ w'.cell? ⟨b, off + k * 4 + 1, none⟩ = some (Value.slice xa xs.length xc) ∧ w'.cell? ⟨b, off + k * 4 + 2, none⟩ = some (Value.int .i64 born) ∧ w'.cell? ⟨b, off + k * 4 + 3, none⟩ = some (Value.int .i64 died) ∧ w'.cell? ⟨b, off + m * 4, none⟩ = some (Value.int .i64 id2) ∧ w'.cell? ⟨b, off + m * 4 + 1, none⟩ = some (Value.slice ya ys.length yc) ∧ w'.cell? ⟨b, off + m * 4 + 2, none⟩ = some (Value.int .i64 born2) ∧ w'.cell? ⟨b, off + m * 4 + 3, none⟩ = some (Value.int .i64 died2)) (by kernel_rfl) ⟨p_C0, p_C1, p_C2, p_C3, p_E0, p_E1, p_E2, p_E3⟩ (fun hHeld => ?_)
         clear p_C0 p_C1 p_C2 p_C3 p_E0 p_E1 p_E2 p_E3
         have cdr : Below wr.heap.size wr wr.drew := below_drew (Below.refl _ _)
         replace d := Lib.hid (d.out.trans (cdr.mono d.out.size))
         clear cdr
         refine tR (i := 0) (v := ?_) ?_ ?_; rotate_left
         ·
          intro w hSw; (try dsimp only at hSw); go_simp; try (with_reducible rfl)
         try simp only [Act.put, lA, lB, lC]
         refine tR (i := 1) (v := ?_) ?_ ?_; rotate_left
         ·
          intro w hSw; (try dsimp only at hSw); go_simp; try (with_reducible rfl)
         try simp only [Act.put, lA, lB, lC]
         refine tR (i := 2) (v := ?_) ?_ ?_; rotate_left
         ·
          intro w hSw; (try dsimp only at hSw); go_simp; try (with_reducible rfl)
         try simp only [Act.put, lA, lB, lC]
         refine tR (i := 3) (v := ?_) ?_ ?_; rotate_left
         ·
          intro w hSw; (try dsimp only at hSw); go_simp; try (with_reducible rfl)
         try simp only [Act.put, lA, lB, lC]
         refine tR (i := 4) (v := ?_) ?_ ?_; rotate_left
         ·
          intro w hSw; (try dsimp only at hSw); go_simp; try (with_reducible rfl)
         try simp only [Act.put, lA, lB, lC]
         refine tR (i := 5) (v := ?_) ?_ ?_; rotate_left
         ·
          intro w hSw; (try dsimp only at hSw); go_simp; try (with_reducible rfl)
         try simp only [Act.put, lA, lB, lC]
         refine tR (i := 6) (v := ?_) ?_ ?_; rotate_left
         ·
          intro w hSw; (try dsimp only at hSw); go_simp; try (with_reducible rfl)
         try simp only [Act.put, lA, lB, lC]
         refine tR (i := 7) (v := ?_) ?_ ?_; rotate_left
         ·
          intro w hSw; (try dsimp only at hSw); go_simp; try (with_reducible rfl)
         try simp only [Act.put, lA, lB, lC]
         refine wpAnyH_ready (rs := [8]) (by kernel_rfl) (by simp) ?_
         refine (AllReadyH.cons (o := _) (by simp only [hA, hB, hC]; rfl) (fun K hK => ?_) AllReadyH.nil)
         go_simp
         refine (HCA.out (wr.drew)).mono ?_
         rintro e w6 ⟨rfl, c6⟩
         replace d := Lib.hid (d.out.trans (c6.mono d.out.size))
         have Z_w6 := Lib.hid (show wr.heap.size ≤ w6.heap.size from c6.size)
         clear c6
         have p_C0 := (d.out.cell (p := ⟨b, off + k * 4, none⟩) HBL.out).trans C0.out
         have p_C1 := (d.out.cell (p := ⟨b, off + k * 4 + 1, none⟩) HBL.out).trans C1.out
         have p_C2 := (d.out.cell (p := ⟨b, off + k * 4 + 2, none⟩) HBL.out).trans C2.out
         have p_C3 := (d.out.cell (p := ⟨b, off + k * 4 + 3, none⟩) HBL.out).trans C3.out
         have p_E0 := (d.out.cell (p := ⟨b, off + m * 4, none⟩) HBL.out).trans E0.out
         have p_E1 := (d.out.cell (p := ⟨b, off + m * 4 + 1, none⟩) HBL.out).trans E1.out
         have p_E2 := (d.out.cell (p := ⟨b, off + m * 4 + 2, none⟩) HBL.out).trans E2.out
         have p_E3 := (d.out.cell (p := ⟨b, off + m * 4 + 3, none⟩) HBL.out).trans E3.out
         refine hK.out _ _ ⟨p_C0, p_C1, p_C2, p_C3, p_E0, p_E1, p_E2, p_E3⟩ (fun hHeld => ?_)
         clear p_C0 p_C1 p_C2 p_C3 p_E0 p_E1 p_E2 p_E3
         clear hK K
         try simp only [Act.put, lA, lB, lC]
         refine tR (i := 9) (v := ?_) ?_ ?_; rotate_left
         ·
          intro w hSw; (try dsimp only at hSw); go_simp; try (with_reducible rfl)
         try simp only [Act.put, lA, lB, lC]
         refine wpAnyH_done (by kernel_rfl) ?_ _
         clear hHeld
         go_wp2
         go_roundw
         case rel => exact ⟨m + 1, by omega, by go_num, HA2, d.out⟩
         case measure => simp [intOf]; omega
       ·
        obtain rfl : m = k := by omega
        have HVK := Lib.hid (HST2.out hap.out)
        have HB := Lib.hid hbel
        clear hap hbel
        go_wp2
        go_roundw
        case rel => exact ⟨m + 1, by omega, by go_num, HVK, HB.out⟩
        case measure => simp [intOf]; omega
    ·
     obtain rfl : k = l.length := by omega
     have HT : Hid (storeB ss now = true) := Lib.hid (store_yes HCN.out HNN.out HSH.out (by rw [← HLL.out]; exact hvs.out))
     have HB := Lib.hid (D1.out.trans (hbel.mono D1.out.size))
     clear hvs hbel
     go_wp2
     go_ret
     exact ⟨ret_b HT.out.symm, HB.out⟩
def newP (rs : List RowD) (g : Int) : Prop := areB rs = true ∧ (1 ≤ g ∧ g ≤ 8) ∧ (rs.length : Int) ≤ 4 * g
instance (rs : List RowD) (g : Int) : Decidable (newP rs g) := by unfold newP; infer_instance
theorem info_T_VersionS : ElemInfo tVersionS 89 (.slice none 0 0) := elemInfo_of (by kernel_rfl)
/-- A new store and whether there is one. -/
def FreshNew (w : World) (r : (List (List VerD) × Int) × Bool) (e : Ending) (w' : World) : Prop := ∃ (g0 : List Value) (G0 : Nat → Prop), e = .returned (.tuple #[.agg g0.toArray, .bool r.2]) ∧ tStore.O w' G0 g0 r.1 ∧ (∀ b, G0 b → w.heap.size ≤ b) ∧ Below w.heap.size w w'
/-- An update: its kind, row, field and value. -/
abbrev UpdD := Int × (Int × List Int) × Int × Int
def insP (u : UpdD) : Prop := u.1 = 1 ∧ rowB u.2.1 = true ∧ u.2.2.1 = 0 ∧ u.2.2.2 = 0
def delP (u : UpdD) : Prop := u.1 = 2 ∧ (0 ≤ u.2.1.1 ∧ u.2.1.1 ≤ 999) ∧ u.2.1.2.length = 0 ∧ u.2.2.1 = 0 ∧ u.2.2.2 = 0
def setP (u : UpdD) : Prop := u.1 = 3 ∧ (0 ≤ u.2.1.1 ∧ u.2.1.1 ≤ 999) ∧ u.2.1.2.length = 0 ∧ (0 ≤ u.2.2.1 ∧ u.2.2.1 ≤ 2) ∧ (0 ≤ u.2.2.2 ∧ u.2.2.2 ≤ 99)
instance (u : UpdD) : Decidable (insP u) := by unfold insP; infer_instance
instance (u : UpdD) : Decidable (delP u) := by unfold delP; infer_instance
instance (u : UpdD) : Decidable (setP u) := by unfold setP; infer_instance
def updB (u : UpdD) : Bool := decide (insP u) || (decide (delP u) || decide (setP u))
theorem upd_ins {u : UpdD} (h : insP u) : updB u = true := by unfold updB; rw [decide_eq_true h]; rfl
theorem upd_del {u : UpdD} (h : delP u) : updB u = true := by unfold updB; rw [decide_eq_true h]; simp
theorem upd_set {u : UpdD} (h : setP u) : updB u = true := by unfold updB; rw [decide_eq_true h]; simp
theorem upd_no {u : UpdD} (h1 : ¬ insP u) (h2 : ¬ delP u) (h3 : ¬ setP u) : updB u = false := by unfold updB; rw [decide_eq_false h1, decide_eq_false h2, decide_eq_false h3]; rfl
theorem upd_cases {u : UpdD} (h : updB u = true) : insP u ∨ delP u ∨ setP u := by
 unfold updB at h
 rw [Bool.or_eq_true, Bool.or_eq_true, decide_eq_true_eq, decide_eq_true_eq, decide_eq_true_eq] at h
 exact h
/- Where the living version of a row lies, and where there is room. -/
def aliveB (id : Int) (v : VerD) : Bool := decide (v.1 = id ∧ v.2.2.2 = -1)
def hasB (id : Int) (l : List VerD) : Bool := l.any (aliveB id)
def verI (l : List VerD) (id : Int) : Nat := l.findIdx (aliveB id)
def segI (ss : List (List VerD)) (id : Int) : Nat := ss.findIdx (hasB id)
def freeB (l : List VerD) : Bool := decide (l.length < 4)
def roomI (ss : List (List VerD)) : Nat := ss.findIdx freeB
theorem idx_at {α : Type} {p : α → Bool} {l : List α} {d : α} {i : Nat} (hi : i < l.length) (h : p (l.getD i d) = true) (hb : ∀ j, j < i → p (l.getD j d) = false) : l.findIdx p = i := by
 rw [List.findIdx_eq hi]
 have e : ∀ j (hj : j < l.length), l.getD j d = l[j] := fun j hj => by simp [List.getD, hj]
 rw [e i hi] at h
 exact ⟨h, fun j hj => by have := hb j hj; rwa [e j (by omega)] at this⟩
theorem idx_none {α : Type} {p : α → Bool} {l : List α} {d : α} (hb : ∀ j, j < l.length → p (l.getD j d) = false) : l.findIdx p = l.length := by
 rw [List.findIdx_eq_length]
 intro x hx
 obtain ⟨j, hj, rfl⟩ := List.getElem_of_mem hx
 have := hb j hj
 simpa [List.getD, hj] using this
theorem idx_yes {α : Type} {p : α → Bool} {l : List α} {d : α} (h : l.findIdx p < l.length) : p (l.getD (l.findIdx p) d) = true := by
 have := List.findIdx_getElem (w := h)
 simpa [List.getD, h] using this
theorem idx_before {α : Type} {p : α → Bool} {l : List α} {d : α} {j : Nat} (h : j < l.findIdx p) : p (l.getD j d) = false := by
 have h2 : l.findIdx p ≤ l.length := List.findIdx_le_length
 have := List.not_of_lt_findIdx h
 have hj : j < l.length := by omega
 simpa [List.getD, hj] using this
theorem has_at {l : List VerD} {id : Int} {k : Nat} (hk : k < l.length) (h : aliveB id (l.getD k v0D) = true) : hasB id l = true := by
 unfold hasB
 rw [List.any_eq_true]
 exact ⟨l[k], List.getElem_mem _, by simpa [List.getD, hk] using h⟩
theorem has_none {l : List VerD} {id : Int} (h : ∀ k, k < l.length → aliveB id (l.getD k v0D) = false) : hasB id l = false := by
 unfold hasB
 rw [List.any_eq_false]
 intro x hx
 obtain ⟨j, hj, rfl⟩ := List.getElem_of_mem hx
 have := h j hj
 simpa [List.getD, hj] using this
theorem has_idx {l : List VerD} {id : Int} (h : hasB id l = true) : verI l id < l.length := by
 unfold hasB at h
 rw [List.any_eq_true] at h
 exact List.findIdx_lt_length.2 h
/-- The first living version, as a search finds it. -/
theorem seg_at {ss : List (List VerD)} {id : Int} {i k : Nat} (hi : i < ss.length) (hk : k < (ss.getD i []).length) (h : aliveB id ((ss.getD i []).getD k v0D) = true) (hb : ∀ j, j < i → hasB id (ss.getD j []) = false)
  (hc : ∀ j, j < k → aliveB id ((ss.getD i []).getD j v0D) = false) : segI ss id = i ∧ verI (ss.getD i []) id = k :=
 ⟨idx_at (d := []) hi (has_at hk h) hb, idx_at (d := v0D) hk h hc⟩
theorem seg_none {ss : List (List VerD)} {id : Int} (h : ∀ j, j < ss.length → hasB id (ss.getD j []) = false) : segI ss id = ss.length := idx_none (d := []) h
/-- The living version. -/
def oldV (ss : List (List VerD)) (id : Int) : VerD := (ss.getD (segI ss id) []).getD (verI (ss.getD (segI ss id) []) id) v0D
theorem old_alive {ss : List (List VerD)} {id : Int} (h : segI ss id < ss.length) : verI (ss.getD (segI ss id) []) id < (ss.getD (segI ss id) []).length ∧ aliveB id (oldV ss id) = true := by
 have h1 : hasB id (ss.getD (segI ss id) []) = true := idx_yes (d := []) h
 have h2 := has_idx h1
 exact ⟨h2, idx_yes (d := v0D) h2⟩
theorem alive_iff {id : Int} {v : VerD} : aliveB id v = true ↔ v.1 = id ∧ v.2.2.2 = -1 := by unfold aliveB; exact decide_eq_true_iff
theorem alive_no {id : Int} {v : VerD} : aliveB id v = false ↔ ¬ (v.1 = id ∧ v.2.2.2 = -1) := by unfold aliveB; exact decide_eq_false_iff_not
def killV (v : VerD) (t : Int) : VerD := (v.1, v.2.1, v.2.2.1, t)
def dieL (ss : List (List VerD)) (i k : Nat) (t : Int) : List (List VerD) := ss.set i ((ss.getD i []).set k (killV ((ss.getD i []).getD k v0D) t))
def addL (ss : List (List VerD)) (r : Nat) (v : VerD) : List (List VerD) := ss.set r (ss.getD r [] ++ [v])
theorem die_len (ss : List (List VerD)) (i k : Nat) (t : Int) : (dieL ss i k t).length = ss.length := by simp [dieL]
theorem add_len (ss : List (List VerD)) (r : Nat) (v : VerD) : (addL ss r v).length = ss.length := by simp [addL]
theorem set_getD {α : Type} {l : List α} {i j : Nat} {x d : α} (hi : i < l.length) : (l.set i x).getD j d = if i = j then x else l.getD j d := by
 simp only [List.getD, List.getElem?_set]
 by_cases e : i = j
 ·
  subst e; simp [hi]
 ·
  simp [e]
theorem die_seg_len (ss : List (List VerD)) (i k : Nat) (t : Int) (j : Nat) : ((dieL ss i k t).getD j []).length = (ss.getD j []).length := by
 unfold dieL
 by_cases hi : i < ss.length
 ·
  rw [set_getD hi]
  by_cases e : i = j
  ·
   subst e; simp
  ·
   simp [e]
 ·
  rw [List.set_eq_of_length_le (by omega)]
/- What an update makes. -/
def okP (ss : List (List VerD)) (now : Int) (u : UpdD) : Prop := storeB ss now = true ∧ updB u = true ∧ now < 100000 ∧ (u.1 = 1 ↔ ¬ segI ss u.2.1.1 < ss.length) ∧ (u.1 ≠ 2 → roomI ss < ss.length)
instance (ss : List (List VerD)) (now : Int) (u : UpdD) : Decidable (okP ss now u) := by unfold okP; infer_instance
def kill1 (ss : List (List VerD)) (id t : Int) : List (List VerD) := dieL ss (segI ss id) (verI (ss.getD (segI ss id) []) id) t
def doneL (ss : List (List VerD)) (t : Int) (u : UpdD) : List (List VerD) :=
 if u.1 = 1 then addL ss (roomI ss) (u.2.1.1, u.2.1.2, t, -1)
 else if u.1 = 2 then kill1 ss u.2.1.1 t
 else addL (kill1 ss u.2.1.1 t) (roomI ss) (u.2.1.1, (oldV ss u.2.1.1).2.1.set u.2.2.1.toNat u.2.2.2, t, -1)
abbrev StoreD := List (List VerD) × Int
def applyB (s : StoreD) (u : UpdD) : StoreD × Bool := if okP s.1 s.2 u then ((doneL s.1 (s.2 + 1) u, s.2 + 1), true) else (s, false)
theorem apply_no {s : StoreD} {u : UpdD} (h : ¬ okP s.1 s.2 u) : applyB s u = (s, false) := if_neg h
theorem apply_yes {s : StoreD} {u : UpdD} (h : okP s.1 s.2 u) : applyB s u = ((doneL s.1 (s.2 + 1) u, s.2 + 1), true) := if_pos h
def applysB (s : StoreD) (l : List UpdD) : StoreD × Int := l.foldl (fun p u => ((applyB p.1 u).1, if (applyB p.1 u).2 then p.2 + 1 else p.2)) (s, 0)
def applysTo (s : StoreD) (l : List UpdD) (k : Nat) : StoreD × Int := applysB s (l.take k)
def u0D : UpdD := (0, (0, []), 0, 0)
theorem applys_zero (s : StoreD) (l : List UpdD) : applysTo s l 0 = (s, 0) := rfl
theorem applys_step {s : StoreD} {l : List UpdD} {k : Nat} (hk : k < l.length) : applysTo s l (k + 1) = ((applyB (applysTo s l k).1 (l.getD k u0D)).1, if (applyB (applysTo s l k).1 (l.getD k u0D)).2 then (applysTo s l k).2 + 1 else (applysTo s l k).2) := by
 unfold applysTo applysB
 have e : l.getD k u0D = l[k] := by simp [List.getD, hk]
 rw [e, List.take_succ_eq_append_getElem hk, List.foldl_append]
 rfl
theorem applys_all (s : StoreD) (l : List UpdD) : applysTo s l l.length = applysB s l := by unfold applysTo; rw [List.take_length]
theorem applys_count {s : StoreD} {l : List UpdD} : ∀ {k : Nat}, k ≤ l.length → 0 ≤ (applysTo s l k).2 ∧ (applysTo s l k).2 ≤ k
 | 0, _ => by rw [applys_zero]; simp
 | k + 1, hk => by
  have := applys_count (s := s) (l := l) (k := k) (by omega)
  rw [applys_step (by omega)]
  cases (applyB (applysTo s l k).1 (l.getD k u0D)).2 <;> simp <;> omega
/- A store stays valid. -/
theorem apart_symm {a b : VerD} (h : apartB a b = true) : apartB b a = true := by
 unfold apartB at *
 rw [decide_eq_true_eq] at *
 unfold apartP at *
 omega
def GoodL (l : List VerD) (now : Int) : Prop := (∀ v ∈ l, verB v now = true) ∧ l.Pairwise (fun a b => apartB a b = true)
theorem good_iff {l : List VerD} {now : Int} : VersP l now l.length ↔ GoodL l now := by
 have e : ∀ j (hj : j < l.length), l.getD j v0D = l[j] := fun j hj => by simp [List.getD, hj]
 constructor
 ·
  intro h
  refine ⟨fun v hv => ?_, ?_⟩
  ·
   obtain ⟨j, hj, rfl⟩ := List.getElem_of_mem hv
   rw [← e j hj]; exact (h j hj).1
  ·
   rw [List.pairwise_iff_getElem]
   intro i j hi hj hij
   have := (h j hj).2 i hij
   rw [e i hi, e j hj] at this
   exact apart_symm this
 ·
  intro h i hi
  refine ⟨by rw [e i hi]; exact h.1 _ (List.getElem_mem _), fun k hk => ?_⟩
  rw [e i hi, e k (by omega)]
  exact apart_symm ((List.pairwise_iff_getElem.1 h.2) k i (by omega) hi hk)
theorem good_perm {l m : List VerD} {now : Int} (h : GoodL l now) (p : l.Perm m) : GoodL m now :=
 ⟨fun v hv => h.1 v (p.mem_iff.2 hv), (p.pairwise_iff (fun {a b} q => apart_symm q)).1 h.2⟩
theorem perm_at {ss : List (List VerD)} {i : Nat} (hi : i < ss.length) : ∃ A B, ss.flatten = A ++ (ss.getD i [] ++ B) ∧ ∀ l, (ss.set i l).flatten = A ++ (l ++ B) := by
 refine ⟨(ss.take i).flatten, (ss.drop (i + 1)).flatten, ?_, fun l => ?_⟩
 ·
  have e : ss.getD i [] = ss[i] := by simp [List.getD, hi]
  rw [e, ← List.flatten_cons, ← List.flatten_append, ← List.drop_eq_getElem_cons hi, List.take_append_drop]
 ·
  rw [List.set_eq_take_append_cons_drop, if_pos hi, List.flatten_append, List.flatten_cons]
theorem perm_in {l : List VerD} {k : Nat} (hk : k < l.length) : ∃ A B, l = A ++ (l.getD k v0D :: B) ∧ ∀ v, l.set k v = A ++ (v :: B) := by
 refine ⟨l.take k, l.drop (k + 1), ?_, fun v => ?_⟩
 ·
  have e : l.getD k v0D = l[k] := by simp [List.getD, hk]
  rw [e, ← List.drop_eq_getElem_cons hk, List.take_append_drop]
 ·
  rw [List.set_eq_take_append_cons_drop, if_pos hk]
theorem perm_die {ss : List (List VerD)} {i k : Nat} (hi : i < ss.length) (hk : k < (ss.getD i []).length) (t : Int) :
  ∃ R, ss.flatten.Perm ((ss.getD i []).getD k v0D :: R) ∧ (dieL ss i k t).flatten.Perm (killV ((ss.getD i []).getD k v0D) t :: R) := by
 obtain ⟨A, B, h1, h2⟩ := perm_at hi
 obtain ⟨C, D, h3, h4⟩ := perm_in hk
 refine ⟨A ++ (C ++ D ++ B), ?_, ?_⟩
 ·
  have : ss.flatten = A ++ (C ++ ((ss.getD i []).getD k v0D :: (D ++ B))) := by
   rw [h1]
   conv => lhs; rw [h3]
   simp
  rw [this]
  have := List.perm_middle (l₁ := A ++ C) (a := (ss.getD i []).getD k v0D) (l₂ := D ++ B)
  simpa using this
 ·
  unfold dieL
  rw [h2, h4]
  have := List.perm_middle (l₁ := A ++ C) (a := killV ((ss.getD i []).getD k v0D) t) (l₂ := D ++ B)
  simpa using this
theorem perm_add {ss : List (List VerD)} {r : Nat} (hr : r < ss.length) (v : VerD) : (addL ss r v).flatten.Perm (v :: ss.flatten) := by
 obtain ⟨A, B, h1, h2⟩ := perm_at hr
 unfold addL
 rw [h2, h1]
 have := List.perm_middle (l₁ := A ++ ss.getD r []) (a := v) (l₂ := B)
 simpa using this
theorem ver_more {v : VerD} {now : Int} (h : verB v now = true) : verB v (now + 1) = true := by
 unfold verB at *
 rw [Bool.and_eq_true, decide_eq_true_eq] at *
 refine ⟨h.1, ?_⟩
 have := h.2
 unfold lifeP at *
 omega
theorem good_more {l : List VerD} {now : Int} (h : GoodL l now) : GoodL l (now + 1) := ⟨fun v hv => ver_more (h.1 v hv), h.2⟩
/-- The living version of a row dies: the rest has no living version of that row. -/
theorem good_die {v : VerD} {R : List VerD} {now : Int} {id : Int} (h : GoodL (v :: R) now) (ha : aliveB id v = true) : GoodL (killV v (now + 1) :: R) (now + 1) ∧ ∀ x ∈ killV v (now + 1) :: R, aliveB id x = false := by
 rw [alive_iff] at ha
 obtain ⟨i, xs, bo, di⟩ := v
 obtain ⟨rfl, h1⟩ := ha
 change di = -1 at h1
 subst h1
 obtain ⟨g1, g2⟩ := h
 have hv := g1 _ (List.mem_cons_self)
 rw [List.pairwise_cons] at g2
 have hvv := hv
 unfold verB at hv
 rw [Bool.and_eq_true, decide_eq_true_eq] at hv
 have hl : lifeP bo (-1) now := hv.2
 unfold lifeP at hl
 refine ⟨⟨fun x hx => ?_, ?_⟩, fun x hx => ?_⟩
 ·
  rcases List.mem_cons.1 hx with rfl | hx
  ·
   unfold verB killV
   rw [Bool.and_eq_true, decide_eq_true_eq]
   refine ⟨hv.1, ?_⟩
   show lifeP bo (now + 1) (now + 1)
   unfold lifeP; omega
  ·
   exact ver_more (g1 x (List.mem_cons_of_mem _ hx))
 ·
  rw [List.pairwise_cons]
  refine ⟨fun x hx => ?_, g2.2⟩
  have := g2.1 x hx
  unfold apartB killV at *
  rw [decide_eq_true_eq] at *
  unfold apartP at *
  simp only at *
  omega
 ·
  rw [alive_no]
  rcases List.mem_cons.1 hx with rfl | hx
  ·
   show ¬ (i = i ∧ now + 1 = -1); omega
  ·
   have h3 := g2.1 x hx
   have h4 := g1 x (List.mem_cons_of_mem _ hx)
   unfold verB at h4
   rw [Bool.and_eq_true, decide_eq_true_eq] at h4
   have h5 := h4.2
   unfold lifeP at h5
   unfold apartB at h3
   rw [decide_eq_true_eq] at h3
   unfold apartP at h3
   simp only at h3
   omega
theorem good_add {l : List VerD} {t id : Int} {xs : List Int} (h : GoodL l t) (h0 : 0 ≤ t) (hr : rowB (id, xs) = true) (ha : ∀ x ∈ l, aliveB id x = false) : GoodL ((id, xs, t, -1) :: l) t := by
 refine ⟨fun x hx => ?_, ?_⟩
 ·
  rcases List.mem_cons.1 hx with rfl | hx
  ·
   unfold verB
   rw [Bool.and_eq_true, decide_eq_true_eq]
   refine ⟨hr, ?_⟩
   show lifeP t (-1) t
   unfold lifeP; omega
  ·
   exact h.1 x hx
 ·
  rw [List.pairwise_cons]
  refine ⟨fun x hx => ?_, h.2⟩
  have h1 := ha x hx
  have h2 := h.1 x hx
  rw [alive_no] at h1
  unfold verB at h2
  rw [Bool.and_eq_true, decide_eq_true_eq] at h2
  have h3 := h2.2
  unfold lifeP at h3
  unfold apartB
  rw [decide_eq_true_eq]
  unfold apartP
  simp only
  omega
theorem no_alive {ss : List (List VerD)} {id : Int} (h : ¬ segI ss id < ss.length) : ∀ x ∈ ss.flatten, aliveB id x = false := by
 have h1 : ss.findIdx (hasB id) = ss.length := by
  have : ss.findIdx (hasB id) ≤ ss.length := List.findIdx_le_length
  unfold segI at h; omega
 rw [List.findIdx_eq_length] at h1
 intro x hx
 obtain ⟨l, hl, hxl⟩ := List.mem_flatten.1 hx
 have := h1 l hl
 unfold hasB at this
 rw [List.any_eq_false] at this
 have := this x hxl
 simpa using this
theorem rowB_set {r : RowD} {f x : Int} (h : rowB r = true) (hf : 0 ≤ f ∧ f ≤ 2) (hx : 0 ≤ x ∧ x ≤ 99) : rowB (r.1, r.2.set f.toNat x) = true := by
 unfold rowB at *
 simp only [Bool.and_eq_true, decide_eq_true_eq, List.all_eq_true, List.length_set] at *
 refine ⟨h.1, ⟨fun y hy => ?_, h.2.2⟩⟩
 rcases List.mem_or_eq_of_mem_set hy with q | q
 ·
  exact h.2.1 y q
 ·
  subst q; exact hx
theorem store_good {ss : List (List VerD)} {now : Int} (h : storeB ss now = true) : GoodL ss.flatten now := good_iff.1 (store_iff h).2.2
theorem room_len {ss : List (List VerD)} (h : roomI ss < ss.length) : (ss.getD (roomI ss) []).length < 4 := by
 have := idx_yes (d := []) (p := freeB) h
 unfold freeB at this
 exact of_decide_eq_true this
theorem short_die {ss : List (List VerD)} (h : ShortP ss ss.length) (i k : Nat) (t : Int) : ShortP (dieL ss i k t) (dieL ss i k t).length := fun j hj => by
 rw [die_seg_len]; rw [die_len] at hj; exact h j hj
theorem short_add {ss : List (List VerD)} (h : ShortP ss ss.length) {r : Nat} (hr : r < ss.length) (hl : (ss.getD r []).length < 4) (v : VerD) : ShortP (addL ss r v) (addL ss r v).length := fun j hj => by
 rw [add_len] at hj
 unfold addL
 rw [set_getD hr]
 by_cases e : r = j
 ·
  rw [if_pos e, List.length_append, List.length_singleton]; omega
 ·
  rw [if_neg e]; exact h j hj
theorem done_store {ss : List (List VerD)} {now : Int} {u : UpdD} (h : okP ss now u) : storeB (doneL ss (now + 1) u) (now + 1) = true := by
 obtain ⟨h1, h2, h3, h4, h5⟩ := h
 obtain ⟨⟨q1, q2⟩, q3, q4⟩ := store_iff h1
 have hg := store_good h1
 have hnow : 0 ≤ now + 1 ∧ now + 1 ≤ 100000 := by omega
 unfold doneL
 rcases upd_cases h2 with hu | hu | hu
 ·
  obtain ⟨e, hr, _, _⟩ := hu
  rw [if_pos e]
  have hroom := h5 (by omega)
  refine store_yes (by rw [add_len]; exact q1) hnow (short_add q3 hroom (room_len hroom) _) (good_iff.2 (good_perm ?_ (perm_add hroom _).symm))
  exact good_add (good_more hg) hnow.1 hr (no_alive (h4.1 e))
 ·
  obtain ⟨e, _⟩ := hu
  rw [if_neg (by omega), if_pos e]
  have hs : segI ss u.2.1.1 < ss.length := by
   by_cases q : segI ss u.2.1.1 < ss.length
   ·
    exact q
   ·
    have := h4.2 q; omega
  obtain ⟨hv, ha⟩ := old_alive hs
  obtain ⟨R, p1, p2⟩ := perm_die hs hv (now + 1)
  unfold kill1
  exact store_yes (by rw [die_len]; exact q1) hnow (short_die q3 _ _ _) (good_iff.2 (good_perm (good_die (good_perm hg p1) ha).1 p2.symm))
 ·
  obtain ⟨e, _, _, hf, hx⟩ := hu
  rw [if_neg (by omega), if_neg (by omega)]
  have hs : segI ss u.2.1.1 < ss.length := by
   by_cases q : segI ss u.2.1.1 < ss.length
   ·
    exact q
   ·
    have := h4.2 q; omega
  have hroom := h5 (by omega)
  obtain ⟨hv, ha⟩ := old_alive hs
  obtain ⟨R, p1, p2⟩ := perm_die hs hv (now + 1)
  have hold : rowB (u.2.1.1, (oldV ss u.2.1.1).2.1) = true := by
   have h6 := (good_perm hg p1).1 _ (List.mem_cons_self)
   change verB (oldV ss u.2.1.1) now = true at h6
   unfold verB at h6
   rw [Bool.and_eq_true] at h6
   have h7 := (alive_iff.1 ha).1
   have h8 := h6.1
   rw [h7] at h8
   exact h8
  have hroom2 : roomI ss < (kill1 ss u.2.1.1 (now + 1)).length := by unfold kill1; rw [die_len]; exact hroom
  refine store_yes (by rw [add_len]; unfold kill1; rw [die_len]; exact q1) hnow (short_add (short_die q3 _ _ _) hroom2 (by rw [die_seg_len]; exact room_len hroom) _) (good_iff.2 (good_perm ?_ (perm_add hroom2 _).symm))
  obtain ⟨k1, k2⟩ := good_die (good_perm hg p1) ha
  exact good_add (good_perm k1 p2.symm) hnow.1 (rowB_set hold hf hx) (fun x hx => k2 x (p2.mem_iff.1 hx))
theorem apply_store {s : StoreD} {u : UpdD} (h : storeB s.1 s.2 = true) : storeB (applyB s u).1.1 (applyB s u).1.2 = true := by
 by_cases q : okP s.1 s.2 u
 ·
  rw [apply_yes q]; exact done_store q
 ·
  rw [apply_no q]; exact h
theorem applys_store {s : StoreD} {l : List UpdD} (h : storeB s.1 s.2 = true) : ∀ {k : Nat}, k ≤ l.length → storeB (applysTo s l k).1.1 (applysTo s l k).1.2 = true
 | 0, _ => by rw [applys_zero]; exact h
 | k + 1, hk => by
  rw [applys_step (by omega)]
  exact apply_store (applys_store h (k := k) (by omega))
theorem applys_bad {s : StoreD} {l : List UpdD} (h : storeB s.1 s.2 = false) : ∀ {k : Nat}, k ≤ l.length → applysTo s l k = (s, 0)
 | 0, _ => applys_zero s l
 | k + 1, hk => by
  rw [applys_step (by omega), applys_bad h (k := k) (by omega), apply_no (fun q => by have q1 : storeB s.1 s.2 = true := q.1; rw [h] at q1; cases q1)]
  rfl
theorem rowB_len3 {r : RowD} (h : rowB r = true) : r.2.length = 3 := by
 unfold rowB at h
 rw [Bool.and_eq_true, Bool.and_eq_true] at h
 exact of_decide_eq_true h.2.2
/-- The living version has three values. -/
theorem old_three {ss : List (List VerD)} {now id : Int} (h : storeB ss now = true) (hs : segI ss id < ss.length) : ((ss.getD (segI ss id) []).getD (verI (ss.getD (segI ss id) []) id) v0D).2.1.length = 3 := by
 obtain ⟨hv, _⟩ := old_alive hs
 obtain ⟨R, p1, _⟩ := perm_die hs hv 0
 have h6 := (good_perm (store_good h) p1).1 _ (List.mem_cons_self)
 unfold verB at h6
 rw [Bool.and_eq_true] at h6
 exact rowB_len3 h6.1
/- Reclaiming. -/
theorem ret_ii {a b c d : Int} (h1 : a = c) (h2 : b = d) : Ending.returned (.tuple #[.int .i64 a, .int .i64 b]) = .returned (.tuple #[.int .i64 c, .int .i64 d]) := by rw [h1, h2]
set_option maxHeartbeats 8000000 in
set_option maxRecDepth 100000 in
theorem specOne (id bo di : Int) (v : Value) (xs : List Int) (w : World) (h : SlR tInt w v xs) (hn : xs.length ≤ 1048576) :
  Calls Try.prog 96 #[.int .i64 id, v, .int .i64 bo, .int .i64 di] w (FreshT tVersion (fun cs => .agg cs.toArray) w (id, xs, bo, di)) := by
 obtain ⟨a, c, rfl⟩ := slR_len h
 have H := Lib.hid h
 have HN := Lib.hid hn
 clear h hn
 have Y0 : Hid (w.heap.size < (w.alloc (.cells #[.int .i64 0, .slice none 0 0, .int .i64 0, .int .i64 0] 88)).heap.size) := Lib.hid (by simp)
 have B0 : Hid ((w.alloc (.cells #[.int .i64 0, .slice none 0 0, .int .i64 0, .int .i64 0] 88)).heap[w.heap.size]? = some (.cells #[.int .i64 0, .slice none 0 0, .int .i64 0, .int .i64 0] 88 (0, 0))) := Lib.hid (heap_alloc_new w _)
 have d := Lib.hid ((Below.refl w.heap.size w).alloc (Nat.le_refl _) (.cells #[.int .i64 0, .slice none 0 0, .int .i64 0, .int .i64 0] 88))
 have E0 : Hid (SlO 3 tInt ((w.alloc (.cells #[.int .i64 0, .slice none 0 0, .int .i64 0, .int .i64 0] 88)).alloc (.cells #[] 3)) (fun b => w.heap.size + 1 ≤ b) (.slice (some ⟨w.heap.size + 1, 0, none⟩) 0 0) []) := Lib.hid (by
  have := slO_empty (T := tInt) (w.alloc (.cells #[.int .i64 0, .slice none 0 0, .int .i64 0, .int .i64 0] 88)) 3 (fun b => w.heap.size + 1 ≤ b) (by simp)
  simpa only [World.size_alloc] using this)
 go_enter Try.func96, Try.ntmps96
 go_wp2_with (at_builtin; refine append_flat tInt_law flat_int info_T_int Try.underlying22 rfl rfl (.tmp 10) (.tmp 11) rfl (fun b => w.heap.size + 1 ≤ b) (fun b => w.heap.size + 1 ≤ b) _ _ [] xs rfl rfl E0.out (slR_below tInt_law H.out (d.out.alloc d.out.size _)) (fun b h => h) (by first | (simp [World.size_alloc]; done) | (simp [World.size_alloc]; omega)) (by have := HN.out; simp; omega) ?_)
 intro v' w1 o1 t1
 obtain ⟨ua, uc, rfl⟩ := slO_len o1
 have k0 : w1.heap[w.heap.size]? = some (.cells #[.int .i64 0, .slice none 0 0, .int .i64 0, .int .i64 0] 88 (0, 0)) := (t1.block _ (by first | (simp [World.size_alloc]; done) | (simp [World.size_alloc]; omega)) (fun h => by have := Y0.out; omega)).trans ((((Below.refl _ _).alloc (Nat.le_refl _) _).block w.heap.size Y0.out).trans B0.out)
 have hd : Below w.heap.size w w1 := below_turn (d.out.alloc d.out.size _) t1 (fun b h => by have h3 : w.heap.size + 1 ≤ b := h; omega) (by first | (simp [World.size_alloc]; done) | (simp [World.size_alloc]; omega))
 have z0 := (cell_of_row w1 _ 0 _ _ _ k0).trans (show _ = some (Value.int .i64 0) from rfl)
 have g0 := frozen_of_row w1 _ 0 _ _ k0
 have z1 := (cell_of_row w1 _ 1 _ _ _ k0).trans (show _ = some (Value.slice none 0 0) from rfl)
 have g1 := frozen_of_row w1 _ 1 _ _ k0
 have z2 := (cell_of_row w1 _ 2 _ _ _ k0).trans (show _ = some (Value.int .i64 0) from rfl)
 have g2 := frozen_of_row w1 _ 2 _ _ k0
 have z3 := (cell_of_row w1 _ 3 _ _ _ k0).trans (show _ = some (Value.int .i64 0) from rfl)
 have g3 := frozen_of_row w1 _ 3 _ _ k0
 have DF := Lib.hid ((((hd.setCell (p := ⟨w.heap.size, 0, none⟩) (by simp) (.int .i64 id)).setCell (p := ⟨w.heap.size, 1, none⟩) (by simp) (.slice ua xs.length uc)).setCell (p := ⟨w.heap.size, 2, none⟩) (by simp) (.int .i64 bo)).setCell (p := ⟨w.heap.size, 3, none⟩) (by simp) (.int .i64 di))
 have r := (heap_setCell_same _ w.heap.size 3 _ _ (.int .i64 di) (heap_setCell_same _ w.heap.size 2 _ _ (.int .i64 bo) (heap_setCell_same _ w.heap.size 1 _ _ (.slice ua xs.length uc) (heap_setCell_same _ w.heap.size 0 _ _ (.int .i64 id) k0))))
 simp at r
 have e0 := (cell_of_row _ w.heap.size 0 _ _ _ r).trans (show _ = some (Value.int .i64 id) from rfl)
 have e1 := (cell_of_row _ w.heap.size 1 _ _ _ r).trans (show _ = some (Value.slice ua xs.length uc) from rfl)
 have e2 := (cell_of_row _ w.heap.size 2 _ _ _ r).trans (show _ = some (Value.int .i64 bo) from rfl)
 have e3 := (cell_of_row _ w.heap.size 3 _ _ _ r).trans (show _ = some (Value.int .i64 di) from rfl)
 have tt : Turn (fun b => b = w.heap.size) w1 ((((w1.setCell ⟨w.heap.size, 0, none⟩ (.int .i64 id)).setCell ⟨w.heap.size, 1, none⟩ (.slice ua xs.length uc)).setCell ⟨w.heap.size, 2, none⟩ (.int .i64 bo)).setCell ⟨w.heap.size, 3, none⟩ (.int .i64 di)) := (((((Turn.refl (fun b => b = w.heap.size) w1).trans (turn_set (G := fun b => b = w.heap.size) (g := w.heap.size) (j := 0) (u := .int .i64 id) rfl)).trans (turn_set (G := fun b => b = w.heap.size) (g := w.heap.size) (j := 1) (u := .slice ua xs.length uc) rfl)).trans (turn_set (G := fun b => b = w.heap.size) (g := w.heap.size) (j := 2) (u := .int .i64 bo) rfl)).trans (turn_set (G := fun b => b = w.heap.size) (g := w.heap.size) (j := 3) (u := .int .i64 di) rfl))
 have PF := Lib.hid (slO_turn tInt_law o1 tt (fun b h1 h2 => by have h3 : w.heap.size + 1 ≤ b := h1; have := Y0.out; omega))
 clear r tt k0 hd t1 o1
 go_wp2
 refine bodyPost_ret (v := .agg #[.int .i64 id, .slice ua xs.length uc, .int .i64 bo, .int .i64 di]) ?_ rfl ⟨[.int .i64 id, .slice ua xs.length uc, .int .i64 bo, .int .i64 di], rfl, tVersion_mkO PF.out (fun b h => by have h3 : w.heap.size + 1 ≤ b := h; have := Y0.out; show w.heap.size ≤ b; omega), DF.out⟩
 simp [results, Try.f96, go_sem, e0, e1, e2, e3]
/-- The index that a search answers: -1 where there is none. -/
def idxI (n i : Nat) : Int := if i < n then (i : Int) else -1
def fndJ (ss : List (List VerD)) (id : Int) : Int := if segI ss id < ss.length then (verI (ss.getD (segI ss id) []) id : Int) else -1
set_option maxHeartbeats 8000000 in
set_option maxRecDepth 100000 in
theorem specRoom (sv : Value) (ss : List (List VerD)) (now : Int) (w : World) (h : SlR tVersionS w sv ss) (hs : zL tVersionS ss ≤ 1048576) :
  Calls Try.prog 51 #[.agg #[sv, .int .i64 now]] w (fun e w' => e = .returned (.int .i64 (idxI ss.length (roomI ss))) ∧ Below w.heap.size w w') := by
 have hlen := zL_len hs
 obtain ⟨a, cap, rfl⟩ := slR_len h
 have H := Lib.hid h
 have HS := Lib.hid hs
 have d0 := Lib.hid ((Below.refl w.heap.size w).alloc (Nat.le_refl _) (.cells #[.slice a ss.length cap, .int .i64 now] 41))
 have B0 : Hid ((w.alloc (.cells #[.slice a ss.length cap, .int .i64 now] 41)).heap[w.heap.size]? = some (.cells #[.slice a ss.length cap, .int .i64 now] 41 (0, 0))) := Lib.hid (heap_alloc_new w _)
 have Y0 : Hid (w.heap.size < (w.alloc (.cells #[.slice a ss.length cap, .int .i64 now] 41)).heap.size) := Lib.hid (by simp [World.size_alloc])
 clear h hs
 go_enter Try.func51, Try.ntmps51
 go_wp2
 generalize w.alloc (.cells #[.slice a ss.length cap, .int .i64 now] 41) = W at *
 have q0 := (cell_of_row W _ 0 _ _ _ B0.out).trans (show _ = some (Value.slice a ss.length cap) from rfl)
 have HW := Lib.hid (slR_below tVersionS_law H.out d0.out)
 go_loop [3] (fun i => ∃ k : Nat, k ≤ ss.length ∧ i = .int .i64 k ∧ Hid (∀ j, j < k → freeB (ss.getD j []) = false)) (fun i => ss.length - (intOf i).toNat)
 case atStart => exact ⟨0, Nat.zero_le _, rfl, Lib.hid (fun j hj => by omega)⟩
 case round =>
  obtain ⟨k, hk, rfl, hno⟩ := hrel
  by_cases hlt : k < ss.length
  ·
   have i1 : (0 : Int) ≤ (k : Int) := by omega
   have i2 : (k : Int) < (ss.length : Int) := by omega
   obtain ⟨b, off, cap', cs, hv, hbl, hcs, hR⟩ := slR_at HW.out hlt
   simp only [Value.slice.injEq] at hv
   obtain ⟨rfl, _, rfl⟩ := hv
   obtain ⟨u, rfl, hU⟩ := hR
   change SlR tVersion W u (ss.getD k []) at hU
   have pe : W.cell? ⟨b, off + k, none⟩ = some u := by have := hcs 0 Nat.one_pos; rw [show tVersionS.n = 1 from rfl, Nat.mul_one, Nat.add_zero] at this; exact this
   obtain ⟨ua, uc, rfl⟩ := slR_len hU
   have HNX : Hid (freeB (ss.getD k []) = false → ∀ j, j < k + 1 → freeB (ss.getD j []) = false) := Lib.hid (fun g j hj => by
    by_cases e : j = k
    ·
     rw [e]; exact g
    ·
     exact hno.out j (by omega))
   have HYS : Hid (freeB (ss.getD k []) = true → idxI ss.length (roomI ss) = (k : Int)) := Lib.hid (fun g => by
    have e : roomI ss = k := idx_at (d := []) hlt g hno.out
    rw [e]; exact if_pos hlt)
   have HML := Lib.hid (zL_len (show zL tVersion (ss.getD k []) ≤ 1048576 from Nat.le_trans (zL_seg hlt) HS.out))
   have HFR : Hid (freeB (ss.getD k []) = decide ((ss.getD k []).length < 4)) := Lib.hid rfl
   clear hcs hU hno
   generalize ss.getD k [] = l at *
   generalize l.length = m at *
   by_cases h4 : m < 4
   ·
    have HY := Lib.hid (HYS.out (HFR.out.trans (decide_eq_true h4)))
    have h4i : (m : Int) < 4 := by omega
    clear HNX HYS HFR
    go_wp2
    go_ret
    exact ⟨ty_ret HY.out.symm, d0.out⟩
   ·
    have HX := Lib.hid (HNX.out (HFR.out.trans (decide_eq_false h4)))
    have h4i : ¬ (m : Int) < 4 := by omega
    clear HNX HYS HFR
    go_wp2
    go_round
    case rel => exact ⟨k + 1, by omega, by go_num, HX⟩
    case measure => simp [intOf]; omega
  ·
   obtain rfl : k = ss.length := by omega
   have HE : Hid (idxI ss.length (roomI ss) = -1) := Lib.hid (by
    have e : roomI ss = ss.length := idx_none (d := []) hno.out
    rw [e]; exact if_neg (Nat.lt_irrefl _))
   clear hno
   go_wp2
   go_ret
   exact ⟨ty_ret HE.out.symm, d0.out⟩
set_option maxHeartbeats 8000000 in
set_option maxRecDepth 100000 in
theorem specFind (sv : Value) (ss : List (List VerD)) (now id : Int) (w : World) (h : SlR tVersionS w sv ss) (hs : zL tVersionS ss ≤ 1048576) :
  Calls Try.prog 50 #[.agg #[sv, .int .i64 now], .int .i64 id] w (fun e w' => e = .returned (.tuple #[.int .i64 (idxI ss.length (segI ss id)), .int .i64 (fndJ ss id)]) ∧ Below w.heap.size w w') := by
 have hlen := zL_len hs
 obtain ⟨a, cap, rfl⟩ := slR_len h
 have H := Lib.hid h
 have HS := Lib.hid hs
 have d0 := Lib.hid ((Below.refl w.heap.size w).alloc (Nat.le_refl _) (.cells #[.slice a ss.length cap, .int .i64 now] 41))
 have B0 : Hid ((w.alloc (.cells #[.slice a ss.length cap, .int .i64 now] 41)).heap[w.heap.size]? = some (.cells #[.slice a ss.length cap, .int .i64 now] 41 (0, 0))) := Lib.hid (heap_alloc_new w _)
 have Y0 : Hid (w.heap.size < (w.alloc (.cells #[.slice a ss.length cap, .int .i64 now] 41)).heap.size) := Lib.hid (by simp [World.size_alloc])
 clear h hs
 go_enter Try.func50, Try.ntmps50
 go_wp2
 generalize w.alloc (.cells #[.slice a ss.length cap, .int .i64 now] 41) = W at *
 have q0 := (cell_of_row W _ 0 _ _ _ B0.out).trans (show _ = some (Value.slice a ss.length cap) from rfl)
 have HW := Lib.hid (slR_below tVersionS_law H.out d0.out)
 go_loop [6] (fun i => ∃ k : Nat, k ≤ ss.length ∧ i = .int .i64 k ∧ Hid (∀ j, j < k → hasB id (ss.getD j []) = false)) (fun i => ss.length - (intOf i).toNat)
 case atStart => exact ⟨0, Nat.zero_le _, rfl, Lib.hid (fun j hj => by omega)⟩
 case round =>
  obtain ⟨k, hk, rfl, hno⟩ := hrel
  by_cases hlt : k < ss.length
  ·
   have i1 : (0 : Int) ≤ (k : Int) := by omega
   have i2 : (k : Int) < (ss.length : Int) := by omega
   obtain ⟨b, off, cap', cs, hv, hbl, hcs, hR⟩ := slR_at HW.out hlt
   simp only [Value.slice.injEq] at hv
   obtain ⟨rfl, _, rfl⟩ := hv
   obtain ⟨u, rfl, hU⟩ := hR
   change SlR tVersion W u (ss.getD k []) at hU
   have pe : W.cell? ⟨b, off + k, none⟩ = some u := by have := hcs 0 Nat.one_pos; rw [show tVersionS.n = 1 from rfl, Nat.mul_one, Nat.add_zero] at this; exact this
   obtain ⟨ua, uc, rfl⟩ := slR_len hU
   have HNX : Hid (hasB id (ss.getD k []) = false → ∀ j, j < k + 1 → hasB id (ss.getD j []) = false) := Lib.hid (fun g j hj => by
    by_cases e : j = k
    ·
     rw [e]; exact g
    ·
     exact hno.out j (by omega))
   have HYS : Hid (∀ q, q < (ss.getD k []).length → aliveB id ((ss.getD k []).getD q v0D) = true → (∀ j, j < q → aliveB id ((ss.getD k []).getD j v0D) = false) → idxI ss.length (segI ss id) = (k : Int) ∧ fndJ ss id = (q : Int)) := Lib.hid (fun q h1 h2 h3 => by
    obtain ⟨e1, e2⟩ := seg_at hlt h1 h2 hno.out h3
    unfold fndJ
    rw [e1, if_pos hlt, e2]
    exact ⟨if_pos hlt, rfl⟩)
   have HML := Lib.hid (zL_len (show zL tVersion (ss.getD k []) ≤ 1048576 from Nat.le_trans (zL_seg hlt) HS.out))
   have HU := Lib.hid hU
   clear hcs hU hno
   generalize ss.getD k [] = l at *
   have hml := HML.out
   go_wp2
   go_loop [7] (fun i => ∃ q : Nat, q ≤ l.length ∧ i = .int .i64 q ∧ Hid (∀ j, j < q → aliveB id (l.getD j v0D) = false)) (fun i => l.length - (intOf i).toNat)
   case atStart => exact ⟨0, Nat.zero_le _, rfl, Lib.hid (fun j hj => by omega)⟩
   case round =>
    obtain ⟨q, hq, rfl, hnq⟩ := hrel
    by_cases hqt : q < l.length
    ·
     have j1 : (0 : Int) ≤ (q : Int) := by omega
     have j2 : (q : Int) < (l.length : Int) := by omega
     obtain ⟨g, goff, gcap, va, vc, hv, hgl, c0, c1, c2, c3, hx⟩ := verR_at HU.out hqt
     simp only [Value.slice.injEq] at hv
     obtain ⟨rfl, _, rfl⟩ := hv
     have HNQ : Hid (aliveB id (l.getD q v0D) = false → ∀ j, j < q + 1 → aliveB id (l.getD j v0D) = false) := Lib.hid (fun g j hj => by
      by_cases e : j = q
      ·
       rw [e]; exact g
      ·
       exact hnq.out j (by omega))
     have HYQ := Lib.hid (fun g => HYS.out q hqt g hnq.out)
     clear hx hnq c1 c2
     generalize l.getD q v0D = x at *
     obtain ⟨vi, vx, vb, vd⟩ := x
     simp only at c0 c3
     by_cases h1 : vi = id
     ·
      by_cases h2 : vd = -1
      ·
       have HY := Lib.hid (HYQ.out (alive_iff.2 ⟨h1, h2⟩))
       have e1 : (vi == id) = true := by simp [h1]
       have e2 : (vd == -1) = true := by simp [h2]
       clear HNQ HYQ h1 h2
       go_wp2
       go_ret2
       exact ⟨ret_ii HY.out.1.symm HY.out.2.symm, d0.out⟩
      ·
       have HX := Lib.hid (HNQ.out (alive_no.2 (fun g => h2 g.2)))
       have e1 : (vi == id) = true := by simp [h1]
       have e2 : (vd == -1) = false := by simp [h2]
       clear HNQ HYQ h1 h2
       go_wp2
       go_round
       case rel => exact ⟨q + 1, by omega, by go_num, HX⟩
       case measure => simp [intOf]; omega
     ·
      have HX := Lib.hid (HNQ.out (alive_no.2 (fun g => h1 g.1)))
      have e1 : (vi == id) = false := by simp [h1]
      clear HNQ HYQ h1
      go_wp2
      go_round
      case rel => exact ⟨q + 1, by omega, by go_num, HX⟩
      case measure => simp [intOf]; omega
    ·
     obtain rfl : q = l.length := by omega
     have HX := Lib.hid (HNX.out (has_none hnq.out))
     clear hnq HNX HYS
     go_wp2
     go_round
     case rel => exact ⟨k + 1, by omega, by go_num, HX⟩
     case measure => simp [intOf]; omega
  ·
   obtain rfl : k = ss.length := by omega
   have HE : Hid (idxI ss.length (segI ss id) = -1 ∧ fndJ ss id = -1) := Lib.hid (by
    have e : segI ss id = ss.length := seg_none hno.out
    unfold fndJ
    rw [e]; exact ⟨if_neg (Nat.lt_irrefl _), if_neg (Nat.lt_irrefl _)⟩)
   clear hno
   go_wp2
   go_ret2
   exact ⟨ret_ii HE.out.1.symm HE.out.2.symm, d0.out⟩
set_option maxHeartbeats 16000000 in
set_option maxRecDepth 100000 in
theorem specPart (v : Value) (l : List VerD) (w : World) (h : SlR tVersion w v l) (hs : zL tVersion l ≤ 1048576) :
  Calls Try.prog 76 #[v] w (FreshS 88 tVersion w l) := by
 have H := Lib.hid h
 have hlen := zL_len hs
 have HS := Lib.hid hs
 obtain ⟨a, cap, rfl⟩ := slR_len h
 clear h hs
 go_enter Try.func76, Try.ntmps76
 go_wp2
 go_loopw [3, 4] (fun u i wr => ∃ k : Nat, k ≤ l.length ∧ i = .int .i64 k ∧ SlO 88 tVersion wr (since w) u (l.take k) ∧ Below w.heap.size w wr) (fun _ i _ => l.length - (intOf i).toNat)
 case atStart => exact ⟨0, Nat.zero_le _, rfl, slO_empty w 88 (since w) (Nat.le_refl _), (Below.refl _ _).alloc (Nat.le_refl _) _⟩
 case round =>
  obtain ⟨k, hk, rfl, hown, hbel⟩ := hrel
  by_cases hlt : k < l.length
  ·
   have i1 : (0 : Int) ≤ (k : Int) := by omega
   have i2 : (k : Int) < (l.length : Int) := by omega
   obtain ⟨b, off, cap', xa, xc, hv, hbl, c0, c1, c2, c3, hx⟩ := verR_at H.out hlt
   simp only [Value.slice.injEq] at hv
   obtain ⟨rfl, _, rfl⟩ := hv
   have HXL := Lib.hid (ver_len HS.out hlt)
   have HTK := Lib.hid (take_getD hlt).symm
   have HYL : Hid ((l.take k).length ≤ 1048576) := Lib.hid (by rw [List.length_take]; omega)
   have HX := Lib.hid (ints_slR hx)
   generalize l.getD k v0D = x at *
   obtain ⟨id, xs, bo, di⟩ := x
   simp only at c0 c1 c2 c3 HXL
   change Hid (SlR tInt w (.slice xa xs.length xc) xs) at HX
   have C0 := Lib.hid c0
   have C1 := Lib.hid c1
   have C2 := Lib.hid c2
   have C3 := Lib.hid c3
   have HBL := Lib.hid hbl
   have PP := Lib.hid (slO_lt tVersion_law hown)
   have d := Lib.hid hbel
   have ZR := Lib.hid hbel.size
   obtain ⟨oa, oc, rfl⟩ := slO_len hown
   clear c0 c1 c2 c3 hbl hx hown hbel
   have QP := Lib.hid (fun q (h : since w q ∧ q < wr.heap.size) => h)
   generalize l.take k = ys at *
   go_wp2
   have p_C0 := (d.out.cell (p := ⟨b, off + k * 4, none⟩) HBL.out).trans C0.out
   have p_C1 := (d.out.cell (p := ⟨b, off + k * 4 + 1, none⟩) HBL.out).trans C1.out
   have p_C2 := (d.out.cell (p := ⟨b, off + k * 4 + 2, none⟩) HBL.out).trans C2.out
   have p_C3 := (d.out.cell (p := ⟨b, off + k * 4 + 3, none⟩) HBL.out).trans C3.out
   refine wp_region_held_drew (S := fun w' => w'.cell? ⟨b, off + k * 4, none⟩ = some (Value.int .i64 id) ∧ w'.cell? ⟨b, off + k * 4 + 1, none⟩ = some (Value.slice xa xs.length xc) ∧ w'.cell? ⟨b, off + k * 4 + 2, none⟩ = some (Value.int .i64 bo) ∧ w'.cell? ⟨b, off + k * 4 + 3, none⟩ = some (Value.int .i64 di)) (by kernel_rfl) ⟨p_C0, p_C1, p_C2, p_C3⟩ (fun hHeld => ?_)
   clear p_C0 p_C1 p_C2 p_C3
   have cdr : Below wr.heap.size wr wr.drew := below_drew (Below.refl _ _)
   replace PP := Lib.hid (slO_fresh tVersion_law PP.out cdr)
   replace d := Lib.hid (d.out.trans (cdr.mono d.out.size))
   clear cdr
   have Z_dr := Lib.hid (show wr.heap.size ≤ wr.drew.heap.size from Nat.le_refl _)
   generalize wr.drew = Wd at *
   refine tR (i := 0) (v := ?_) ?_ ?_; rotate_left
   ·
    intro w hSw; (try dsimp only at hSw); go_simp; try (with_reducible rfl)
   try simp only [Act.put, lA, lB, lC]
   refine tR (i := 1) (v := ?_) ?_ ?_; rotate_left
   ·
    intro w hSw; (try dsimp only at hSw); go_simp; try (with_reducible rfl)
   try simp only [Act.put, lA, lB, lC]
   refine tR (i := 2) (v := ?_) ?_ ?_; rotate_left
   ·
    intro w hSw; (try dsimp only at hSw); go_simp; try (with_reducible rfl)
   try simp only [Act.put, lA, lB, lC]
   refine tR (i := 3) (v := ?_) ?_ ?_; rotate_left
   ·
    intro w hSw; (try dsimp only at hSw); go_simp; try (with_reducible rfl)
   try simp only [Act.put, lA, lB, lC]
   refine tR (i := 4) (v := ?_) ?_ ?_; rotate_left
   ·
    intro w hSw; (try dsimp only at hSw); go_simp; try (with_reducible rfl)
   try simp only [Act.put, lA, lB, lC]
   refine tR (i := 5) (v := ?_) ?_ ?_; rotate_left
   ·
    intro w hSw; (try dsimp only at hSw); go_simp; try (with_reducible rfl)
   try simp only [Act.put, lA, lB, lC]
   refine tR (i := 6) (v := ?_) ?_ ?_; rotate_left
   ·
    intro w hSw; (try dsimp only at hSw); go_simp; try (with_reducible rfl)
   try simp only [Act.put, lA, lB, lC]
   refine tR (i := 7) (v := ?_) ?_ ?_; rotate_left
   ·
    intro w hSw; (try dsimp only at hSw); go_simp; try (with_reducible rfl)
   try simp only [Act.put, lA, lB, lC]
   refine tR (i := 8) (v := ?_) ?_ ?_; rotate_left
   ·
    intro w hSw; (try dsimp only at hSw); go_simp; try (with_reducible rfl)
   try simp only [Act.put, lA, lB, lC]
   refine tR (i := 9) (v := ?_) ?_ ?_; rotate_left
   ·
    intro w hSw; (try dsimp only at hSw); go_simp; try (with_reducible rfl)
   try simp only [Act.put, lA, lB, lC]
   refine tR (i := 10) (v := ?_) ?_ ?_; rotate_left
   ·
    intro w hSw; (try dsimp only at hSw); go_simp; try (with_reducible rfl)
   try simp only [Act.put, lA, lB, lC]
   refine tR (i := 11) (v := ?_) ?_ ?_; rotate_left
   ·
    intro w hSw; (try dsimp only at hSw); go_simp; try (with_reducible rfl)
   try simp only [Act.put, lA, lB, lC]
   refine tR (i := 12) (v := ?_) ?_ ?_; rotate_left
   ·
    intro w hSw; (try dsimp only at hSw); go_simp; try (with_reducible rfl)
   try simp only [Act.put, lA, lB, lC]
   refine tR (i := 13) (v := ?_) ?_ ?_; rotate_left
   ·
    intro w hSw; (try dsimp only at hSw); go_simp; try (with_reducible rfl)
   try simp only [Act.put, lA, lB, lC]
   refine tR (i := 14) (v := ?_) ?_ ?_; rotate_left
   ·
    intro w hSw; (try dsimp only at hSw); go_simp; try (with_reducible rfl)
   try simp only [Act.put, lA, lB, lC]
   refine tR (i := 15) (v := ?_) ?_ ?_; rotate_left
   ·
    intro w hSw; (try dsimp only at hSw); go_simp; try (with_reducible rfl)
   try simp only [Act.put, lA, lB, lC]
   refine tR (i := 16) (v := ?_) ?_ ?_; rotate_left
   ·
    intro w hSw; (try dsimp only at hSw); go_simp; try (with_reducible rfl)
   try simp only [Act.put, lA, lB, lC]
   refine tR (i := 17) (v := ?_) ?_ ?_; rotate_left
   ·
    intro w hSw; (try dsimp only at hSw); go_simp; try (with_reducible rfl)
   try simp only [Act.put, lA, lB, lC]
   refine tR (i := 18) (v := ?_) ?_ ?_; rotate_left
   ·
    intro w hSw; (try dsimp only at hSw); go_simp; try (with_reducible rfl)
   try simp only [Act.put, lA, lB, lC]
   refine tR (i := 19) (v := ?_) ?_ ?_; rotate_left
   ·
    intro w hSw; (try dsimp only at hSw); go_simp; try (with_reducible rfl)
   try simp only [Act.put, lA, lB, lC]
   refine tR (i := 20) (v := ?_) ?_ ?_; rotate_left
   ·
    intro w hSw; (try dsimp only at hSw); go_simp; try (with_reducible rfl)
   try simp only [Act.put, lA, lB, lC]
   refine wpAnyH_ready (rs := [21]) (by kernel_rfl) (by simp) ?_
   refine (AllReadyH.cons (o := _) (by simp only [hA, hB, hC]; rfl) (fun K hK => ?_) AllReadyH.nil)
   go_simp
   refine (specOne id bo di (.slice xa xs.length xc) xs Wd (slR_below tInt_law HX.out d.out) HXL.out).mono ?_
   rintro e w5 ⟨cs, rfl, ow, c5⟩
   have ox : tVersion.O w5 (fun q => wr.heap.size ≤ q) cs (id, xs, bo, di) := tVersion_law.mono ow (fun q hq => Nat.le_trans Z_dr.out hq)
   obtain ⟨u1, K1, rfl, o1, q1⟩ := tVersion_O ox
   obtain ⟨ua, uc, rfl⟩ := slO_len o1
   have PX := Lib.hid (slO_mono o1 q1)
   replace PP := Lib.hid (slO_fresh tVersion_law PP.out c5)
   replace d := Lib.hid (d.out.trans (c5.mono d.out.size))
   have Z_w5 := Lib.hid (show Wd.heap.size ≤ w5.heap.size from c5.size)
   clear c5 ow ox o1 q1
   have p_C0 := (d.out.cell (p := ⟨b, off + k * 4, none⟩) HBL.out).trans C0.out
   have p_C1 := (d.out.cell (p := ⟨b, off + k * 4 + 1, none⟩) HBL.out).trans C1.out
   have p_C2 := (d.out.cell (p := ⟨b, off + k * 4 + 2, none⟩) HBL.out).trans C2.out
   have p_C3 := (d.out.cell (p := ⟨b, off + k * 4 + 3, none⟩) HBL.out).trans C3.out
   refine hK.out _ _ ⟨p_C0, p_C1, p_C2, p_C3⟩ (fun hHeld => ?_)
   clear p_C0 p_C1 p_C2 p_C3
   clear hK K
   try simp only [Act.put, lA, lB, lC]
   refine wpAnyH_ready (rs := [22]) (by kernel_rfl) (by simp) ?_
   refine (AllReadyH.cons (o := _) (by simp only [hA, hB, hC]; rfl) (fun K hK => ?_) AllReadyH.nil)
   go_simp
   have hal : Below w5.heap.size w5 (w5.alloc (.cells #[.int .i64 id, .slice ua xs.length uc, .int .i64 bo, .int .i64 di] 88)) := (Below.refl _ _).alloc (Nat.le_refl _) _
   have Kd := d
   replace d := Lib.hid (d.out.trans (hal.mono d.out.size))
   clear hal
   have p_C0 := (d.out.cell (p := ⟨b, off + k * 4, none⟩) HBL.out).trans C0.out
   have p_C1 := (d.out.cell (p := ⟨b, off + k * 4 + 1, none⟩) HBL.out).trans C1.out
   have p_C2 := (d.out.cell (p := ⟨b, off + k * 4 + 2, none⟩) HBL.out).trans C2.out
   have p_C3 := (d.out.cell (p := ⟨b, off + k * 4 + 3, none⟩) HBL.out).trans C3.out
   refine hK.out _ _ ⟨p_C0, p_C1, p_C2, p_C3⟩ (fun hHeld => ?_)
   clear p_C0 p_C1 p_C2 p_C3
   clear hK K
   try simp only [Act.put, lA, lB, lC]
   refine wpAnyH_ready (rs := [23]) (by kernel_rfl) (by simp) ?_
   refine (AllReadyH.cons (o := _) (by simp only [hA, hB, hC]; rfl) (fun K hK => ?_) AllReadyH.nil)
   have y0 := ZR.out
   have y1 := Z_dr.out
   have y2 := Z_w5.out
   have yd := Kd.out.size
   have hD : wr.heap.size ≤ w5.heap.size := by omega
   have hnew : tVersion.O w5 (fun q => wr.heap.size ≤ q) [.int .i64 id, .slice ua xs.length uc, .int .i64 bo, .int .i64 di] (id, xs, bo, di) := tVersion_mkO PX.out (fun q hq => hq)
   refine step_append_T tVersion_law info_T_Version Try.underlying89 rfl rfl (.tmp 12) (.tmp 34) rfl (since w) wr.heap.size _ (ys) rfl PP.out hD (fun q hq => Nat.le_trans ZR.out hq) HYL.out [.int .i64 id, .slice ua xs.length uc, .int .i64 bo, .int .i64 di] (id, xs, bo, di) hnew (by simp [Value.oneCell']) 1 _ rfl rfl ?_
   intro v' w7 oN tN
   rw [HTK.out] at oN
   have PN := Lib.hid oN
   have DN := Lib.hid (below_turn Kd.out tN (fun q hq => hq.1) yd)
   clear hnew hD oN tN yd PX Kd d PP y0 y1 y2
   have p_C0 := (DN.out.cell (p := ⟨b, off + k * 4, none⟩) HBL.out).trans C0.out
   have p_C1 := (DN.out.cell (p := ⟨b, off + k * 4 + 1, none⟩) HBL.out).trans C1.out
   have p_C2 := (DN.out.cell (p := ⟨b, off + k * 4 + 2, none⟩) HBL.out).trans C2.out
   have p_C3 := (DN.out.cell (p := ⟨b, off + k * 4 + 3, none⟩) HBL.out).trans C3.out
   refine hK.out _ _ ⟨p_C0, p_C1, p_C2, p_C3⟩ (fun hHeld => ?_)
   clear p_C0 p_C1 p_C2 p_C3
   clear hK K
   try simp only [Act.put, lA, lB, lC]
   refine tR (i := 24) (v := ?_) ?_ ?_; rotate_left
   ·
    intro w hSw; (try dsimp only at hSw); go_simp; try (with_reducible rfl)
   try simp only [Act.put, lA, lB, lC]
   refine wpAnyH_done (by kernel_rfl) ?_ _
   clear hHeld
   go_wp2
   go_roundw
   case rel => exact ⟨k + 1, by omega, by go_num, PN.out, DN.out⟩
   case measure => simp [intOf]; omega
  ·
   obtain rfl : k = l.length := by omega
   rw [List.take_length] at hown
   obtain ⟨oa, oc, rfl⟩ := slO_len hown
   go_wp2
   go_ret
   exact ⟨_, rfl, hown, hbel⟩
end Go.Proofs.Ythiiaiholcfhhaa
