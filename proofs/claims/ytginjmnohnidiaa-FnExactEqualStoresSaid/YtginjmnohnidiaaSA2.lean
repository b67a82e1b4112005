/-
  Texts of the proof, merged: VerBr, VerSpec2, TCond, FlatT, VerSpec3, VerSpec4, BrRow, RowInsM, RowSort.
-/
import Derived.Test.YtginjmnohnidiaaSA1
import Derived.BigQuiet
import Derived.Deep.QuietTactic
import Derived.Deep.RegionHeld3
namespace Go.Proofs.Ytginjmnohnidiaa
open Go.RowKit
set_option linter.unusedVariables false
set_option linter.unusedSimpArgs false
theorem verR_at {w : World} {v : Value} {l : List VerD} (h : SlR tVersion w v l) {k : Nat} (hk : k < l.length) :
    ∃ (b off cap : Nat) (a : Option Addr) (c : Nat), v = .slice (some ⟨b, off, none⟩) l.length cap ∧ b < w.heap.size ∧
      w.cell? ⟨b, off + k * 4, none⟩ = some (.int .i64 (l.getD k v0D).1) ∧ w.cell? ⟨b, off + k * 4 + 1, none⟩ = some (.slice a (l.getD k v0D).2.1.length c) ∧
      w.cell? ⟨b, off + k * 4 + 2, none⟩ = some (.int .i64 (l.getD k v0D).2.2.1) ∧ w.cell? ⟨b, off + k * 4 + 3, none⟩ = some (.int .i64 (l.getD k v0D).2.2.2) ∧
      Ints w (.slice a (l.getD k v0D).2.1.length c) (l.getD k v0D).2.1 := by
  obtain ⟨b, off, cap, cs, hv, hb, hc, hR⟩ := slR_at h hk
  change tVersion.R w cs (l.getD k v0D) at hR
  generalize l.getD k v0D = r at *
  obtain ⟨i, xs, bo, di⟩ := r
  obtain ⟨v1, rfl, h1⟩ := tVersion_R hR
  obtain ⟨a, c, rfl⟩ := slR_len h1
  exact ⟨b, off, cap, a, c, hv, hb, hc 0 (by decide), hc 1 (by decide), hc 2 (by decide), hc 3 (by decide), slR_ints h1⟩
theorem one_Version : OneC tVersion := fun {w cs x} h u hu => by
  obtain ⟨i, xs, bo, di⟩ := x
  obtain ⟨v1, rfl, h1⟩ := tVersion_R h
  obtain ⟨a, c, rfl⟩ := slR_len h1
  simp at hu
  rcases hu with rfl | rfl | rfl | rfl <;> rfl
theorem info_R_Version : ElemInfo (tRaw 4) 62 (.agg #[.int .i64 0, .slice none 0 0, .int .i64 0, .int .i64 0]) := elemInfo_of (by kernel_rfl)
theorem zL_sum {α : Type} (T : Ty α) (xs : List α) : zL T xs = xs.length + (xs.map T.sz).sum := by unfold zL zTo sumN; rw [List.take_length]
theorem ver_sz (v : VerD) : tVersion.sz v = v.2.1.length := by
  obtain ⟨i, xs, bo, di⟩ := v
  rw [tVersion_sz, zL_ints]
theorem zL_all (ss : List (List VerD)) : ss.length + zL tVersion ss.flatten = zL tVersionS ss := by
  rw [zL_sum tVersionS, zL_sum tVersion]
  congr 1
  induction ss with
  | nil => rfl
  | cons s ss ih =>
    rw [List.flatten_cons, List.length_append, List.map_append, List.sum_append, List.map_cons, List.sum_cons, ← ih]
    have e : tVersionS.sz s = s.length + (s.map tVersion.sz).sum := zL_sum tVersion s
    rw [e]; omega
theorem zL_seg {ss : List (List VerD)} {k : Nat} (hk : k < ss.length) : zL tVersion (ss.getD k []) ≤ zL tVersionS ss := zL_at (T := tVersionS) (Nat.le_refl _) hk
theorem ver_len {l : List VerD} (hs : zL tVersion l ≤ 1048576) {k : Nat} (hk : k < l.length) : (l.getD k v0D).2.1.length ≤ 1048576 := by
  have := zL_at (T := tVersion) hs hk
  rw [ver_sz] at this
  exact this
end Go.Proofs.Ytginjmnohnidiaa
namespace Go.Proofs.Ytginjmnohnidiaa
open Go.RowKit
set_option linter.unusedVariables false
set_option linter.unusedSimpArgs false
set_option maxHeartbeats 8000000 in
set_option maxRecDepth 100000 in
theorem specVersion (id born died now : Int) (vv : Value) (xs : List Int) (w : World) (h : Ints w vv xs) (hn : xs.length ≤ 1048576) (hw : now ≤ 100000) :
    Calls Try.prog 80 #[.agg #[.int .i64 id, vv, .int .i64 born, .int .i64 died], .int .i64 now] w fun e w' => e = .returned (.bool (verB (id, xs, born, died) now)) ∧ Below w.heap.size w w' := by
  have HR := Lib.hid (fun W g => specIsRow id vv xs W g hn)
  have H := Lib.hid h
  clear hn
  obtain ⟨va, vc, rfl⟩ := ints_len h
  have d0 := Lib.hid (show Below w.heap.size w (w.alloc (.cells #[.int .i64 id, .slice va xs.length vc, .int .i64 born, .int .i64 died] 62)) from (Below.refl _ _).alloc (Nat.le_refl _) _)
  have B0 : Hid ((w.alloc (.cells #[.int .i64 id, .slice va xs.length vc, .int .i64 born, .int .i64 died] 62)).heap[w.heap.size]? = some (.cells #[.int .i64 id, .slice va xs.length vc, .int .i64 born, .int .i64 died] 62 (0, 0))) := Lib.hid (heap_alloc_new w _)
  have Y0 : Hid (w.heap.size < (w.alloc (.cells #[.int .i64 id, .slice va xs.length vc, .int .i64 born, .int .i64 died] 62)).heap.size) := Lib.hid (by simp [World.size_alloc])
  have HV : Hid (∀ r l, rowB (id, xs) = r → decide (lifeP born died now) = l → verB (id, xs, born, died) now = (r && l)) := Lib.hid (fun r l h1 h2 => by unfold verB; rw [h1]; show (r && decide (lifeP born died now)) = _; rw [h2])
  clear h
  cases hr : rowB (id, xs) with
  | false =>
    rw [hr] at HR
    rw [HV.out _ _ hr rfl, Bool.false_and]
    clear hr HV
    go_enter Try.func80, Try.ntmps80
    go_wp2_with fail
    generalize w.alloc (.cells #[.int .i64 id, .slice va xs.length vc, .int .i64 born, .int .i64 died] 62) = W at *
    refine (HR.out W (ints_below H.out d0.out)).mono ?_
    rintro e w1 ⟨rfl, b1⟩
    have k0 := (b1.block w.heap.size Y0.out).trans B0.out
    have b2 := d0.out.trans (b1.mono d0.out.size)
    go_wp2
    go_ret
    exact ⟨rfl, b2⟩
  | true =>
    rw [hr] at HR
    have HV2 := Lib.hid (fun l => HV.out _ l hr)
    clear hr HV
    by_cases h1 : 0 ≤ born ∧ born ≤ now
    · obtain ⟨h1a, h1b⟩ := h1
      by_cases h2 : died = -1
      · have hl : decide (lifeP born died now) = true := decide_eq_true ⟨h1a, h1b, Or.inl h2⟩
        rw [HV2.out _ hl]
        have e2 : (died == -1) = true := by simp [h2]
        clear hl h2
        go_enter Try.func80, Try.ntmps80
        go_wp2_with fail
        generalize w.alloc (.cells #[.int .i64 id, .slice va xs.length vc, .int .i64 born, .int .i64 died] 62) = W at *
        refine (HR.out W (ints_below H.out d0.out)).mono ?_
        rintro e w1 ⟨rfl, b1⟩
        have k0 := (b1.block w.heap.size Y0.out).trans B0.out
        have b2 := d0.out.trans (b1.mono d0.out.size)
        have p0 := (cell_of_row w1 _ 0 _ _ _ k0).trans (show _ = some (Value.int .i64 id) from rfl)
        have p1 := (cell_of_row w1 _ 1 _ _ _ k0).trans (show _ = some (Value.slice va xs.length vc) from rfl)
        have p2 := (cell_of_row w1 _ 2 _ _ _ k0).trans (show _ = some (Value.int .i64 born) from rfl)
        have p3 := (cell_of_row w1 _ 3 _ _ _ k0).trans (show _ = some (Value.int .i64 died) from rfl)
        clear k0
        go_wp2_with fail
        refine (in_yes born 0 now _ h1a h1b).mono ?_
        rintro e wx ⟨rfl, rfl⟩
        go_wp2
        go_ret
        exact ⟨rfl, b2⟩
      · have e2 : (died == -1) = false := by simp [h2]
        by_cases h3 : born + 1 ≤ died ∧ died ≤ now
        · have hl : decide (lifeP born died now) = true := decide_eq_true ⟨h1a, h1b, Or.inr ⟨by omega, h3.2⟩⟩
          rw [HV2.out _ hl]
          have H3 := Lib.hid h3
          clear hl h2 h3
          go_enter Try.func80, Try.ntmps80
          go_wp2_with fail
          generalize w.alloc (.cells #[.int .i64 id, .slice va xs.length vc, .int .i64 born, .int .i64 died] 62) = W at *
          refine (HR.out W (ints_below H.out d0.out)).mono ?_
          rintro e w1 ⟨rfl, b1⟩
          have k0 := (b1.block w.heap.size Y0.out).trans B0.out
          have b2 := d0.out.trans (b1.mono d0.out.size)
          have p0 := (cell_of_row w1 _ 0 _ _ _ k0).trans (show _ = some (Value.int .i64 id) from rfl)
          have p1 := (cell_of_row w1 _ 1 _ _ _ k0).trans (show _ = some (Value.slice va xs.length vc) from rfl)
          have p2 := (cell_of_row w1 _ 2 _ _ _ k0).trans (show _ = some (Value.int .i64 born) from rfl)
          have p3 := (cell_of_row w1 _ 3 _ _ _ k0).trans (show _ = some (Value.int .i64 died) from rfl)
          clear k0
          go_wp2_with fail
          refine (in_yes born 0 now _ h1a h1b).mono ?_
          rintro e wx ⟨rfl, rfl⟩
          go_wp2_with fail
          refine (in_yes died (born + 1) now _ H3.out.1 H3.out.2).mono ?_
          rintro e wx ⟨rfl, rfl⟩
          go_wp2
          go_ret
          exact ⟨rfl, b2⟩
        · have hl : decide (lifeP born died now) = false := decide_eq_false (fun g => by unfold lifeP at g; omega)
          rw [HV2.out _ hl]
          have H3 := Lib.hid h3
          clear hl h2 h3
          go_enter Try.func80, Try.ntmps80
          go_wp2_with fail
          generalize w.alloc (.cells #[.int .i64 id, .slice va xs.length vc, .int .i64 born, .int .i64 died] 62) = W at *
          refine (HR.out W (ints_below H.out d0.out)).mono ?_
          rintro e w1 ⟨rfl, b1⟩
          have k0 := (b1.block w.heap.size Y0.out).trans B0.out
          have b2 := d0.out.trans (b1.mono d0.out.size)
          have p0 := (cell_of_row w1 _ 0 _ _ _ k0).trans (show _ = some (Value.int .i64 id) from rfl)
          have p1 := (cell_of_row w1 _ 1 _ _ _ k0).trans (show _ = some (Value.slice va xs.length vc) from rfl)
          have p2 := (cell_of_row w1 _ 2 _ _ _ k0).trans (show _ = some (Value.int .i64 born) from rfl)
          have p3 := (cell_of_row w1 _ 3 _ _ _ k0).trans (show _ = some (Value.int .i64 died) from rfl)
          clear k0
          go_wp2_with fail
          refine (in_yes born 0 now _ h1a h1b).mono ?_
          rintro e wx ⟨rfl, rfl⟩
          go_wp2_with fail
          refine (in_no died (born + 1) now _ H3.out).mono ?_
          rintro e wx ⟨rfl, rfl⟩
          go_wp2
          go_ret
          exact ⟨rfl, b2⟩
    · have hl : decide (lifeP born died now) = false := decide_eq_false (fun g => h1 ⟨g.1, g.2.1⟩)
      rw [HV2.out _ hl]
      have H1 := Lib.hid h1
      clear hl h1
      go_enter Try.func80, Try.ntmps80
      go_wp2_with fail
      generalize w.alloc (.cells #[.int .i64 id, .slice va xs.length vc, .int .i64 born, .int .i64 died] 62) = W at *
      refine (HR.out W (ints_below H.out d0.out)).mono ?_
      rintro e w1 ⟨rfl, b1⟩
      have k0 := (b1.block w.heap.size Y0.out).trans B0.out
      have b2 := d0.out.trans (b1.mono d0.out.size)
      have p0 := (cell_of_row w1 _ 0 _ _ _ k0).trans (show _ = some (Value.int .i64 id) from rfl)
      have p1 := (cell_of_row w1 _ 1 _ _ _ k0).trans (show _ = some (Value.slice va xs.length vc) from rfl)
      have p2 := (cell_of_row w1 _ 2 _ _ _ k0).trans (show _ = some (Value.int .i64 born) from rfl)
      have p3 := (cell_of_row w1 _ 3 _ _ _ k0).trans (show _ = some (Value.int .i64 died) from rfl)
      clear k0
      go_wp2_with fail
      refine (in_no born 0 now _ H1.out).mono ?_
      rintro e wx ⟨rfl, rfl⟩
      go_wp2
      go_ret
      exact ⟨rfl, b2⟩
set_option maxHeartbeats 8000000 in
set_option maxRecDepth 100000 in
theorem specApart (i1 b1 d1 i2 b2 d2 : Int) (v1 v2 : Value) (w : World) :
    Calls Try.prog 81 #[.agg #[.int .i64 i1, v1, .int .i64 b1, .int .i64 d1], .agg #[.int .i64 i2, v2, .int .i64 b2, .int .i64 d2]] w fun e w' => e = .returned (.bool (decide (apartP i1 b1 d1 i2 b2 d2))) ∧ Below w.heap.size w w' := by
  have hb : Below w.heap.size w ((w.alloc (.cells #[.int .i64 i1, v1, .int .i64 b1, .int .i64 d1] 62)).alloc (.cells #[.int .i64 i2, v2, .int .i64 b2, .int .i64 d2] 62)) := ((Below.refl _ w).alloc (Nat.le_refl _) _).alloc (by simp) _
  by_cases q1 : i1 = i2
  · have e1 : (i1 != i2) = false := by simp [q1]
    have Q1 := Lib.hid q1
    clear q1
    by_cases q2 : d1 = -1
    · have e2 : (d1 != -1) = false := by simp [q2]
      have Q2 := Lib.hid q2
      clear q2
      by_cases q4 : d2 = -1
      · have e4 : (d2 != -1) = false := by simp [q4]
        have HD : Hid (decide (apartP i1 b1 d1 i2 b2 d2) = false) := Lib.hid (by have h1 := Q1.out; have h2 := Q2.out; exact decide_eq_false (fun g => by unfold apartP at g; omega))
        rw [HD.out]
        clear q4
        go_enter Try.func81, Try.ntmps81
        go_wp2
        go_ret
        exact ⟨ret_b (by first | rfl | simp [*]), hb⟩
      · have e4 : (d2 != -1) = true := by simp [q4]
        by_cases q5 : d2 ≤ b1
        · have q6 : d2 ≤ b1 := q5
          have HD : Hid (decide (apartP i1 b1 d1 i2 b2 d2) = true) := Lib.hid (decide_eq_true (Or.inr (Or.inr ⟨q4, q5⟩)))
          rw [HD.out]
          clear q4
          go_enter Try.func81, Try.ntmps81
          go_wp2
          go_ret
          exact ⟨ret_b (by first | rfl | simp [*]), hb⟩
        · have e5 : decide (d2 ≤ b1) = false := decide_eq_false q5
          have HD : Hid (decide (apartP i1 b1 d1 i2 b2 d2) = false) := Lib.hid (by have h1 := Q1.out; have h2 := Q2.out; exact decide_eq_false (fun g => by unfold apartP at g; omega))
          rw [HD.out]
          clear q4
          go_enter Try.func81, Try.ntmps81
          go_wp2
          go_ret
          exact ⟨ret_b (by first | rfl | simp [*]), hb⟩
    · have e2 : (d1 != -1) = true := by simp [q2]
      have Q2 := Lib.hid q2
      clear q2
      by_cases q3 : d1 ≤ b2
      · have q6 : d1 ≤ b2 := q3
        have HD : Hid (decide (apartP i1 b1 d1 i2 b2 d2) = true) := Lib.hid (decide_eq_true (Or.inr (Or.inl ⟨Q2.out, q3⟩)))
        rw [HD.out]
        go_enter Try.func81, Try.ntmps81
        go_wp2
        go_ret
        exact ⟨ret_b (by first | rfl | simp [*]), hb⟩
      · have e3 : decide (d1 ≤ b2) = false := decide_eq_false q3
        have Q3 := Lib.hid q3
        by_cases q4 : d2 = -1
        · have e4 : (d2 != -1) = false := by simp [q4]
          have HD : Hid (decide (apartP i1 b1 d1 i2 b2 d2) = false) := Lib.hid (by have h1 := Q1.out; have h2 := Q2.out; have h3 := Q3.out; exact decide_eq_false (fun g => by unfold apartP at g; omega))
          rw [HD.out]
          clear q4
          go_enter Try.func81, Try.ntmps81
          go_wp2
          go_ret
          exact ⟨ret_b (by first | rfl | simp [*]), hb⟩
        · have e4 : (d2 != -1) = true := by simp [q4]
          by_cases q5 : d2 ≤ b1
          · have q6 : d2 ≤ b1 := q5
            have HD : Hid (decide (apartP i1 b1 d1 i2 b2 d2) = true) := Lib.hid (decide_eq_true (Or.inr (Or.inr ⟨q4, q5⟩)))
            rw [HD.out]
            clear q4
            go_enter Try.func81, Try.ntmps81
            go_wp2
            go_ret
            exact ⟨ret_b (by first | rfl | simp [*]), hb⟩
          · have e5 : decide (d2 ≤ b1) = false := decide_eq_false q5
            have HD : Hid (decide (apartP i1 b1 d1 i2 b2 d2) = false) := Lib.hid (by have h1 := Q1.out; have h2 := Q2.out; have h3 := Q3.out; exact decide_eq_false (fun g => by unfold apartP at g; omega))
            rw [HD.out]
            clear q4
            go_enter Try.func81, Try.ntmps81
            go_wp2
            go_ret
            exact ⟨ret_b (by first | rfl | simp [*]), hb⟩
  · have e1 : (i1 != i2) = true := by simp [q1]
    have HD : Hid (decide (apartP i1 b1 d1 i2 b2 d2) = true) := Lib.hid (decide_eq_true (Or.inl q1))
    rw [HD.out]
    clear q1
    go_enter Try.func81, Try.ntmps81
    go_wp2
    go_ret
    exact ⟨ret_b (by first | rfl | simp [*]), hb⟩
/-- The answer: a slice of the call's own whose cells read as these versions. -/
def AllV (w : World) (l : List VerD) (e : Ending) (w' : World) : Prop := ∃ (v : Value) (L : List (List Value)), e = .returned v ∧ SlO 62 (tRaw 4) w' (since w) v L ∧ Sh tVersion w L l ∧ Below w.heap.size w w'
set_option maxHeartbeats 8000000 in
set_option maxRecDepth 100000 in
theorem specL7All (sv : Value) (ss : List (List VerD)) (now : Int) (w : World) (h : SlR tVersionS w sv ss) (hs : zL tVersionS ss ≤ 1048576) :
    Calls Try.prog 79 #[.agg #[sv, .int .i64 now]] w (AllV w ss.flatten) := by
  have H := Lib.hid h
  have HS := Lib.hid hs
  have hlen := zL_len hs
  have HF : Hid (ss.flatten.length ≤ 1048576) := Lib.hid (by have h1 := zL_all ss; have h2 := zL_len (T := tVersion) (xs := ss.flatten) (M := 1048576) (by omega); omega)
  obtain ⟨a, cap, rfl⟩ := slR_len h
  clear h hs
  have d0 := Lib.hid (show Below w.heap.size w ((w.alloc (.cells #[.slice a ss.length cap, .int .i64 now] 45)).alloc (.cells #[] 62)) from ((Below.refl _ _).alloc (Nat.le_refl _) _).alloc (by simp) _)
  have B0 : Hid (((w.alloc (.cells #[.slice a ss.length cap, .int .i64 now] 45)).alloc (.cells #[] 62)).heap[w.heap.size]? = some (.cells #[.slice a ss.length cap, .int .i64 now] 45 (0, 0))) := Lib.hid (by rw [Below.heap_alloc _ _ _ (by simp)]; exact heap_alloc_new w _)
  have Y0 : Hid (w.heap.size < ((w.alloc (.cells #[.slice a ss.length cap, .int .i64 now] 45)).alloc (.cells #[] 62)).heap.size) := Lib.hid (by simp [World.size_alloc]; omega)
  have P0 : Hid (SlO 62 (tRaw 4) ((w.alloc (.cells #[.slice a ss.length cap, .int .i64 now] 45)).alloc (.cells #[] 62)) (fun b => w.heap.size < b) (.slice (some ⟨w.heap.size + 1, 0, none⟩) 0 0) []) := Lib.hid (by have := slO_empty (T := tRaw 4) (w.alloc (.cells #[.slice a ss.length cap, .int .i64 now] 45)) 62 (fun b => w.heap.size < b) (by simp [World.size_alloc]); simpa only [World.size_alloc] using this)
  go_enter Try.func79, Try.ntmps79
  go_wp2
  go_loopw [3, 4] (fun o i wr => ∃ (k : Nat) (L : List (List Value)), k ≤ ss.length ∧ i = .int .i64 k ∧ SlO 62 (tRaw 4) wr (fun b => w.heap.size < b) o L ∧ Hid (Sh tVersion w L (cat ss k)) ∧ wr.heap[w.heap.size]? = some (.cells #[.slice a ss.length cap, .int .i64 now] 45 (0, 0)) ∧ Below w.heap.size w wr ∧ w.heap.size < wr.heap.size) (fun _ i _ => ss.length - (intOf i).toNat)
  case atStart => exact ⟨0, [], Nat.zero_le _, rfl, P0.out, Lib.hid (by rw [cat_zero]; exact sh_nil w), B0.out, d0.out, Y0.out⟩
  case round =>
    obtain ⟨k, L, hk, rfl, hown, hsh, hbox, hbel, hy⟩ := hrel
    clear d0 B0 Y0 P0
    obtain ⟨oa, oc, rfl⟩ := slO_len hown
    have c0 := (cell_of_row wr _ 0 _ _ _ hbox).trans (show _ = some (Value.slice a ss.length cap) from rfl)
    by_cases hlt : k < ss.length
    · obtain ⟨b, off, cap2, cs, hv, hbl, hcs, hR⟩ := slR_at H.out hlt
      simp only [Value.slice.injEq] at hv
      obtain ⟨rfl, _, rfl⟩ := hv
      obtain ⟨u, rfl, hU⟩ := hR
      have p0 : w.cell? ⟨b, off + k, none⟩ = some u := by have := hcs 0 Nat.one_pos; rw [show tVersionS.n = 1 from rfl, Nat.mul_one, Nat.add_zero] at this; exact this
      have hel := (hbel.cell (p := ⟨b, off + k, none⟩) hbl).trans p0
      obtain ⟨M, hM, hSh⟩ := slR_raw tVersion_law one_Version hU
      have HM := Lib.hid (slR_below (tRaw_law (by decide)) hM hbel)
      have HC : Hid (Sh tVersion w (L ++ M) (cat ss (k + 1))) := Lib.hid (by rw [← cat_step hlt]; exact sh_app hsh.out hSh)
      have HL : Hid (L.length + M.length ≤ 2097152) := Lib.hid (by have h1 := sh_len HC.out; have h2 := cat_le ss (k + 1); have h3 := HF.out; rw [List.length_append] at h1; omega)
      have i1 : (0 : Int) ≤ (k : Int) := by omega
      have i2 : (k : Int) < (ss.length : Int) := by omega
      obtain ⟨ua, uc, hu⟩ := slR_len hU
      have HOWN := Lib.hid hown
      have HB := Lib.hid hbox
      have HY := Lib.hid hy
      have HD := Lib.hid hbel
      have HUV : Hid (∃ m, u = .slice ua m uc) := Lib.hid ⟨_, hu⟩
      clear hcs p0 hU hM hSh hsh hown hbox hu hbel hy
      obtain ⟨m, rfl⟩ := HUV.out
      clear HUV
      go_wp2_with (at_builtin; refine append_flat (tRaw_law (by decide)) (flat_raw 4) info_R_Version Try.underlying97 rfl rfl (.tmp 13) (.tmp 18) rfl (fun b => w.heap.size < b) (fun b => w.heap.size < b) _ _ L M rfl rfl HOWN.out HM.out (fun b h => h) HY.out HL.out ?_)
      intro v' w4 ho4 t4
      have hb4 := (t4.block w.heap.size HY.out (fun h => Nat.lt_irrefl _ h)).trans HB.out
      have hy4 := Nat.lt_of_lt_of_le HY.out t4.size
      have hd4 := below_turn HD.out t4 (fun b h => Nat.le_of_lt h) (Nat.le_of_lt HY.out)
      clear HOWN HM HL HB HY HD t4 c0 hel
      go_wp2
      go_roundw
      case rel => exact ⟨k + 1, _, by omega, by go_num, ho4, HC, hb4, hd4, hy4⟩
      case measure => simp [intOf]; omega
    · obtain rfl : k = ss.length := by omega
      have HC : Hid (Sh tVersion w L ss.flatten) := Lib.hid (by rw [← cat_all]; exact hsh.out)
      clear hsh
      go_wp2
      go_ret
      exact ⟨_, L, rfl, slO_mono hown (fun b h => Nat.le_of_lt h), HC.out, hbel⟩
end Go.Proofs.Ytginjmnohnidiaa
namespace Go.Proofs.Ytginjmnohnidiaa
open Go.RowKit
set_option linter.unusedVariables false
set_option linter.unusedSimpArgs false
end Go.Proofs.Ytginjmnohnidiaa
namespace Go.Proofs.Ytginjmnohnidiaa
open Go.RowKit
set_option linter.unusedVariables false
end Go.Proofs.Ytginjmnohnidiaa
namespace Go.Proofs.Ytginjmnohnidiaa
open Go.RowKit
set_option linter.unusedVariables false
set_option linter.unusedSimpArgs false
set_option maxHeartbeats 8000000 in
set_option maxRecDepth 100000 in
theorem specCountVersions (sv : Value) (ss : List (List VerD)) (now : Int) (w : World) (h : SlR tVersionS w sv ss) (hs : zL tVersionS ss ≤ 1048576) :
    Calls Try.prog 43 #[.agg #[sv, .int .i64 now]] w (fun e w' => e = .returned (.int .i64 ss.flatten.length) ∧ Below w.heap.size w w') := by
  obtain ⟨a, cap, rfl⟩ := slR_len h
  have HC := Lib.hid (fun W g => specL7All (.slice a ss.length cap) ss now W g hs)
  have H := Lib.hid h
  have d0 := Lib.hid (show Below w.heap.size w (w.alloc (.cells #[.slice a ss.length cap, .int .i64 now] 45)) from (Below.refl _ _).alloc (Nat.le_refl _) _)
  clear h hs
  go_enter Try.func43, Try.ntmps43
  go_wp2_with fail
  generalize w.alloc (.cells #[.slice a ss.length cap, .int .i64 now] 45) = W at *
  refine (HC.out W (slR_below tVersionS_law H.out d0.out)).mono ?_
  rintro e w1 ⟨v, L, rfl, hown, hsh, b1⟩
  obtain ⟨va, vc, rfl⟩ := slO_len hown
  have HE := Lib.hid (sh_len hsh)
  have b2 := d0.out.trans (b1.mono d0.out.size)
  clear hsh hown
  go_wp2
  go_ret
  exact ⟨by rw [HE.out]; rfl, b2⟩
end Go.Proofs.Ytginjmnohnidiaa
namespace Go.Proofs.Ytginjmnohnidiaa
open Go.RowKit
set_option linter.unusedVariables false
set_option linter.unusedSimpArgs false
set_option maxHeartbeats 8000000 in
set_option maxRecDepth 100000 in
theorem specIsStore (sv : Value) (ss : List (List VerD)) (now : Int) (w : World) (h : SlR tVersionS w sv ss) (hs : zL tVersionS ss ≤ 1048576) :
    Calls Try.prog 31 #[.agg #[sv, .int .i64 now]] w (fun e w' => e = .returned (.bool (storeB ss now)) ∧ Below w.heap.size w w') := by
  have hlen := zL_len hs
  obtain ⟨a, cap, rfl⟩ := slR_len h
  have HC := Lib.hid (fun W g => specL7All (.slice a ss.length cap) ss now W g hs)
  have HZF : Hid (zL tVersion ss.flatten ≤ 1048576) := Lib.hid (by have := zL_all ss; omega)
  have H := Lib.hid h
  have HS := Lib.hid hs
  have d0 := Lib.hid (show Below w.heap.size w (w.alloc (.cells #[.slice a ss.length cap, .int .i64 now] 45)) from (Below.refl _ _).alloc (Nat.le_refl _) _)
  have B0 : Hid ((w.alloc (.cells #[.slice a ss.length cap, .int .i64 now] 45)).heap[w.heap.size]? = some (.cells #[.slice a ss.length cap, .int .i64 now] 45 (0, 0))) := Lib.hid (heap_alloc_new w _)
  have Y0 : Hid (w.heap.size < (w.alloc (.cells #[.slice a ss.length cap, .int .i64 now] 45)).heap.size) := Lib.hid (by simp [World.size_alloc])
  clear h hs
  by_cases hc : 1 ≤ ss.length ∧ ss.length ≤ 8
  rotate_left
  · have HF := Lib.hid (store_no_count (now := now) hc)
    have HI := Lib.hid (fun W => in_no (ss.length : Int) 1 8 W (by omega))
    clear hc
    rw [HF.out]
    go_enter Try.func31, Try.ntmps31
    go_wp2_with fail
    refine (HI.out _).mono ?_
    rintro e wx ⟨rfl, rfl⟩
    go_wp2
    go_ret
    exact ⟨rfl, d0.out⟩
  have HI1 := Lib.hid (fun W => in_yes (ss.length : Int) 1 8 W (by omega) (by omega))
  have HCN := Lib.hid hc
  by_cases hn : 0 ≤ now ∧ now ≤ 100000
  rotate_left
  · have HF := Lib.hid (store_no_now (ss := ss) hn)
    have HI := Lib.hid (fun W => in_no now 0 100000 W hn)
    clear hn
    rw [HF.out]
    go_enter Try.func31, Try.ntmps31
    go_wp2_with fail
    refine (HI1.out _).mono ?_
    rintro e wx ⟨rfl, rfl⟩
    go_wp2_with fail
    refine (HI.out _).mono ?_
    rintro e wx ⟨rfl, rfl⟩
    go_wp2
    go_ret
    exact ⟨rfl, d0.out⟩
  have HI2 := Lib.hid (fun W => in_yes now 0 100000 W hn.1 hn.2)
  have HNN := Lib.hid hn
  clear hc hn
  go_enter Try.func31, Try.ntmps31
  go_wp2_with fail
  refine (HI1.out _).mono ?_
  rintro e wx ⟨rfl, rfl⟩
  go_wp2_with fail
  refine (HI2.out _).mono ?_
  rintro e wx ⟨rfl, rfl⟩
  go_wp2
  generalize w.alloc (.cells #[.slice a ss.length cap, .int .i64 now] 45) = W at *
  have q0 := (cell_of_row W _ 0 _ _ _ B0.out).trans (show _ = some (Value.slice a ss.length cap) from rfl)
  have q1 := (cell_of_row W _ 1 _ _ _ B0.out).trans (show _ = some (Value.int .i64 now) from rfl)
  have G0 := Lib.hid q0
  have G1 := Lib.hid q1
  have HW := Lib.hid (slR_below tVersionS_law H.out d0.out)
  clear q0 q1 B0
  go_loopw [3] (fun i wr => ∃ k : Nat, k ≤ ss.length ∧ i = .int .i64 k ∧ Hid (ShortP ss k) ∧ Below W.heap.size W wr) (fun i _ => ss.length - (intOf i).toNat)
  case atStart => exact ⟨0, Nat.zero_le _, rfl, Lib.hid (fun j hj => by omega), Below.refl _ _⟩
  case round =>
    obtain ⟨k, hk, rfl, hsh, hbel⟩ := hrel
    have p0 := (hbel.cell (p := ⟨w.heap.size, 0, none⟩) Y0.out).trans G0.out
    have p1 := (hbel.cell (p := ⟨w.heap.size, 1, none⟩) Y0.out).trans G1.out
    by_cases hlt : k < ss.length
    · have i1 : (0 : Int) ≤ (k : Int) := by omega
      have i2 : (k : Int) < (ss.length : Int) := by omega
      obtain ⟨b, off, cap', cs, hv, hbl, hcs, hR⟩ := slR_at HW.out hlt
      simp only [Value.slice.injEq] at hv
      obtain ⟨rfl, _, rfl⟩ := hv
      obtain ⟨u, rfl, hU⟩ := hR
      change SlR tVersion W u (ss.getD k []) at hU
      have pe : W.cell? ⟨b, off + k, none⟩ = some u := by have := hcs 0 Nat.one_pos; rw [show tVersionS.n = 1 from rfl, Nat.mul_one, Nat.add_zero] at this; exact this
      have he := (hbel.cell (p := ⟨b, off + k, none⟩) hbl).trans pe
      have HNO := Lib.hid (fun g => store_no_short (ss := ss) (now := now) hlt g)
      have HYS : Hid ((ss.getD k []).length ≤ 4 → ShortP ss (k + 1)) := Lib.hid (fun g j hj => by
        by_cases e : j = k
        · rw [e]; exact g
        · exact hsh.out j (by omega))
      have HML := Lib.hid (zL_len (show zL tVersion (ss.getD k []) ≤ 1048576 from Nat.le_trans (zL_seg hlt) HS.out))
      obtain ⟨ua, uc, rfl⟩ := slR_len hU
      have HB := Lib.hid hbel
      clear hcs pe hU hsh hbel
      generalize (ss.getD k []).length = m at *
      by_cases hm : m ≤ 4
      · have HY := Lib.hid (HYS.out hm)
        have hmi : ¬ (4 : Int) < (m : Int) := by omega
        clear HYS HNO
        go_wp2
        go_roundw
        case rel => exact ⟨k + 1, by omega, by go_num, HY, HB.out⟩
        case measure => simp [intOf]; omega
      · have HF := Lib.hid (HNO.out hm)
        have hmi : (4 : Int) < (m : Int) := by omega
        clear HYS HNO
        go_wp2
        go_ret
        exact ⟨ret_b HF.out.symm, d0.out.trans (HB.out.mono d0.out.size)⟩
    · obtain rfl : k = ss.length := by omega
      have HSH := Lib.hid hsh.out
      clear hsh
      have HB := Lib.hid hbel
      clear hbel
      go_wp2_with fail
      refine (HC.out wr (slR_below tVersionS_law HW.out HB.out)).mono ?_
      rintro e w1 ⟨v, L, rfl, hown, hshv, b1⟩
      have hVR := raw_reads (T := tVersion) (by decide) hown (sh_below tVersion_law hshv b1)
      obtain ⟨va, vc, rfl⟩ := slO_len hown
      rw [sh_len hshv] at *
      have V := Lib.hid hVR
      have b2 := HB.out.trans (b1.mono HB.out.size)
      have D1 := Lib.hid (d0.out.trans (b2.mono d0.out.size))
      have CN := Lib.hid ((b2.cell (p := ⟨w.heap.size, 1, none⟩) Y0.out).trans G1.out)
      have YN := Lib.hid (Nat.lt_of_lt_of_le Y0.out b2.size)
      have HFL := Lib.hid (zL_len HZF.out)
      clear hVR hown hshv b1 b2 HB p0 p1 HW G0 G1
      have hfl := HFL.out
      obtain ⟨l, hl⟩ : ∃ l, l = ss.flatten := ⟨_, rfl⟩
      have HLL := Lib.hid hl
      rw [← hl] at V HFL hfl ⊢
      clear hl
      go_wp2
      go_loopw [5] (fun i wr => ∃ k : Nat, k ≤ l.length ∧ i = .int .i64 k ∧ Hid (VersP l now k) ∧ Below w1.heap.size w1 wr) (fun i _ => l.length - (intOf i).toNat)
      case atStart => exact ⟨0, Nat.zero_le _, rfl, Lib.hid (fun j hj => by omega), Below.refl _ _⟩
      case round =>
        obtain ⟨k, hk, rfl, hvs, hbel⟩ := hrel
        by_cases hlt : k < l.length
        · have i1 : (0 : Int) ≤ (k : Int) := by omega
          have i2 : (k : Int) < (l.length : Int) := by omega
          obtain ⟨b, off, cap', xa, xc, hv, hbl, c0, c1, c2, c3, hx⟩ := verR_at V.out hlt
          simp only [Value.slice.injEq] at hv
          obtain ⟨rfl, _, rfl⟩ := hv
          have HXL := Lib.hid (ver_len (by rw [HLL.out]; exact HZF.out) hlt)
          have HNV : Hid (verB (l.getD k v0D) now = false → storeB ss now = false) := Lib.hid (fun g => store_no_ver (i := k) (by rw [← HLL.out]; exact hlt) (by rw [← HLL.out]; exact g))
          have HNA : Hid (∀ j, j < k → apartB (l.getD k v0D) (l.getD j v0D) = false → storeB ss now = false) := Lib.hid (fun j hj g => store_no_apart (i := k) (k := j) (by rw [← HLL.out]; exact hlt) hj (by rw [← HLL.out]; exact g))
          have HST : Hid (verB (l.getD k v0D) now = true → (∀ j, j < k → apartB (l.getD k v0D) (l.getD j v0D) = true) → VersP l now (k + 1)) := Lib.hid (fun g1 g2 => vers_step hvs.out g1 g2)
          have HRX : Hid (Ints w1 (.slice xa (l.getD k v0D).2.1.length xc) (l.getD k v0D).2.1) := Lib.hid hx
          obtain ⟨x, hxe⟩ : ∃ x, x = l.getD k v0D := ⟨_, rfl⟩
          rw [← hxe] at HXL HNV HNA HST HRX c0 c1 c2 c3
          obtain ⟨id, xs, born, died⟩ := x
          simp only at c0 c1 c2 c3
          have C0 := Lib.hid c0
          have C1 := Lib.hid c1
          have C2 := Lib.hid c2
          have C3 := Lib.hid c3
          have HBL := Lib.hid hbl
          have d := Lib.hid hbel
          clear hx hxe c0 c1 c2 c3 hbl hbel hvs
          cases hver : verB (id, xs, born, died) now with
          | false =>
            have HF := Lib.hid (HNV.out hver)
            have HCV := Lib.hid (fun W g => hver ▸ specVersion id born died now (.slice xa xs.length xc) xs W g HXL.out HNN.out.2)
            clear hver HNV HNA HST
            go_wp2
            have p_C0 := (d.out.cell (p := ⟨b, off + k * 4, none⟩) HBL.out).trans C0.out
            have p_C1 := (d.out.cell (p := ⟨b, off + k * 4 + 1, none⟩) HBL.out).trans C1.out
            have p_C2 := (d.out.cell (p := ⟨b, off + k * 4 + 2, none⟩) HBL.out).trans C2.out
            have p_C3 := (d.out.cell (p := ⟨b, off + k * 4 + 3, none⟩) HBL.out).trans C3.out
            have p_CN := (d.out.cell (p := ⟨w.heap.size, 1, none⟩) YN.out).trans CN.out
            refine wp_region_held_drew (S := fun w' => w'.cell? ⟨b, off + k * 4, none⟩ = some (Value.int .i64 id) ∧ w'.cell? ⟨b, off + k * 4 + 1, none⟩ = some (Value.slice xa xs.length xc) ∧ w'.cell? ⟨b, off + k * 4 + 2, none⟩ = some (Value.int .i64 born) ∧ w'.cell? ⟨b, off + k * 4 + 3, none⟩ = some (Value.int .i64 died) ∧ w'.cell? ⟨w.heap.size, 1, none⟩ = some (.int .i64 now)) (by kernel_rfl) ⟨p_C0, p_C1, p_C2, p_C3, p_CN⟩ (fun hHeld => ?_)
            clear p_C0 p_C1 p_C2 p_C3 p_CN
            have cdr : Below wr.heap.size wr wr.drew := below_drew (Below.refl _ _)
            replace d := Lib.hid (d.out.trans (cdr.mono d.out.size))
            clear cdr
            refine take_runs (i := 0) (v := ?_) (by simp only [List.getElem?_toArray, List.getElem?_cons_succ, List.getElem?_cons_zero]; rfl) (by kernel_rfl) (by kernel_rfl) (by kernel_rfl) rfl (by exact fun _ _ _ h => h) (by rfl) ?_ (by assumption) ?_
            rotate_left
            · intro w hSw; (try dsimp only at hSw); go_simp; try (with_reducible rfl)
            try simp only [Act.put, List.setIfInBounds_toArray, List.set_cons_zero, List.set_cons_succ]
            refine take_runs (i := 1) (v := ?_) (by simp only [List.getElem?_toArray, List.getElem?_cons_succ, List.getElem?_cons_zero]; rfl) (by kernel_rfl) (by kernel_rfl) (by kernel_rfl) rfl (by exact fun _ _ _ h => h) (by rfl) ?_ (by assumption) ?_
            rotate_left
            · intro w hSw; (try dsimp only at hSw); go_simp; try (with_reducible rfl)
            try simp only [Act.put, List.setIfInBounds_toArray, List.set_cons_zero, List.set_cons_succ]
            refine take_runs (i := 2) (v := ?_) (by simp only [List.getElem?_toArray, List.getElem?_cons_succ, List.getElem?_cons_zero]; rfl) (by kernel_rfl) (by kernel_rfl) (by kernel_rfl) rfl (by exact fun _ _ _ h => h) (by rfl) ?_ (by assumption) ?_
            rotate_left
            · intro w hSw; (try dsimp only at hSw); go_simp; try (with_reducible rfl)
            try simp only [Act.put, List.setIfInBounds_toArray, List.set_cons_zero, List.set_cons_succ]
            refine take_runs (i := 3) (v := ?_) (by simp only [List.getElem?_toArray, List.getElem?_cons_succ, List.getElem?_cons_zero]; rfl) (by kernel_rfl) (by kernel_rfl) (by kernel_rfl) rfl (by exact fun _ _ _ h => h) (by rfl) ?_ (by assumption) ?_
            rotate_left
            · intro w hSw; (try dsimp only at hSw); go_simp; try (with_reducible rfl)
            try simp only [Act.put, List.setIfInBounds_toArray, List.set_cons_zero, List.set_cons_succ]
            refine take_runs (i := 4) (v := ?_) (by simp only [List.getElem?_toArray, List.getElem?_cons_succ, List.getElem?_cons_zero]; rfl) (by kernel_rfl) (by kernel_rfl) (by kernel_rfl) rfl (by exact fun _ _ _ h => h) (by rfl) ?_ (by assumption) ?_
            rotate_left
            · intro w hSw; (try dsimp only at hSw); go_simp; try (with_reducible rfl)
            try simp only [Act.put, List.setIfInBounds_toArray, List.set_cons_zero, List.set_cons_succ]
            refine take_runs (i := 5) (v := ?_) (by simp only [List.getElem?_toArray, List.getElem?_cons_succ, List.getElem?_cons_zero]; rfl) (by kernel_rfl) (by kernel_rfl) (by kernel_rfl) rfl (by exact fun _ _ _ h => h) (by rfl) ?_ (by assumption) ?_
            rotate_left
            · intro w hSw; (try dsimp only at hSw); go_simp; try (with_reducible rfl)
            try simp only [Act.put, List.setIfInBounds_toArray, List.set_cons_zero, List.set_cons_succ]
            refine wpAnyH_ready (rs := [6]) (by kernel_rfl) (by simp) ?_
            refine (AllReadyH.cons (o := _) (by simp only [List.getElem?_toArray, List.getElem?_cons_succ, List.getElem?_cons_zero]; rfl) (fun K hK => ?_) AllReadyH.nil)
            go_simp
            refine (HCV.out (wr.drew) (ints_below HRX.out d.out)).mono ?_
            rintro e w5 ⟨rfl, c5⟩
            replace d := Lib.hid (d.out.trans (c5.mono d.out.size))
            have Z_w5 := Lib.hid (show wr.heap.size ≤ w5.heap.size from c5.size)
            clear c5
            have p_C0 := (d.out.cell (p := ⟨b, off + k * 4, none⟩) HBL.out).trans C0.out
            have p_C1 := (d.out.cell (p := ⟨b, off + k * 4 + 1, none⟩) HBL.out).trans C1.out
            have p_C2 := (d.out.cell (p := ⟨b, off + k * 4 + 2, none⟩) HBL.out).trans C2.out
            have p_C3 := (d.out.cell (p := ⟨b, off + k * 4 + 3, none⟩) HBL.out).trans C3.out
            have p_CN := (d.out.cell (p := ⟨w.heap.size, 1, none⟩) YN.out).trans CN.out
            refine hK.out _ _ ⟨p_C0, p_C1, p_C2, p_C3, p_CN⟩ (fun hHeld => ?_)
            clear p_C0 p_C1 p_C2 p_C3 p_CN
            clear hK K
            try simp only [Act.put, List.setIfInBounds_toArray, List.set_cons_zero, List.set_cons_succ]
            refine take_runs (i := 7) (v := ?_) (by simp only [List.getElem?_toArray, List.getElem?_cons_succ, List.getElem?_cons_zero]; rfl) (by kernel_rfl) (by kernel_rfl) (by kernel_rfl) rfl (by exact fun _ _ _ h => h) (by rfl) ?_ (by assumption) ?_
            rotate_left
            · intro w hSw; (try dsimp only at hSw); go_simp; try (with_reducible rfl)
            try simp only [Act.put, List.setIfInBounds_toArray, List.set_cons_zero, List.set_cons_succ]
            refine wpAnyH_done (by kernel_rfl) ?_ _
            clear hHeld
            go_wp2
            go_ret
            exact ⟨ret_b HF.out.symm, D1.out.trans (d.out.mono D1.out.size)⟩
          | true =>
            have HCV := Lib.hid (fun W g => hver ▸ specVersion id born died now (.slice xa xs.length xc) xs W g HXL.out HNN.out.2)
            have HST2 := Lib.hid (HST.out hver)
            clear hver HNV HST
            go_wp2
            have p_C0 := (d.out.cell (p := ⟨b, off + k * 4, none⟩) HBL.out).trans C0.out
            have p_C1 := (d.out.cell (p := ⟨b, off + k * 4 + 1, none⟩) HBL.out).trans C1.out
            have p_C2 := (d.out.cell (p := ⟨b, off + k * 4 + 2, none⟩) HBL.out).trans C2.out
            have p_C3 := (d.out.cell (p := ⟨b, off + k * 4 + 3, none⟩) HBL.out).trans C3.out
            have p_CN := (d.out.cell (p := ⟨w.heap.size, 1, none⟩) YN.out).trans CN.out
            refine wp_region_held_drew (S := fun w' => w'.cell? ⟨b, off + k * 4, none⟩ = some (Value.int .i64 id) ∧ w'.cell? ⟨b, off + k * 4 + 1, none⟩ = some (Value.slice xa xs.length xc) ∧ w'.cell? ⟨b, off + k * 4 + 2, none⟩ = some (Value.int .i64 born) ∧ w'.cell? ⟨b, off + k * 4 + 3, none⟩ = some (Value.int .i64 died) ∧ w'.cell? ⟨w.heap.size, 1, none⟩ = some (.int .i64 now)) (by kernel_rfl) ⟨p_C0, p_C1, p_C2, p_C3, p_CN⟩ (fun hHeld => ?_)
            clear p_C0 p_C1 p_C2 p_C3 p_CN
            have cdr : Below wr.heap.size wr wr.drew := below_drew (Below.refl _ _)
            replace d := Lib.hid (d.out.trans (cdr.mono d.out.size))
            clear cdr
            refine take_runs (i := 0) (v := ?_) (by simp only [List.getElem?_toArray, List.getElem?_cons_succ, List.getElem?_cons_zero]; rfl) (by kernel_rfl) (by kernel_rfl) (by kernel_rfl) rfl (by exact fun _ _ _ h => h) (by rfl) ?_ (by assumption) ?_
            rotate_left
            · intro w hSw; (try dsimp only at hSw); go_simp; try (with_reducible rfl)
            try simp only [Act.put, List.setIfInBounds_toArray, List.set_cons_zero, List.set_cons_succ]
            refine take_runs (i := 1) (v := ?_) (by simp only [List.getElem?_toArray, List.getElem?_cons_succ, List.getElem?_cons_zero]; rfl) (by kernel_rfl) (by kernel_rfl) (by kernel_rfl) rfl (by exact fun _ _ _ h => h) (by rfl) ?_ (by assumption) ?_
            rotate_left
            · intro w hSw; (try dsimp only at hSw); go_simp; try (with_reducible rfl)
            try simp only [Act.put, List.setIfInBounds_toArray, List.set_cons_zero, List.set_cons_succ]
            refine take_runs (i := 2) (v := ?_) (by simp only [List.getElem?_toArray, List.getElem?_cons_succ, List.getElem?_cons_zero]; rfl) (by kernel_rfl) (by kernel_rfl) (by kernel_rfl) rfl (by exact fun _ _ _ h => h) (by rfl) ?_ (by assumption) ?_
            rotate_left
            · intro w hSw; (try dsimp only at hSw); go_simp; try (with_reducible rfl)
            try simp only [Act.put, List.setIfInBounds_toArray, List.set_cons_zero, List.set_cons_succ]
            refine take_runs (i := 3) (v := ?_) (by simp only [List.getElem?_toArray, List.getElem?_cons_succ, List.getElem?_cons_zero]; rfl) (by kernel_rfl) (by kernel_rfl) (by kernel_rfl) rfl (by exact fun _ _ _ h => h) (by rfl) ?_ (by assumption) ?_
            rotate_left
            · intro w hSw; (try dsimp only at hSw); go_simp; try (with_reducible rfl)
            try simp only [Act.put, List.setIfInBounds_toArray, List.set_cons_zero, List.set_cons_succ]
            refine take_runs (i := 4) (v := ?_) (by simp only [List.getElem?_toArray, List.getElem?_cons_succ, List.getElem?_cons_zero]; rfl) (by kernel_rfl) (by kernel_rfl) (by kernel_rfl) rfl (by exact fun _ _ _ h => h) (by rfl) ?_ (by assumption) ?_
            rotate_left
            · intro w hSw; (try dsimp only at hSw); go_simp; try (with_reducible rfl)
            try simp only [Act.put, List.setIfInBounds_toArray, List.set_cons_zero, List.set_cons_succ]
            refine take_runs (i := 5) (v := ?_) (by simp only [List.getElem?_toArray, List.getElem?_cons_succ, List.getElem?_cons_zero]; rfl) (by kernel_rfl) (by kernel_rfl) (by kernel_rfl) rfl (by exact fun _ _ _ h => h) (by rfl) ?_ (by assumption) ?_
            rotate_left
            · intro w hSw; (try dsimp only at hSw); go_simp; try (with_reducible rfl)
            try simp only [Act.put, List.setIfInBounds_toArray, List.set_cons_zero, List.set_cons_succ]
            refine wpAnyH_ready (rs := [6]) (by kernel_rfl) (by simp) ?_
            refine (AllReadyH.cons (o := _) (by simp only [List.getElem?_toArray, List.getElem?_cons_succ, List.getElem?_cons_zero]; rfl) (fun K hK => ?_) AllReadyH.nil)
            go_simp
            refine (HCV.out (wr.drew) (ints_below HRX.out d.out)).mono ?_
            rintro e w5 ⟨rfl, c5⟩
            replace d := Lib.hid (d.out.trans (c5.mono d.out.size))
            have Z_w5 := Lib.hid (show wr.heap.size ≤ w5.heap.size from c5.size)
            clear c5
            have p_C0 := (d.out.cell (p := ⟨b, off + k * 4, none⟩) HBL.out).trans C0.out
            have p_C1 := (d.out.cell (p := ⟨b, off + k * 4 + 1, none⟩) HBL.out).trans C1.out
            have p_C2 := (d.out.cell (p := ⟨b, off + k * 4 + 2, none⟩) HBL.out).trans C2.out
            have p_C3 := (d.out.cell (p := ⟨b, off + k * 4 + 3, none⟩) HBL.out).trans C3.out
            have p_CN := (d.out.cell (p := ⟨w.heap.size, 1, none⟩) YN.out).trans CN.out
            refine hK.out _ _ ⟨p_C0, p_C1, p_C2, p_C3, p_CN⟩ (fun hHeld => ?_)
            clear p_C0 p_C1 p_C2 p_C3 p_CN
            clear hK K
            try simp only [Act.put, List.setIfInBounds_toArray, List.set_cons_zero, List.set_cons_succ]
            refine take_runs (i := 7) (v := ?_) (by simp only [List.getElem?_toArray, List.getElem?_cons_succ, List.getElem?_cons_zero]; rfl) (by kernel_rfl) (by kernel_rfl) (by kernel_rfl) rfl (by exact fun _ _ _ h => h) (by rfl) ?_ (by assumption) ?_
            rotate_left
            · intro w hSw; (try dsimp only at hSw); go_simp; try (with_reducible rfl)
            try simp only [Act.put, List.setIfInBounds_toArray, List.set_cons_zero, List.set_cons_succ]
            refine wpAnyH_done (by kernel_rfl) ?_ _
            clear hHeld
            go_wp2
            go_loopw [6] (fun i wr => ∃ m : Nat, m ≤ k ∧ i = .int .i64 m ∧ Hid (∀ j, j < m → apartB (id, xs, born, died) (l.getD j v0D) = true) ∧ Below w1.heap.size w1 wr) (fun i _ => k - (intOf i).toNat)
            case atStart => exact ⟨0, Nat.zero_le _, rfl, Lib.hid (fun j hj => by omega), d.out⟩
            case round =>
              obtain ⟨m, hm, rfl, hap, hbel⟩ := hrel
              clear d
              by_cases hml : m < k
              · have j1 : (0 : Int) ≤ (m : Int) := by omega
                have j2 : (m : Int) < (l.length : Int) := by omega
                have j3 : (m : Int) < (k : Int) := by omega
                obtain ⟨b2, off2, cap2, ya, yc, hv, hbl2, y0, y1, y2, y3, hy⟩ := verR_at V.out (k := m) (by omega)
                simp only [Value.slice.injEq, Option.some.injEq, Addr.mk.injEq] at hv
                obtain ⟨⟨rfl, rfl, _⟩, _, rfl⟩ := hv
                have HNX := Lib.hid (HNA.out m hml)
                have HYX : Hid (apartB (id, xs, born, died) (l.getD m v0D) = true → ∀ j, j < m + 1 → apartB (id, xs, born, died) (l.getD j v0D) = true) := Lib.hid (fun g j hj => by
                  by_cases e : j = m
                  · rw [e]; exact g
                  · exact hap.out j (by omega))
                generalize l.getD m v0D = y at *
                obtain ⟨id2, ys, born2, died2⟩ := y
                simp only at y0 y1 y2 y3
                have E0 := Lib.hid y0
                have E1 := Lib.hid y1
                have E2 := Lib.hid y2
                have E3 := Lib.hid y3
                have d := Lib.hid hbel
                clear y0 y1 y2 y3 hy hap hbel
                have HCA := Lib.hid (specApart id born died id2 born2 died2 (.slice xa xs.length xc) (.slice ya ys.length yc))
                cases hapt : decide (apartP id born died id2 born2 died2) with
                | false =>
                  have HF := Lib.hid (HNX.out hapt)
                  rw [hapt] at HCA
                  clear hapt HNX HYX
                  go_wp2
                  have p_C0 := (d.out.cell (p := ⟨b, off + k * 4, none⟩) HBL.out).trans C0.out
                  have p_C1 := (d.out.cell (p := ⟨b, off + k * 4 + 1, none⟩) HBL.out).trans C1.out
                  have p_C2 := (d.out.cell (p := ⟨b, off + k * 4 + 2, none⟩) HBL.out).trans C2.out
                  have p_C3 := (d.out.cell (p := ⟨b, off + k * 4 + 3, none⟩) HBL.out).trans C3.out
                  have p_E0 := (d.out.cell (p := ⟨b, off + m * 4, none⟩) HBL.out).trans E0.out
                  have p_E1 := (d.out.cell (p := ⟨b, off + m * 4 + 1, none⟩) HBL.out).trans E1.out
                  have p_E2 := (d.out.cell (p := ⟨b, off + m * 4 + 2, none⟩) HBL.out).trans E2.out
                  have p_E3 := (d.out.cell (p := ⟨b, off + m * 4 + 3, none⟩) HBL.out).trans E3.out
                  refine wp_region_held_drew (S := fun w' => w'.cell? ⟨b, off + k * 4, none⟩ = some (Value.int .i64 id) ∧ w'.cell? ⟨b, off + k * 4 + 1, none⟩ = some (Value.slice xa xs.length xc) ∧ w'.cell? ⟨b, off + k * 4 + 2, none⟩ = some (Value.int .i64 born) ∧ w'.cell? ⟨b, off + k * 4 + 3, none⟩ = some (Value.int .i64 died) ∧ w'.cell? ⟨b, off + m * 4, none⟩ = some (Value.int .i64 id2) ∧ w'.cell? ⟨b, off + m * 4 + 1, none⟩ = some (Value.slice ya ys.length yc) ∧ w'.cell? ⟨b, off + m * 4 + 2, none⟩ = some (Value.int .i64 born2) ∧ w'.cell? ⟨b, off + m * 4 + 3, none⟩ = some (Value.int .i64 died2)) (by kernel_rfl) ⟨p_C0, p_C1, p_C2, p_C3, p_E0, p_E1, p_E2, p_E3⟩ (fun hHeld => ?_)
                  clear p_C0 p_C1 p_C2 p_C3 p_E0 p_E1 p_E2 p_E3
                  have cdr : Below wr.heap.size wr wr.drew := below_drew (Below.refl _ _)
                  replace d := Lib.hid (d.out.trans (cdr.mono d.out.size))
                  clear cdr
                  refine take_runs (i := 0) (v := ?_) (by simp only [List.getElem?_toArray, List.getElem?_cons_succ, List.getElem?_cons_zero]; rfl) (by kernel_rfl) (by kernel_rfl) (by kernel_rfl) rfl (by exact fun _ _ _ h => h) (by rfl) ?_ (by assumption) ?_
                  rotate_left
                  · intro w hSw; (try dsimp only at hSw); go_simp; try (with_reducible rfl)
                  try simp only [Act.put, List.setIfInBounds_toArray, List.set_cons_zero, List.set_cons_succ]
                  refine take_runs (i := 1) (v := ?_) (by simp only [List.getElem?_toArray, List.getElem?_cons_succ, List.getElem?_cons_zero]; rfl) (by kernel_rfl) (by kernel_rfl) (by kernel_rfl) rfl (by exact fun _ _ _ h => h) (by rfl) ?_ (by assumption) ?_
                  rotate_left
                  · intro w hSw; (try dsimp only at hSw); go_simp; try (with_reducible rfl)
                  try simp only [Act.put, List.setIfInBounds_toArray, List.set_cons_zero, List.set_cons_succ]
                  refine take_runs (i := 2) (v := ?_) (by simp only [List.getElem?_toArray, List.getElem?_cons_succ, List.getElem?_cons_zero]; rfl) (by kernel_rfl) (by kernel_rfl) (by kernel_rfl) rfl (by exact fun _ _ _ h => h) (by rfl) ?_ (by assumption) ?_
                  rotate_left
                  · intro w hSw; (try dsimp only at hSw); go_simp; try (with_reducible rfl)
                  try simp only [Act.put, List.setIfInBounds_toArray, List.set_cons_zero, List.set_cons_succ]
                  refine take_runs (i := 3) (v := ?_) (by simp only [List.getElem?_toArray, List.getElem?_cons_succ, List.getElem?_cons_zero]; rfl) (by kernel_rfl) (by kernel_rfl) (by kernel_rfl) rfl (by exact fun _ _ _ h => h) (by rfl) ?_ (by assumption) ?_
                  rotate_left
                  · intro w hSw; (try dsimp only at hSw); go_simp; try (with_reducible rfl)
                  try simp only [Act.put, List.setIfInBounds_toArray, List.set_cons_zero, List.set_cons_succ]
                  refine take_runs (i := 4) (v := ?_) (by simp only [List.getElem?_toArray, List.getElem?_cons_succ, List.getElem?_cons_zero]; rfl) (by kernel_rfl) (by kernel_rfl) (by kernel_rfl) rfl (by exact fun _ _ _ h => h) (by rfl) ?_ (by assumption) ?_
                  rotate_left
                  · intro w hSw; (try dsimp only at hSw); go_simp; try (with_reducible rfl)
                  try simp only [Act.put, List.setIfInBounds_toArray, List.set_cons_zero, List.set_cons_succ]
                  refine take_runs (i := 5) (v := ?_) (by simp only [List.getElem?_toArray, List.getElem?_cons_succ, List.getElem?_cons_zero]; rfl) (by kernel_rfl) (by kernel_rfl) (by kernel_rfl) rfl (by exact fun _ _ _ h => h) (by rfl) ?_ (by assumption) ?_
                  rotate_left
                  · intro w hSw; (try dsimp only at hSw); go_simp; try (with_reducible rfl)
                  try simp only [Act.put, List.setIfInBounds_toArray, List.set_cons_zero, List.set_cons_succ]
                  refine take_runs (i := 6) (v := ?_) (by simp only [List.getElem?_toArray, List.getElem?_cons_succ, List.getElem?_cons_zero]; rfl) (by kernel_rfl) (by kernel_rfl) (by kernel_rfl) rfl (by exact fun _ _ _ h => h) (by rfl) ?_ (by assumption) ?_
                  rotate_left
                  · intro w hSw; (try dsimp only at hSw); go_simp; try (with_reducible rfl)
                  try simp only [Act.put, List.setIfInBounds_toArray, List.set_cons_zero, List.set_cons_succ]
                  refine take_runs (i := 7) (v := ?_) (by simp only [List.getElem?_toArray, List.getElem?_cons_succ, List.getElem?_cons_zero]; rfl) (by kernel_rfl) (by kernel_rfl) (by kernel_rfl) rfl (by exact fun _ _ _ h => h) (by rfl) ?_ (by assumption) ?_
                  rotate_left
                  · intro w hSw; (try dsimp only at hSw); go_simp; try (with_reducible rfl)
                  try simp only [Act.put, List.setIfInBounds_toArray, List.set_cons_zero, List.set_cons_succ]
                  refine wpAnyH_ready (rs := [8]) (by kernel_rfl) (by simp) ?_
                  refine (AllReadyH.cons (o := _) (by simp only [List.getElem?_toArray, List.getElem?_cons_succ, List.getElem?_cons_zero]; rfl) (fun K hK => ?_) AllReadyH.nil)
                  go_simp
                  refine (HCA.out (wr.drew)).mono ?_
                  rintro e w6 ⟨rfl, c6⟩
                  replace d := Lib.hid (d.out.trans (c6.mono d.out.size))
                  have Z_w6 := Lib.hid (show wr.heap.size ≤ w6.heap.size from c6.size)
                  clear c6
                  have p_C0 := (d.out.cell (p := ⟨b, off + k * 4, none⟩) HBL.out).trans C0.out
                  have p_C1 := (d.out.cell (p := ⟨b, off + k * 4 + 1, none⟩) HBL.out).trans C1.out
                  have p_C2 := (d.out.cell (p := ⟨b, off + k * 4 + 2, none⟩) HBL.out).trans C2.out
                  have p_C3 := (d.out.cell (p := ⟨b, off + k * 4 + 3, none⟩) HBL.out).trans C3.out
                  have p_E0 := (d.out.cell (p := ⟨b, off + m * 4, none⟩) HBL.out).trans E0.out
                  have p_E1 := (d.out.cell (p := ⟨b, off + m * 4 + 1, none⟩) HBL.out).trans E1.out
                  have p_E2 := (d.out.cell (p := ⟨b, off + m * 4 + 2, none⟩) HBL.out).trans E2.out
                  have p_E3 := (d.out.cell (p := ⟨b, off + m * 4 + 3, none⟩) HBL.out).trans E3.out
                  refine hK.out _ _ ⟨p_C0, p_C1, p_C2, p_C3, p_E0, p_E1, p_E2, p_E3⟩ (fun hHeld => ?_)
                  clear p_C0 p_C1 p_C2 p_C3 p_E0 p_E1 p_E2 p_E3
                  clear hK K
                  try simp only [Act.put, List.setIfInBounds_toArray, List.set_cons_zero, List.set_cons_succ]
                  refine take_runs (i := 9) (v := ?_) (by simp only [List.getElem?_toArray, List.getElem?_cons_succ, List.getElem?_cons_zero]; rfl) (by kernel_rfl) (by kernel_rfl) (by kernel_rfl) rfl (by exact fun _ _ _ h => h) (by rfl) ?_ (by assumption) ?_
                  rotate_left
                  · intro w hSw; (try dsimp only at hSw); go_simp; try (with_reducible rfl)
                  try simp only [Act.put, List.setIfInBounds_toArray, List.set_cons_zero, List.set_cons_succ]
                  refine wpAnyH_done (by kernel_rfl) ?_ _
                  clear hHeld
                  go_wp2
                  go_ret
                  exact ⟨ret_b HF.out.symm, D1.out.trans (d.out.mono D1.out.size)⟩
                | true =>
                  have HA2 := Lib.hid (HYX.out hapt)
                  rw [hapt] at HCA
                  clear hapt HNX HYX
                  go_wp2
                  have p_C0 := (d.out.cell (p := ⟨b, off + k * 4, none⟩) HBL.out).trans C0.out
                  have p_C1 := (d.out.cell (p := ⟨b, off + k * 4 + 1, none⟩) HBL.out).trans C1.out
                  have p_C2 := (d.out.cell (p := ⟨b, off + k * 4 + 2, none⟩) HBL.out).trans C2.out
                  have p_C3 := (d.out.cell (p := ⟨b, off + k * 4 + 3, none⟩) HBL.out).trans C3.out
                  have p_E0 := (d.out.cell (p := ⟨b, off + m * 4, none⟩) HBL.out).trans E0.out
                  have p_E1 := (d.out.cell (p := ⟨b, off + m * 4 + 1, none⟩) HBL.out).trans E1.out
                  have p_E2 := (d.out.cell (p := ⟨b, off + m * 4 + 2, none⟩) HBL.out).trans E2.out
                  have p_E3 := (d.out.cell (p := ⟨b, off + m * 4 + 3, none⟩) HBL.out).trans E3.out
                  refine wp_region_held_drew (S := fun w' => w'.cell? ⟨b, off + k * 4, none⟩ = some (Value.int .i64 id) ∧ w'.cell? ⟨b, off + k * 4 + 1, none⟩ = some (Value.slice xa xs.length xc) ∧ w'.cell? ⟨b, off + k * 4 + 2, none⟩ = some (Value.int .i64 born) ∧ w'.cell? ⟨b, off + k * 4 + 3, none⟩ = some (Value.int .i64 died) ∧ w'.cell? ⟨b, off + m * 4, none⟩ = some (Value.int .i64 id2) ∧ w'.cell? ⟨b, off + m * 4 + 1, none⟩ = some (Value.slice ya ys.length yc) ∧ w'.cell? ⟨b, off + m * 4 + 2, none⟩ = some (Value.int .i64 born2) ∧ w'.cell? ⟨b, off + m * 4 + 3, none⟩ = some (Value.int .i64 died2)) (by kernel_rfl) ⟨p_C0, p_C1, p_C2, p_C3, p_E0, p_E1, p_E2, p_E3⟩ (fun hHeld => ?_)
                  clear p_C0 p_C1 p_C2 p_C3 p_E0 p_E1 p_E2 p_E3
                  have cdr : Below wr.heap.size wr wr.drew := below_drew (Below.refl _ _)
                  replace d := Lib.hid (d.out.trans (cdr.mono d.out.size))
                  clear cdr
                  refine take_runs (i := 0) (v := ?_) (by simp only [List.getElem?_toArray, List.getElem?_cons_succ, List.getElem?_cons_zero]; rfl) (by kernel_rfl) (by kernel_rfl) (by kernel_rfl) rfl (by exact fun _ _ _ h => h) (by rfl) ?_ (by assumption) ?_
                  rotate_left
                  · intro w hSw; (try dsimp only at hSw); go_simp; try (with_reducible rfl)
                  try simp only [Act.put, List.setIfInBounds_toArray, List.set_cons_zero, List.set_cons_succ]
                  refine take_runs (i := 1) (v := ?_) (by simp only [List.getElem?_toArray, List.getElem?_cons_succ, List.getElem?_cons_zero]; rfl) (by kernel_rfl) (by kernel_rfl) (by kernel_rfl) rfl (by exact fun _ _ _ h => h) (by rfl) ?_ (by assumption) ?_
                  rotate_left
                  · intro w hSw; (try dsimp only at hSw); go_simp; try (with_reducible rfl)
                  try simp only [Act.put, List.setIfInBounds_toArray, List.set_cons_zero, List.set_cons_succ]
                  refine take_runs (i := 2) (v := ?_) (by simp only [List.getElem?_toArray, List.getElem?_cons_succ, List.getElem?_cons_zero]; rfl) (by kernel_rfl) (by kernel_rfl) (by kernel_rfl) rfl (by exact fun _ _ _ h => h) (by rfl) ?_ (by assumption) ?_
                  rotate_left
                  · intro w hSw; (try dsimp only at hSw); go_simp; try (with_reducible rfl)
                  try simp only [Act.put, List.setIfInBounds_toArray, List.set_cons_zero, List.set_cons_succ]
                  refine take_runs (i := 3) (v := ?_) (by simp only [List.getElem?_toArray, List.getElem?_cons_succ, List.getElem?_cons_zero]; rfl) (by kernel_rfl) (by kernel_rfl) (by kernel_rfl) rfl (by exact fun _ _ _ h => h) (by rfl) ?_ (by assumption) ?_
                  rotate_left
                  · intro w hSw; (try dsimp only at hSw); go_simp; try (with_reducible rfl)
                  try simp only [Act.put, List.setIfInBounds_toArray, List.set_cons_zero, List.set_cons_succ]
                  refine take_runs (i := 4) (v := ?_) (by simp only [List.getElem?_toArray, List.getElem?_cons_succ, List.getElem?_cons_zero]; rfl) (by kernel_rfl) (by kernel_rfl) (by kernel_rfl) rfl (by exact fun _ _ _ h => h) (by rfl) ?_ (by assumption) ?_
                  rotate_left
                  · intro w hSw; (try dsimp only at hSw); go_simp; try (with_reducible rfl)
                  try simp only [Act.put, List.setIfInBounds_toArray, List.set_cons_zero, List.set_cons_succ]
                  refine take_runs (i := 5) (v := ?_) (by simp only [List.getElem?_toArray, List.getElem?_cons_succ, List.getElem?_cons_zero]; rfl) (by kernel_rfl) (by kernel_rfl) (by kernel_rfl) rfl (by exact fun _ _ _ h => h) (by rfl) ?_ (by assumption) ?_
                  rotate_left
                  · intro w hSw; (try dsimp only at hSw); go_simp; try (with_reducible rfl)
                  try simp only [Act.put, List.setIfInBounds_toArray, List.set_cons_zero, List.set_cons_succ]
                  refine take_runs (i := 6) (v := ?_) (by simp only [List.getElem?_toArray, List.getElem?_cons_succ, List.getElem?_cons_zero]; rfl) (by kernel_rfl) (by kernel_rfl) (by kernel_rfl) rfl (by exact fun _ _ _ h => h) (by rfl) ?_ (by assumption) ?_
                  rotate_left
                  · intro w hSw; (try dsimp only at hSw); go_simp; try (with_reducible rfl)
                  try simp only [Act.put, List.setIfInBounds_toArray, List.set_cons_zero, List.set_cons_succ]
                  refine take_runs (i := 7) (v := ?_) (by simp only [List.getElem?_toArray, List.getElem?_cons_succ, List.getElem?_cons_zero]; rfl) (by kernel_rfl) (by kernel_rfl) (by kernel_rfl) rfl (by exact fun _ _ _ h => h) (by rfl) ?_ (by assumption) ?_
                  rotate_left
                  · intro w hSw; (try dsimp only at hSw); go_simp; try (with_reducible rfl)
                  try simp only [Act.put, List.setIfInBounds_toArray, List.set_cons_zero, List.set_cons_succ]
                  refine wpAnyH_ready (rs := [8]) (by kernel_rfl) (by simp) ?_
                  refine (AllReadyH.cons (o := _) (by simp only [List.getElem?_toArray, List.getElem?_cons_succ, List.getElem?_cons_zero]; rfl) (fun K hK => ?_) AllReadyH.nil)
                  go_simp
                  refine (HCA.out (wr.drew)).mono ?_
                  rintro e w6 ⟨rfl, c6⟩
                  replace d := Lib.hid (d.out.trans (c6.mono d.out.size))
                  have Z_w6 := Lib.hid (show wr.heap.size ≤ w6.heap.size from c6.size)
                  clear c6
                  have p_C0 := (d.out.cell (p := ⟨b, off + k * 4, none⟩) HBL.out).trans C0.out
                  have p_C1 := (d.out.cell (p := ⟨b, off + k * 4 + 1, none⟩) HBL.out).trans C1.out
                  have p_C2 := (d.out.cell (p := ⟨b, off + k * 4 + 2, none⟩) HBL.out).trans C2.out
                  have p_C3 := (d.out.cell (p := ⟨b, off + k * 4 + 3, none⟩) HBL.out).trans C3.out
                  have p_E0 := (d.out.cell (p := ⟨b, off + m * 4, none⟩) HBL.out).trans E0.out
                  have p_E1 := (d.out.cell (p := ⟨b, off + m * 4 + 1, none⟩) HBL.out).trans E1.out
                  have p_E2 := (d.out.cell (p := ⟨b, off + m * 4 + 2, none⟩) HBL.out).trans E2.out
                  have p_E3 := (d.out.cell (p := ⟨b, off + m * 4 + 3, none⟩) HBL.out).trans E3.out
                  refine hK.out _ _ ⟨p_C0, p_C1, p_C2, p_C3, p_E0, p_E1, p_E2, p_E3⟩ (fun hHeld => ?_)
                  clear p_C0 p_C1 p_C2 p_C3 p_E0 p_E1 p_E2 p_E3
                  clear hK K
                  try simp only [Act.put, List.setIfInBounds_toArray, List.set_cons_zero, List.set_cons_succ]
                  refine take_runs (i := 9) (v := ?_) (by simp only [List.getElem?_toArray, List.getElem?_cons_succ, List.getElem?_cons_zero]; rfl) (by kernel_rfl) (by kernel_rfl) (by kernel_rfl) rfl (by exact fun _ _ _ h => h) (by rfl) ?_ (by assumption) ?_
                  rotate_left
                  · intro w hSw; (try dsimp only at hSw); go_simp; try (with_reducible rfl)
                  try simp only [Act.put, List.setIfInBounds_toArray, List.set_cons_zero, List.set_cons_succ]
                  refine wpAnyH_done (by kernel_rfl) ?_ _
                  clear hHeld
                  go_wp2
                  go_roundw
                  case rel => exact ⟨m + 1, by omega, by go_num, HA2, d.out⟩
                  case measure => simp [intOf]; omega
              · obtain rfl : m = k := by omega
                have HVK := Lib.hid (HST2.out hap.out)
                have HB := Lib.hid hbel
                clear hap hbel
                go_wp2
                go_roundw
                case rel => exact ⟨m + 1, by omega, by go_num, HVK, HB.out⟩
                case measure => simp [intOf]; omega
        · obtain rfl : k = l.length := by omega
          have HT : Hid (storeB ss now = true) := Lib.hid (store_yes HCN.out HNN.out HSH.out (by rw [← HLL.out]; exact hvs.out))
          have HB := Lib.hid (D1.out.trans (hbel.mono D1.out.size))
          clear hvs hbel
          go_wp2
          go_ret
          exact ⟨ret_b HT.out.symm, HB.out⟩
end Go.Proofs.Ytginjmnohnidiaa
namespace Go.Proofs.Ytginjmnohnidiaa
open Go.RowKit
set_option linter.unusedVariables false
set_option linter.unusedSimpArgs false
end Go.Proofs.Ytginjmnohnidiaa
namespace Go.Proofs.Ytginjmnohnidiaa
open Go.RowKit
set_option linter.unusedVariables false
end Go.Proofs.Ytginjmnohnidiaa
namespace Go.Proofs.Ytginjmnohnidiaa
open Go.RowKit
set_option linter.unusedVariables false
set_option linter.unusedSimpArgs false
end Go.Proofs.Ytginjmnohnidiaa
