/-
  Texts of the proof, merged: Raw, VerBr, VerSpec2, VerSpec4, IdxSpec1, EngSpec3, Rec, RecLim, RecEq.
-/
import Derived.Test.YtdhglmoanpkeoaaGreatDoorIE3
import Derived.Laws.CopyOwn
import Derived.Lib.MinMax
import Derived.Laws.StructEq
namespace Go.Proofs.YtdhglmoanpkeoaaGreatDoor
open Go.RowKit
set_option linter.unusedVariables false
set_option linter.unusedSimpArgs false
/-- Cells as they are: n of them. -/
def tRaw (n : Nat) : Ty (List Value) := { n := n, d := [], R := fun _ cs x => cs = x ∧ cs.length = n ∧ ∀ u ∈ cs, u.oneCell' = true, O := fun _ _ cs x => cs = x ∧ cs.length = n ∧ ∀ u ∈ cs, u.oneCell' = true, sz := fun _ => 0, nd := fun _ => 0, nv := fun _ => 0, md := fun x _ => x, mv := fun x _ => x, ok := fun _ => True, s := 0 }
theorem tRaw_law {n : Nat} (h : 0 < n) : (tRaw n).Law := ⟨h, fun h => h.2.1, fun h _ => h, fun h => h, fun h _ _ => h, fun h _ => h, fun h => h, fun x => Nat.le_refl _, fun x => Nat.le_refl _⟩
theorem flat_raw (n : Nat) : Flat (tRaw n) := ⟨fun h => h, fun h => h.2.2⟩
/-- Each cell of an element holds one value. -/
def OneC {α : Type} (T : Ty α) : Prop := ∀ {w : World} {cs : List Value} {x : α}, T.R w cs x → ∀ u ∈ cs, u.oneCell' = true
/-- What the cells read as. -/
def Sh {α : Type} (T : Ty α) (w : World) (L : List (List Value)) (xs : List α) : Prop := L.length = xs.length ∧ ∀ j, j < xs.length → T.R w (L.getD j []) (xs.getD j T.d)
section
variable {α : Type} {T : Ty α}
theorem sh_nil (w : World) : Sh T w [] [] := ⟨rfl, fun j hj => by simp at hj⟩
theorem sh_len {w : World} {L : List (List Value)} {xs : List α} (h : Sh T w L xs) : L.length = xs.length := h.1
theorem sh_below (A : T.Law) {W w : World} {L : List (List Value)} {xs : List α} (h : Sh T W L xs) (hb : Below W.heap.size W w) : Sh T w L xs := ⟨h.1, fun j hj => A.below (h.2 j hj) hb⟩
theorem sh_app {w : World} {L M : List (List Value)} {xs ys : List α} (h : Sh T w L xs) (g : Sh T w M ys) : Sh T w (L ++ M) (xs ++ ys) := by
  refine ⟨by rw [List.length_append, List.length_append, h.1, g.1], fun j hj => ?_⟩
  rw [List.length_append] at hj
  by_cases hlt : j < xs.length
  · have e1 : (xs ++ ys).getD j T.d = xs.getD j T.d := by simp [List.getD, List.getElem?_append_left hlt]
    have e2 : (L ++ M).getD j [] = L.getD j [] := by simp only [List.getD]; rw [List.getElem?_append_left (by rw [h.1]; exact hlt)]
    rw [e1, e2]; exact h.2 j hlt
  · have e1 : (xs ++ ys).getD j T.d = ys.getD (j - xs.length) T.d := by simp [List.getD, List.getElem?_append_right (show xs.length ≤ j by omega)]
    have e2 : (L ++ M).getD j [] = M.getD (j - xs.length) [] := by simp only [List.getD]; rw [List.getElem?_append_right (by rw [h.1]; omega), h.1]
    rw [e1, e2]; exact g.2 _ (by omega)
theorem sh_one {w : World} {cs : List Value} {x : α} (h : T.R w cs x) : Sh T w [cs] [x] := ⟨rfl, fun j hj => by
  obtain rfl : j = 0 := by simpa using hj
  exact h⟩
/-- A slice that is read, as cells. -/
theorem slR_raw (A : T.Law) (O : OneC T) {w : World} {v : Value} {xs : List α} (h : SlR T w v xs) : ∃ L, SlR (tRaw T.n) w v L ∧ Sh T w L xs := by
  rcases h with ⟨rfl, a, cap, rfl⟩ | ⟨b, off, cap, us, rfl, h2, h3, h4⟩
  · exact ⟨[], Or.inl ⟨rfl, a, cap, rfl⟩, sh_nil w⟩
  · have hl : ((List.range xs.length).map us).length = xs.length := by simp
    have hg : ∀ j, j < xs.length → ((List.range xs.length).map us).getD j [] = us j := fun j hj => by simp [List.getD, hj]
    refine ⟨(List.range xs.length).map us, Or.inr ⟨b, off, cap, us, by rw [hl], by rw [hl]; exact h2, h3, fun j hj => ?_⟩, hl, fun j hj => by rw [hg j hj]; exact (h4 j hj).2⟩
    rw [hl] at hj
    refine ⟨(h4 j hj).1, ?_⟩
    show us j = ((List.range xs.length).map us).getD j [] ∧ _
    rw [hg j hj]
    exact ⟨rfl, A.len (h4 j hj).2, O (h4 j hj).2⟩
theorem raw_slR {w : World} {v : Value} {L : List (List Value)} {xs : List α} (h : SlR (tRaw T.n) w v L) (g : Sh T w L xs) : SlR T w v xs := by
  rcases h with ⟨rfl, a, cap, rfl⟩ | ⟨b, off, cap, us, rfl, h2, h3, h4⟩
  · have : xs = [] := List.eq_nil_of_length_eq_zero (by rw [← g.1]; rfl)
    subst this
    exact Or.inl ⟨rfl, a, cap, rfl⟩
  · rw [g.1] at h2 h4
    refine Or.inr ⟨b, off, cap, us, by rw [g.1], h2, h3, fun j hj => ⟨(h4 j hj).1, ?_⟩⟩
    have e : us j = L.getD j [] := (h4 j hj).2.1
    rw [e]
    exact g.2 j hj
/-- What is owned raw and read as elements that were there, stays while the rest of the memory stays. -/
theorem raw_reads (hn : 0 < T.n) {e : TypeId} {w : World} {F : Nat → Prop} {v : Value} {L : List (List Value)} {xs : List α} (h : SlO e (tRaw T.n) w F v L) (g : Sh T w L xs) : SlR T w v xs := raw_slR (slO_reads (tRaw_law hn) h) g
end
end Go.Proofs.YtdhglmoanpkeoaaGreatDoor
namespace Go.Proofs.YtdhglmoanpkeoaaGreatDoor
open Go.RowKit
set_option linter.unusedVariables false
set_option linter.unusedSimpArgs false
theorem verR_at {w : World} {v : Value} {l : List VerD} (h : SlR tVersion w v l) {k : Nat} (hk : k < l.length) :
    ∃ (b off cap : Nat) (a : Option Addr) (c : Nat), v = .slice (some ⟨b, off, none⟩) l.length cap ∧ b < w.heap.size ∧
      w.cell? ⟨b, off + k * 4, none⟩ = some (.int .i64 (l.getD k v0D).1) ∧ w.cell? ⟨b, off + k * 4 + 1, none⟩ = some (.slice a (l.getD k v0D).2.1.length c) ∧
      w.cell? ⟨b, off + k * 4 + 2, none⟩ = some (.int .i64 (l.getD k v0D).2.2.1) ∧ w.cell? ⟨b, off + k * 4 + 3, none⟩ = some (.int .i64 (l.getD k v0D).2.2.2) ∧
      Ints w (.slice a (l.getD k v0D).2.1.length c) (l.getD k v0D).2.1 := by
  obtain ⟨b, off, cap, cs, hv, hb, hc, hR⟩ := slR_at h hk
  change tVersion.R w cs (l.getD k v0D) at hR
  generalize l.getD k v0D = r at *
  obtain ⟨i, xs, bo, di⟩ := r
  obtain ⟨v1, rfl, h1⟩ := tVersion_R hR
  obtain ⟨a, c, rfl⟩ := slR_len h1
  exact ⟨b, off, cap, a, c, hv, hb, hc 0 (by decide), hc 1 (by decide), hc 2 (by decide), hc 3 (by decide), slR_ints h1⟩
theorem one_Version : OneC tVersion := fun {w cs x} h u hu => by
  obtain ⟨i, xs, bo, di⟩ := x
  obtain ⟨v1, rfl, h1⟩ := tVersion_R h
  obtain ⟨a, c, rfl⟩ := slR_len h1
  simp at hu
  rcases hu with rfl | rfl | rfl | rfl <;> rfl
theorem info_R_Version : ElemInfo (tRaw 4) 147 (.agg #[.int .i64 0, .slice none 0 0, .int .i64 0, .int .i64 0]) := elemInfo_of (by kernel_rfl)
theorem zL_sum {α : Type} (T : Ty α) (xs : List α) : zL T xs = xs.length + (xs.map T.sz).sum := by unfold zL zTo sumN; rw [List.take_length]
theorem ver_sz (v : VerD) : tVersion.sz v = v.2.1.length := by
  obtain ⟨i, xs, bo, di⟩ := v
  rw [tVersion_sz, zL_ints]
theorem zL_all (ss : List (List VerD)) : ss.length + zL tVersion ss.flatten = zL tVersionS ss := by
  rw [zL_sum tVersionS, zL_sum tVersion]
  congr 1
  induction ss with
  | nil => rfl
  | cons s ss ih =>
    rw [List.flatten_cons, List.length_append, List.map_append, List.sum_append, List.map_cons, List.sum_cons, ← ih]
    have e : tVersionS.sz s = s.length + (s.map tVersion.sz).sum := zL_sum tVersion s
    rw [e]; omega
theorem zL_seg {ss : List (List VerD)} {k : Nat} (hk : k < ss.length) : zL tVersion (ss.getD k []) ≤ zL tVersionS ss := zL_at (T := tVersionS) (Nat.le_refl _) hk
theorem ver_len {l : List VerD} (hs : zL tVersion l ≤ 1048576) {k : Nat} (hk : k < l.length) : (l.getD k v0D).2.1.length ≤ 1048576 := by
  have := zL_at (T := tVersion) hs hk
  rw [ver_sz] at this
  exact this
end Go.Proofs.YtdhglmoanpkeoaaGreatDoor
namespace Go.Proofs.YtdhglmoanpkeoaaGreatDoor
open Go.RowKit
set_option linter.unusedVariables false
set_option linter.unusedSimpArgs false
set_option maxHeartbeats 8000000 in
set_option maxRecDepth 100000 in
theorem specVersion (id born died now : Int) (vv : Value) (xs : List Int) (w : World) (h : Ints w vv xs) (hn : xs.length ≤ 1048576) (hw : now ≤ 100000) :
    Calls Tryz.prog 99 #[.agg #[.int .i64 id, vv, .int .i64 born, .int .i64 died], .int .i64 now] w fun e w' => e = .returned (.bool (verB (id, xs, born, died) now)) ∧ Below w.heap.size w w' := by
  have HR := Lib.hid (fun W g => specIsRow id vv xs W g hn)
  have H := Lib.hid h
  clear hn
  obtain ⟨va, vc, rfl⟩ := ints_len h
  have d0 := Lib.hid (show Below w.heap.size w (w.alloc (.cells #[.int .i64 id, .slice va xs.length vc, .int .i64 born, .int .i64 died] 147)) from (Below.refl _ _).alloc (Nat.le_refl _) _)
  have B0 : Hid ((w.alloc (.cells #[.int .i64 id, .slice va xs.length vc, .int .i64 born, .int .i64 died] 147)).heap[w.heap.size]? = some (.cells #[.int .i64 id, .slice va xs.length vc, .int .i64 born, .int .i64 died] 147 (0, 0))) := Lib.hid (heap_alloc_new w _)
  have Y0 : Hid (w.heap.size < (w.alloc (.cells #[.int .i64 id, .slice va xs.length vc, .int .i64 born, .int .i64 died] 147)).heap.size) := Lib.hid (by simp [World.size_alloc])
  have HV : Hid (∀ r l, rowB (id, xs) = r → decide (lifeP born died now) = l → verB (id, xs, born, died) now = (r && l)) := Lib.hid (fun r l h1 h2 => by unfold verB; rw [h1]; show (r && decide (lifeP born died now)) = _; rw [h2])
  clear h
  cases hr : rowB (id, xs) with
  | false =>
    rw [hr] at HR
    rw [HV.out _ _ hr rfl, Bool.false_and]
    clear hr HV
    go_enter Tryz.func99, Tryz.ntmps99
    go_wp2_with fail
    generalize w.alloc (.cells #[.int .i64 id, .slice va xs.length vc, .int .i64 born, .int .i64 died] 147) = W at *
    refine (HR.out W (ints_below H.out d0.out)).mono ?_
    rintro e w1 ⟨rfl, b1⟩
    have k0 := (b1.block w.heap.size Y0.out).trans B0.out
    have b2 := d0.out.trans (b1.mono d0.out.size)
    go_wp2
    go_ret
    exact ⟨rfl, b2⟩
  | true =>
    rw [hr] at HR
    have HV2 := Lib.hid (fun l => HV.out _ l hr)
    clear hr HV
    by_cases h1 : 0 ≤ born ∧ born ≤ now
    · obtain ⟨h1a, h1b⟩ := h1
      by_cases h2 : died = -1
      · have hl : decide (lifeP born died now) = true := decide_eq_true ⟨h1a, h1b, Or.inl h2⟩
        rw [HV2.out _ hl]
        have e2 : (died == -1) = true := by simp [h2]
        clear hl h2
        go_enter Tryz.func99, Tryz.ntmps99
        go_wp2_with fail
        generalize w.alloc (.cells #[.int .i64 id, .slice va xs.length vc, .int .i64 born, .int .i64 died] 147) = W at *
        refine (HR.out W (ints_below H.out d0.out)).mono ?_
        rintro e w1 ⟨rfl, b1⟩
        have k0 := (b1.block w.heap.size Y0.out).trans B0.out
        have b2 := d0.out.trans (b1.mono d0.out.size)
        have p0 := (cell_of_row w1 _ 0 _ _ _ k0).trans (show _ = some (Value.int .i64 id) from rfl)
        have p1 := (cell_of_row w1 _ 1 _ _ _ k0).trans (show _ = some (Value.slice va xs.length vc) from rfl)
        have p2 := (cell_of_row w1 _ 2 _ _ _ k0).trans (show _ = some (Value.int .i64 born) from rfl)
        have p3 := (cell_of_row w1 _ 3 _ _ _ k0).trans (show _ = some (Value.int .i64 died) from rfl)
        clear k0
        go_wp2_with fail
        refine (in_yes born 0 now _ h1a h1b).mono ?_
        rintro e wx ⟨rfl, rfl⟩
        go_wp2
        go_ret
        exact ⟨rfl, b2⟩
      · have e2 : (died == -1) = false := by simp [h2]
        by_cases h3 : born + 1 ≤ died ∧ died ≤ now
        · have hl : decide (lifeP born died now) = true := decide_eq_true ⟨h1a, h1b, Or.inr ⟨by omega, h3.2⟩⟩
          rw [HV2.out _ hl]
          have H3 := Lib.hid h3
          clear hl h2 h3
          go_enter Tryz.func99, Tryz.ntmps99
          go_wp2_with fail
          generalize w.alloc (.cells #[.int .i64 id, .slice va xs.length vc, .int .i64 born, .int .i64 died] 147) = W at *
          refine (HR.out W (ints_below H.out d0.out)).mono ?_
          rintro e w1 ⟨rfl, b1⟩
          have k0 := (b1.block w.heap.size Y0.out).trans B0.out
          have b2 := d0.out.trans (b1.mono d0.out.size)
          have p0 := (cell_of_row w1 _ 0 _ _ _ k0).trans (show _ = some (Value.int .i64 id) from rfl)
          have p1 := (cell_of_row w1 _ 1 _ _ _ k0).trans (show _ = some (Value.slice va xs.length vc) from rfl)
          have p2 := (cell_of_row w1 _ 2 _ _ _ k0).trans (show _ = some (Value.int .i64 born) from rfl)
          have p3 := (cell_of_row w1 _ 3 _ _ _ k0).trans (show _ = some (Value.int .i64 died) from rfl)
          clear k0
          go_wp2_with fail
          refine (in_yes born 0 now _ h1a h1b).mono ?_
          rintro e wx ⟨rfl, rfl⟩
          go_wp2_with fail
          refine (in_yes died (born + 1) now _ H3.out.1 H3.out.2).mono ?_
          rintro e wx ⟨rfl, rfl⟩
          go_wp2
          go_ret
          exact ⟨rfl, b2⟩
        · have hl : decide (lifeP born died now) = false := decide_eq_false (fun g => by unfold lifeP at g; omega)
          rw [HV2.out _ hl]
          have H3 := Lib.hid h3
          clear hl h2 h3
          go_enter Tryz.func99, Tryz.ntmps99
          go_wp2_with fail
          generalize w.alloc (.cells #[.int .i64 id, .slice va xs.length vc, .int .i64 born, .int .i64 died] 147) = W at *
          refine (HR.out W (ints_below H.out d0.out)).mono ?_
          rintro e w1 ⟨rfl, b1⟩
          have k0 := (b1.block w.heap.size Y0.out).trans B0.out
          have b2 := d0.out.trans (b1.mono d0.out.size)
          have p0 := (cell_of_row w1 _ 0 _ _ _ k0).trans (show _ = some (Value.int .i64 id) from rfl)
          have p1 := (cell_of_row w1 _ 1 _ _ _ k0).trans (show _ = some (Value.slice va xs.length vc) from rfl)
          have p2 := (cell_of_row w1 _ 2 _ _ _ k0).trans (show _ = some (Value.int .i64 born) from rfl)
          have p3 := (cell_of_row w1 _ 3 _ _ _ k0).trans (show _ = some (Value.int .i64 died) from rfl)
          clear k0
          go_wp2_with fail
          refine (in_yes born 0 now _ h1a h1b).mono ?_
          rintro e wx ⟨rfl, rfl⟩
          go_wp2_with fail
          refine (in_no died (born + 1) now _ H3.out).mono ?_
          rintro e wx ⟨rfl, rfl⟩
          go_wp2
          go_ret
          exact ⟨rfl, b2⟩
    · have hl : decide (lifeP born died now) = false := decide_eq_false (fun g => h1 ⟨g.1, g.2.1⟩)
      rw [HV2.out _ hl]
      have H1 := Lib.hid h1
      clear hl h1
      go_enter Tryz.func99, Tryz.ntmps99
      go_wp2_with fail
      generalize w.alloc (.cells #[.int .i64 id, .slice va xs.length vc, .int .i64 born, .int .i64 died] 147) = W at *
      refine (HR.out W (ints_below H.out d0.out)).mono ?_
      rintro e w1 ⟨rfl, b1⟩
      have k0 := (b1.block w.heap.size Y0.out).trans B0.out
      have b2 := d0.out.trans (b1.mono d0.out.size)
      have p0 := (cell_of_row w1 _ 0 _ _ _ k0).trans (show _ = some (Value.int .i64 id) from rfl)
      have p1 := (cell_of_row w1 _ 1 _ _ _ k0).trans (show _ = some (Value.slice va xs.length vc) from rfl)
      have p2 := (cell_of_row w1 _ 2 _ _ _ k0).trans (show _ = some (Value.int .i64 born) from rfl)
      have p3 := (cell_of_row w1 _ 3 _ _ _ k0).trans (show _ = some (Value.int .i64 died) from rfl)
      clear k0
      go_wp2_with fail
      refine (in_no born 0 now _ H1.out).mono ?_
      rintro e wx ⟨rfl, rfl⟩
      go_wp2
      go_ret
      exact ⟨rfl, b2⟩
set_option maxHeartbeats 8000000 in
set_option maxRecDepth 100000 in
theorem specApart (i1 b1 d1 i2 b2 d2 : Int) (v1 v2 : Value) (w : World) :
    Calls Tryz.prog 100 #[.agg #[.int .i64 i1, v1, .int .i64 b1, .int .i64 d1], .agg #[.int .i64 i2, v2, .int .i64 b2, .int .i64 d2]] w fun e w' => e = .returned (.bool (decide (apartP i1 b1 d1 i2 b2 d2))) ∧ Below w.heap.size w w' := by
  have hb : Below w.heap.size w ((w.alloc (.cells #[.int .i64 i1, v1, .int .i64 b1, .int .i64 d1] 147)).alloc (.cells #[.int .i64 i2, v2, .int .i64 b2, .int .i64 d2] 147)) := ((Below.refl _ w).alloc (Nat.le_refl _) _).alloc (by simp) _
  by_cases q1 : i1 = i2
  · have e1 : (i1 != i2) = false := by simp [q1]
    have Q1 := Lib.hid q1
    clear q1
    by_cases q2 : d1 = -1
    · have e2 : (d1 != -1) = false := by simp [q2]
      have Q2 := Lib.hid q2
      clear q2
      by_cases q4 : d2 = -1
      · have e4 : (d2 != -1) = false := by simp [q4]
        have HD : Hid (decide (apartP i1 b1 d1 i2 b2 d2) = false) := Lib.hid (by have h1 := Q1.out; have h2 := Q2.out; exact decide_eq_false (fun g => by unfold apartP at g; omega))
        rw [HD.out]
        clear q4
        go_enter Tryz.func100, Tryz.ntmps100
        go_wp2
        go_ret
        exact ⟨ret_b (by first | rfl | simp [*]), hb⟩
      · have e4 : (d2 != -1) = true := by simp [q4]
        by_cases q5 : d2 ≤ b1
        · have q6 : d2 ≤ b1 := q5
          have HD : Hid (decide (apartP i1 b1 d1 i2 b2 d2) = true) := Lib.hid (decide_eq_true (Or.inr (Or.inr ⟨q4, q5⟩)))
          rw [HD.out]
          clear q4
          go_enter Tryz.func100, Tryz.ntmps100
          go_wp2
          go_ret
          exact ⟨ret_b (by first | rfl | simp [*]), hb⟩
        · have e5 : decide (d2 ≤ b1) = false := decide_eq_false q5
          have HD : Hid (decide (apartP i1 b1 d1 i2 b2 d2) = false) := Lib.hid (by have h1 := Q1.out; have h2 := Q2.out; exact decide_eq_false (fun g => by unfold apartP at g; omega))
          rw [HD.out]
          clear q4
          go_enter Tryz.func100, Tryz.ntmps100
          go_wp2
          go_ret
          exact ⟨ret_b (by first | rfl | simp [*]), hb⟩
    · have e2 : (d1 != -1) = true := by simp [q2]
      have Q2 := Lib.hid q2
      clear q2
      by_cases q3 : d1 ≤ b2
      · have q6 : d1 ≤ b2 := q3
        have HD : Hid (decide (apartP i1 b1 d1 i2 b2 d2) = true) := Lib.hid (decide_eq_true (Or.inr (Or.inl ⟨Q2.out, q3⟩)))
        rw [HD.out]
        go_enter Tryz.func100, Tryz.ntmps100
        go_wp2
        go_ret
        exact ⟨ret_b (by first | rfl | simp [*]), hb⟩
      · have e3 : decide (d1 ≤ b2) = false := decide_eq_false q3
        have Q3 := Lib.hid q3
        by_cases q4 : d2 = -1
        · have e4 : (d2 != -1) = false := by simp [q4]
          have HD : Hid (decide (apartP i1 b1 d1 i2 b2 d2) = false) := Lib.hid (by have h1 := Q1.out; have h2 := Q2.out; have h3 := Q3.out; exact decide_eq_false (fun g => by unfold apartP at g; omega))
          rw [HD.out]
          clear q4
          go_enter Tryz.func100, Tryz.ntmps100
          go_wp2
          go_ret
          exact ⟨ret_b (by first | rfl | simp [*]), hb⟩
        · have e4 : (d2 != -1) = true := by simp [q4]
          by_cases q5 : d2 ≤ b1
          · have q6 : d2 ≤ b1 := q5
            have HD : Hid (decide (apartP i1 b1 d1 i2 b2 d2) = true) := Lib.hid (decide_eq_true (Or.inr (Or.inr ⟨q4, q5⟩)))
            rw [HD.out]
            clear q4
            go_enter Tryz.func100, Tryz.ntmps100
            go_wp2
            go_ret
            exact ⟨ret_b (by first | rfl | simp [*]), hb⟩
          · have e5 : decide (d2 ≤ b1) = false := decide_eq_false q5
            have HD : Hid (decide (apartP i1 b1 d1 i2 b2 d2) = false) := Lib.hid (by have h1 := Q1.out; have h2 := Q2.out; have h3 := Q3.out; exact decide_eq_false (fun g => by unfold apartP at g; omega))
            rw [HD.out]
            clear q4
            go_enter Tryz.func100, Tryz.ntmps100
            go_wp2
            go_ret
            exact ⟨ret_b (by first | rfl | simp [*]), hb⟩
  · have e1 : (i1 != i2) = true := by simp [q1]
    have HD : Hid (decide (apartP i1 b1 d1 i2 b2 d2) = true) := Lib.hid (decide_eq_true (Or.inl q1))
    rw [HD.out]
    clear q1
    go_enter Tryz.func100, Tryz.ntmps100
    go_wp2
    go_ret
    exact ⟨ret_b (by first | rfl | simp [*]), hb⟩
/-- The answer: a slice of the call's own whose cells read as these versions. -/
def AllV (w : World) (l : List VerD) (e : Ending) (w' : World) : Prop := ∃ (v : Value) (L : List (List Value)), e = .returned v ∧ SlO 147 (tRaw 4) w' (since w) v L ∧ Sh tVersion w L l ∧ Below w.heap.size w w'
set_option maxHeartbeats 8000000 in
set_option maxRecDepth 100000 in
theorem specL7All (sv : Value) (ss : List (List VerD)) (now : Int) (w : World) (h : SlR tVersionS w sv ss) (hs : zL tVersionS ss ≤ 1048576) :
    Calls Tryz.prog 98 #[.agg #[sv, .int .i64 now]] w (AllV w ss.flatten) := by
  have H := Lib.hid h
  have HS := Lib.hid hs
  have hlen := zL_len hs
  have HF : Hid (ss.flatten.length ≤ 1048576) := Lib.hid (by have h1 := zL_all ss; have h2 := zL_len (T := tVersion) (xs := ss.flatten) (M := 1048576) (by omega); omega)
  obtain ⟨a, cap, rfl⟩ := slR_len h
  clear h hs
  have d0 := Lib.hid (show Below w.heap.size w ((w.alloc (.cells #[.slice a ss.length cap, .int .i64 now] 35)).alloc (.cells #[] 147)) from ((Below.refl _ _).alloc (Nat.le_refl _) _).alloc (by simp) _)
  have B0 : Hid (((w.alloc (.cells #[.slice a ss.length cap, .int .i64 now] 35)).alloc (.cells #[] 147)).heap[w.heap.size]? = some (.cells #[.slice a ss.length cap, .int .i64 now] 35 (0, 0))) := Lib.hid (by rw [Below.heap_alloc _ _ _ (by simp)]; exact heap_alloc_new w _)
  have Y0 : Hid (w.heap.size < ((w.alloc (.cells #[.slice a ss.length cap, .int .i64 now] 35)).alloc (.cells #[] 147)).heap.size) := Lib.hid (by simp [World.size_alloc]; omega)
  have P0 : Hid (SlO 147 (tRaw 4) ((w.alloc (.cells #[.slice a ss.length cap, .int .i64 now] 35)).alloc (.cells #[] 147)) (fun b => w.heap.size < b) (.slice (some ⟨w.heap.size + 1, 0, none⟩) 0 0) []) := Lib.hid (by have := slO_empty (T := tRaw 4) (w.alloc (.cells #[.slice a ss.length cap, .int .i64 now] 35)) 147 (fun b => w.heap.size < b) (by simp [World.size_alloc]); simpa only [World.size_alloc] using this)
  go_enter Tryz.func98, Tryz.ntmps98
  go_wp2
  go_loopw [3, 4] (fun o i wr => ∃ (k : Nat) (L : List (List Value)), k ≤ ss.length ∧ i = .int .i64 k ∧ SlO 147 (tRaw 4) wr (fun b => w.heap.size < b) o L ∧ Hid (Sh tVersion w L (cat ss k)) ∧ wr.heap[w.heap.size]? = some (.cells #[.slice a ss.length cap, .int .i64 now] 35 (0, 0)) ∧ Below w.heap.size w wr ∧ w.heap.size < wr.heap.size) (fun _ i _ => ss.length - (intOf i).toNat)
  case atStart => exact ⟨0, [], Nat.zero_le _, rfl, P0.out, Lib.hid (by rw [cat_zero]; exact sh_nil w), B0.out, d0.out, Y0.out⟩
  case round =>
    obtain ⟨k, L, hk, rfl, hown, hsh, hbox, hbel, hy⟩ := hrel
    clear d0 B0 Y0 P0
    obtain ⟨oa, oc, rfl⟩ := slO_len hown
    have c0 := (cell_of_row wr _ 0 _ _ _ hbox).trans (show _ = some (Value.slice a ss.length cap) from rfl)
    by_cases hlt : k < ss.length
    · obtain ⟨b, off, cap2, cs, hv, hbl, hcs, hR⟩ := slR_at H.out hlt
      simp only [Value.slice.injEq] at hv
      obtain ⟨rfl, _, rfl⟩ := hv
      obtain ⟨u, rfl, hU⟩ := hR
      have p0 : w.cell? ⟨b, off + k, none⟩ = some u := by have := hcs 0 Nat.one_pos; rw [show tVersionS.n = 1 from rfl, Nat.mul_one, Nat.add_zero] at this; exact this
      have hel := (hbel.cell (p := ⟨b, off + k, none⟩) hbl).trans p0
      obtain ⟨M, hM, hSh⟩ := slR_raw tVersion_law one_Version hU
      have HM := Lib.hid (slR_below (tRaw_law (by decide)) hM hbel)
      have HC : Hid (Sh tVersion w (L ++ M) (cat ss (k + 1))) := Lib.hid (by rw [← cat_step hlt]; exact sh_app hsh.out hSh)
      have HL : Hid (L.length + M.length ≤ 2097152) := Lib.hid (by have h1 := sh_len HC.out; have h2 := cat_le ss (k + 1); have h3 := HF.out; rw [List.length_append] at h1; omega)
      have i1 : (0 : Int) ≤ (k : Int) := by omega
      have i2 : (k : Int) < (ss.length : Int) := by omega
      obtain ⟨ua, uc, hu⟩ := slR_len hU
      have HOWN := Lib.hid hown
      have HB := Lib.hid hbox
      have HY := Lib.hid hy
      have HD := Lib.hid hbel
      have HUV : Hid (∃ m, u = .slice ua m uc) := Lib.hid ⟨_, hu⟩
      clear hcs p0 hU hM hSh hsh hown hbox hu hbel hy
      obtain ⟨m, rfl⟩ := HUV.out
      clear HUV
      go_wp2_with (at_builtin; refine append_flat (tRaw_law (by decide)) (flat_raw 4) info_R_Version Tryz.underlying143 rfl rfl (.tmp 13) (.tmp 18) rfl (fun b => w.heap.size < b) (fun b => w.heap.size < b) _ _ L M rfl rfl HOWN.out HM.out (fun b h => h) HY.out HL.out ?_)
      intro v' w4 ho4 t4
      have hb4 := (t4.block w.heap.size HY.out (fun h => Nat.lt_irrefl _ h)).trans HB.out
      have hy4 := Nat.lt_of_lt_of_le HY.out t4.size
      have hd4 := below_turn HD.out t4 (fun b h => Nat.le_of_lt h) (Nat.le_of_lt HY.out)
      clear HOWN HM HL HB HY HD t4 c0 hel
      go_wp2
      go_roundw
      case rel => exact ⟨k + 1, _, by omega, by go_num, ho4, HC, hb4, hd4, hy4⟩
      case measure => simp [intOf]; omega
    · obtain rfl : k = ss.length := by omega
      have HC : Hid (Sh tVersion w L ss.flatten) := Lib.hid (by rw [← cat_all]; exact hsh.out)
      clear hsh
      go_wp2
      go_ret
      exact ⟨_, L, rfl, slO_mono hown (fun b h => Nat.le_of_lt h), HC.out, hbel⟩
end Go.Proofs.YtdhglmoanpkeoaaGreatDoor
namespace Go.Proofs.YtdhglmoanpkeoaaGreatDoor
open Go.RowKit
set_option linter.unusedVariables false
set_option linter.unusedSimpArgs false
set_option maxHeartbeats 8000000 in
set_option maxRecDepth 100000 in
theorem specIsStore (sv : Value) (ss : List (List VerD)) (now : Int) (w : World) (h : SlR tVersionS w sv ss) (hs : zL tVersionS ss ≤ 1048576) :
    Calls Tryz.prog 39 #[.agg #[sv, .int .i64 now]] w (fun e w' => e = .returned (.bool (storeB ss now)) ∧ Below w.heap.size w w') := by
  have hlen := zL_len hs
  obtain ⟨a, cap, rfl⟩ := slR_len h
  have HC := Lib.hid (fun W g => specL7All (.slice a ss.length cap) ss now W g hs)
  have HZF : Hid (zL tVersion ss.flatten ≤ 1048576) := Lib.hid (by have := zL_all ss; omega)
  have H := Lib.hid h
  have HS := Lib.hid hs
  have d0 := Lib.hid (show Below w.heap.size w (w.alloc (.cells #[.slice a ss.length cap, .int .i64 now] 35)) from (Below.refl _ _).alloc (Nat.le_refl _) _)
  have B0 : Hid ((w.alloc (.cells #[.slice a ss.length cap, .int .i64 now] 35)).heap[w.heap.size]? = some (.cells #[.slice a ss.length cap, .int .i64 now] 35 (0, 0))) := Lib.hid (heap_alloc_new w _)
  have Y0 : Hid (w.heap.size < (w.alloc (.cells #[.slice a ss.length cap, .int .i64 now] 35)).heap.size) := Lib.hid (by simp [World.size_alloc])
  clear h hs
  by_cases hc : 1 ≤ ss.length ∧ ss.length ≤ 8
  rotate_left
  · have HF := Lib.hid (store_no_count (now := now) hc)
    have HI := Lib.hid (fun W => in_no (ss.length : Int) 1 8 W (by omega))
    clear hc
    rw [HF.out]
    go_enter Tryz.func39, Tryz.ntmps39
    go_wp2_with fail
    refine (HI.out _).mono ?_
    rintro e wx ⟨rfl, rfl⟩
    go_wp2
    go_ret
    exact ⟨rfl, d0.out⟩
  have HI1 := Lib.hid (fun W => in_yes (ss.length : Int) 1 8 W (by omega) (by omega))
  have HCN := Lib.hid hc
  by_cases hn : 0 ≤ now ∧ now ≤ 100000
  rotate_left
  · have HF := Lib.hid (store_no_now (ss := ss) hn)
    have HI := Lib.hid (fun W => in_no now 0 100000 W hn)
    clear hn
    rw [HF.out]
    go_enter Tryz.func39, Tryz.ntmps39
    go_wp2_with fail
    refine (HI1.out _).mono ?_
    rintro e wx ⟨rfl, rfl⟩
    go_wp2_with fail
    refine (HI.out _).mono ?_
    rintro e wx ⟨rfl, rfl⟩
    go_wp2
    go_ret
    exact ⟨rfl, d0.out⟩
  have HI2 := Lib.hid (fun W => in_yes now 0 100000 W hn.1 hn.2)
  have HNN := Lib.hid hn
  clear hc hn
  go_enter Tryz.func39, Tryz.ntmps39
  go_wp2_with fail
  refine (HI1.out _).mono ?_
  rintro e wx ⟨rfl, rfl⟩
  go_wp2_with fail
  refine (HI2.out _).mono ?_
  rintro e wx ⟨rfl, rfl⟩
  go_wp2
  generalize w.alloc (.cells #[.slice a ss.length cap, .int .i64 now] 35) = W at *
  have q0 := (cell_of_row W _ 0 _ _ _ B0.out).trans (show _ = some (Value.slice a ss.length cap) from rfl)
  have q1 := (cell_of_row W _ 1 _ _ _ B0.out).trans (show _ = some (Value.int .i64 now) from rfl)
  have G0 := Lib.hid q0
  have G1 := Lib.hid q1
  have HW := Lib.hid (slR_below tVersionS_law H.out d0.out)
  clear q0 q1 B0
  go_loopw [3] (fun i wr => ∃ k : Nat, k ≤ ss.length ∧ i = .int .i64 k ∧ Hid (ShortP ss k) ∧ Below W.heap.size W wr) (fun i _ => ss.length - (intOf i).toNat)
  case atStart => exact ⟨0, Nat.zero_le _, rfl, Lib.hid (fun j hj => by omega), Below.refl _ _⟩
  case round =>
    obtain ⟨k, hk, rfl, hsh, hbel⟩ := hrel
    have p0 := (hbel.cell (p := ⟨w.heap.size, 0, none⟩) Y0.out).trans G0.out
    have p1 := (hbel.cell (p := ⟨w.heap.size, 1, none⟩) Y0.out).trans G1.out
    by_cases hlt : k < ss.length
    · have i1 : (0 : Int) ≤ (k : Int) := by omega
      have i2 : (k : Int) < (ss.length : Int) := by omega
      obtain ⟨b, off, cap', cs, hv, hbl, hcs, hR⟩ := slR_at HW.out hlt
      simp only [Value.slice.injEq] at hv
      obtain ⟨rfl, _, rfl⟩ := hv
      obtain ⟨u, rfl, hU⟩ := hR
      change SlR tVersion W u (ss.getD k []) at hU
      have pe : W.cell? ⟨b, off + k, none⟩ = some u := by have := hcs 0 Nat.one_pos; rw [show tVersionS.n = 1 from rfl, Nat.mul_one, Nat.add_zero] at this; exact this
      have he := (hbel.cell (p := ⟨b, off + k, none⟩) hbl).trans pe
      have HNO := Lib.hid (fun g => store_no_short (ss := ss) (now := now) hlt g)
      have HYS : Hid ((ss.getD k []).length ≤ 4 → ShortP ss (k + 1)) := Lib.hid (fun g j hj => by
        by_cases e : j = k
        · rw [e]; exact g
        · exact hsh.out j (by omega))
      have HML := Lib.hid (zL_len (show zL tVersion (ss.getD k []) ≤ 1048576 from Nat.le_trans (zL_seg hlt) HS.out))
      obtain ⟨ua, uc, rfl⟩ := slR_len hU
      have HB := Lib.hid hbel
      clear hcs pe hU hsh hbel
      generalize (ss.getD k []).length = m at *
      by_cases hm : m ≤ 4
      · have HY := Lib.hid (HYS.out hm)
        have hmi : ¬ (4 : Int) < (m : Int) := by omega
        clear HYS HNO
        go_wp2
        go_roundw
        case rel => exact ⟨k + 1, by omega, by go_num, HY, HB.out⟩
        case measure => simp [intOf]; omega
      · have HF := Lib.hid (HNO.out hm)
        have hmi : (4 : Int) < (m : Int) := by omega
        clear HYS HNO
        go_wp2
        go_ret
        exact ⟨ret_b HF.out.symm, d0.out.trans (HB.out.mono d0.out.size)⟩
    · obtain rfl : k = ss.length := by omega
      have HSH := Lib.hid hsh.out
      clear hsh
      have HB := Lib.hid hbel
      clear hbel
      go_wp2_with fail
      refine (HC.out wr (slR_below tVersionS_law HW.out HB.out)).mono ?_
      rintro e w1 ⟨v, L, rfl, hown, hshv, b1⟩
      have hVR := raw_reads (T := tVersion) (by decide) hown (sh_below tVersion_law hshv b1)
      obtain ⟨va, vc, rfl⟩ := slO_len hown
      rw [sh_len hshv] at *
      have V := Lib.hid hVR
      have b2 := HB.out.trans (b1.mono HB.out.size)
      have D1 := Lib.hid (d0.out.trans (b2.mono d0.out.size))
      have CN := Lib.hid ((b2.cell (p := ⟨w.heap.size, 1, none⟩) Y0.out).trans G1.out)
      have YN := Lib.hid (Nat.lt_of_lt_of_le Y0.out b2.size)
      have HFL := Lib.hid (zL_len HZF.out)
      clear hVR hown hshv b1 b2 HB p0 p1 HW G0 G1
      have hfl := HFL.out
      obtain ⟨l, hl⟩ : ∃ l, l = ss.flatten := ⟨_, rfl⟩
      have HLL := Lib.hid hl
      rw [← hl] at V HFL hfl ⊢
      clear hl
      go_wp2
      go_loopw [5] (fun i wr => ∃ k : Nat, k ≤ l.length ∧ i = .int .i64 k ∧ Hid (VersP l now k) ∧ Below w1.heap.size w1 wr) (fun i _ => l.length - (intOf i).toNat)
      case atStart => exact ⟨0, Nat.zero_le _, rfl, Lib.hid (fun j hj => by omega), Below.refl _ _⟩
      case round =>
        obtain ⟨k, hk, rfl, hvs, hbel⟩ := hrel
        by_cases hlt : k < l.length
        · have i1 : (0 : Int) ≤ (k : Int) := by omega
          have i2 : (k : Int) < (l.length : Int) := by omega
          obtain ⟨b, off, cap', xa, xc, hv, hbl, c0, c1, c2, c3, hx⟩ := verR_at V.out hlt
          simp only [Value.slice.injEq] at hv
          obtain ⟨rfl, _, rfl⟩ := hv
          have HXL := Lib.hid (ver_len (by rw [HLL.out]; exact HZF.out) hlt)
          have HNV : Hid (verB (l.getD k v0D) now = false → storeB ss now = false) := Lib.hid (fun g => store_no_ver (i := k) (by rw [← HLL.out]; exact hlt) (by rw [← HLL.out]; exact g))
          have HNA : Hid (∀ j, j < k → apartB (l.getD k v0D) (l.getD j v0D) = false → storeB ss now = false) := Lib.hid (fun j hj g => store_no_apart (i := k) (k := j) (by rw [← HLL.out]; exact hlt) hj (by rw [← HLL.out]; exact g))
          have HST : Hid (verB (l.getD k v0D) now = true → (∀ j, j < k → apartB (l.getD k v0D) (l.getD j v0D) = true) → VersP l now (k + 1)) := Lib.hid (fun g1 g2 => vers_step hvs.out g1 g2)
          have HRX : Hid (Ints w1 (.slice xa (l.getD k v0D).2.1.length xc) (l.getD k v0D).2.1) := Lib.hid hx
          obtain ⟨x, hxe⟩ : ∃ x, x = l.getD k v0D := ⟨_, rfl⟩
          rw [← hxe] at HXL HNV HNA HST HRX c0 c1 c2 c3
          obtain ⟨id, xs, born, died⟩ := x
          simp only at c0 c1 c2 c3
          have C0 := Lib.hid c0
          have C1 := Lib.hid c1
          have C2 := Lib.hid c2
          have C3 := Lib.hid c3
          have HBL := Lib.hid hbl
          have d := Lib.hid hbel
          clear hx hxe c0 c1 c2 c3 hbl hbel hvs
          cases hver : verB (id, xs, born, died) now with
          | false =>
            have HF := Lib.hid (HNV.out hver)
            have HCV := Lib.hid (fun W g => hver ▸ specVersion id born died now (.slice xa xs.length xc) xs W g HXL.out HNN.out.2)
            clear hver HNV HNA HST
            go_wp2
            have p_C0 := (d.out.cell (p := ⟨b, off + k * 4, none⟩) HBL.out).trans C0.out
            have p_C1 := (d.out.cell (p := ⟨b, off + k * 4 + 1, none⟩) HBL.out).trans C1.out
            have p_C2 := (d.out.cell (p := ⟨b, off + k * 4 + 2, none⟩) HBL.out).trans C2.out
            have p_C3 := (d.out.cell (p := ⟨b, off + k * 4 + 3, none⟩) HBL.out).trans C3.out
            have p_CN := (d.out.cell (p := ⟨w.heap.size, 1, none⟩) YN.out).trans CN.out
            refine wp_region_held_drew (S := fun w' => w'.cell? ⟨b, off + k * 4, none⟩ = some (Value.int .i64 id) ∧ w'.cell? ⟨b, off + k * 4 + 1, none⟩ = some (Value.slice xa xs.length xc) ∧ w'.cell? ⟨b, off + k * 4 + 2, none⟩ = some (Value.int .i64 born) ∧ w'.cell? ⟨b, off + k * 4 + 3, none⟩ = some (Value.int .i64 died) ∧ w'.cell? ⟨w.heap.size, 1, none⟩ = some (.int .i64 now)) (by kernel_rfl) ⟨p_C0, p_C1, p_C2, p_C3, p_CN⟩ (fun hHeld => ?_)
            clear p_C0 p_C1 p_C2 p_C3 p_CN
            have cdr : Below wr.heap.size wr wr.drew := below_drew (Below.refl _ _)
            replace d := Lib.hid (d.out.trans (cdr.mono d.out.size))
            clear cdr
            refine take_runs (i := 0) (v := ?_) (by simp only [List.getElem?_toArray, List.getElem?_cons_succ, List.getElem?_cons_zero]; rfl) (by kernel_rfl) (by kernel_rfl) (by kernel_rfl) rfl (by exact fun _ _ _ h => h) (by rfl) ?_ (by assumption) ?_
            rotate_left
            · intro w hSw; (try dsimp only at hSw); go_simp; try (with_reducible rfl)
            try simp only [Act.put, List.setIfInBounds_toArray, List.set_cons_zero, List.set_cons_succ]
            refine take_runs (i := 1) (v := ?_) (by simp only [List.getElem?_toArray, List.getElem?_cons_succ, List.getElem?_cons_zero]; rfl) (by kernel_rfl) (by kernel_rfl) (by kernel_rfl) rfl (by exact fun _ _ _ h => h) (by rfl) ?_ (by assumption) ?_
            rotate_left
            · intro w hSw; (try dsimp only at hSw); go_simp; try (with_reducible rfl)
            try simp only [Act.put, List.setIfInBounds_toArray, List.set_cons_zero, List.set_cons_succ]
            refine take_runs (i := 2) (v := ?_) (by simp only [List.getElem?_toArray, List.getElem?_cons_succ, List.getElem?_cons_zero]; rfl) (by kernel_rfl) (by kernel_rfl) (by kernel_rfl) rfl (by exact fun _ _ _ h => h) (by rfl) ?_ (by assumption) ?_
            rotate_left
            · intro w hSw; (try dsimp only at hSw); go_simp; try (with_reducible rfl)
            try simp only [Act.put, List.setIfInBounds_toArray, List.set_cons_zero, List.set_cons_succ]
            refine take_runs (i := 3) (v := ?_) (by simp only [List.getElem?_toArray, List.getElem?_cons_succ, List.getElem?_cons_zero]; rfl) (by kernel_rfl) (by kernel_rfl) (by kernel_rfl) rfl (by exact fun _ _ _ h => h) (by rfl) ?_ (by assumption) ?_
            rotate_left
            · intro w hSw; (try dsimp only at hSw); go_simp; try (with_reducible rfl)
            try simp only [Act.put, List.setIfInBounds_toArray, List.set_cons_zero, List.set_cons_succ]
            refine take_runs (i := 4) (v := ?_) (by simp only [List.getElem?_toArray, List.getElem?_cons_succ, List.getElem?_cons_zero]; rfl) (by kernel_rfl) (by kernel_rfl) (by kernel_rfl) rfl (by exact fun _ _ _ h => h) (by rfl) ?_ (by assumption) ?_
            rotate_left
            · intro w hSw; (try dsimp only at hSw); go_simp; try (with_reducible rfl)
            try simp only [Act.put, List.setIfInBounds_toArray, List.set_cons_zero, List.set_cons_succ]
            refine take_runs (i := 5) (v := ?_) (by simp only [List.getElem?_toArray, List.getElem?_cons_succ, List.getElem?_cons_zero]; rfl) (by kernel_rfl) (by kernel_rfl) (by kernel_rfl) rfl (by exact fun _ _ _ h => h) (by rfl) ?_ (by assumption) ?_
            rotate_left
            · intro w hSw; (try dsimp only at hSw); go_simp; try (with_reducible rfl)
            try simp only [Act.put, List.setIfInBounds_toArray, List.set_cons_zero, List.set_cons_succ]
            refine wpAnyH_ready (rs := [6]) (by kernel_rfl) (by simp) ?_
            refine (AllReadyH.cons (o := _) (by simp only [List.getElem?_toArray, List.getElem?_cons_succ, List.getElem?_cons_zero]; rfl) (fun K hK => ?_) AllReadyH.nil)
            go_simp
            refine (HCV.out (wr.drew) (ints_below HRX.out d.out)).mono ?_
            rintro e w5 ⟨rfl, c5⟩
            replace d := Lib.hid (d.out.trans (c5.mono d.out.size))
            have Z_w5 := Lib.hid (show wr.heap.size ≤ w5.heap.size from c5.size)
            clear c5
            have p_C0 := (d.out.cell (p := ⟨b, off + k * 4, none⟩) HBL.out).trans C0.out
            have p_C1 := (d.out.cell (p := ⟨b, off + k * 4 + 1, none⟩) HBL.out).trans C1.out
            have p_C2 := (d.out.cell (p := ⟨b, off + k * 4 + 2, none⟩) HBL.out).trans C2.out
            have p_C3 := (d.out.cell (p := ⟨b, off + k * 4 + 3, none⟩) HBL.out).trans C3.out
            have p_CN := (d.out.cell (p := ⟨w.heap.size, 1, none⟩) YN.out).trans CN.out
            refine hK.out _ _ ⟨p_C0, p_C1, p_C2, p_C3, p_CN⟩ (fun hHeld => ?_)
            clear p_C0 p_C1 p_C2 p_C3 p_CN
            clear hK K
            try simp only [Act.put, List.setIfInBounds_toArray, List.set_cons_zero, List.set_cons_succ]
            refine take_runs (i := 7) (v := ?_) (by simp only [List.getElem?_toArray, List.getElem?_cons_succ, List.getElem?_cons_zero]; rfl) (by kernel_rfl) (by kernel_rfl) (by kernel_rfl) rfl (by exact fun _ _ _ h => h) (by rfl) ?_ (by assumption) ?_
            rotate_left
            · intro w hSw; (try dsimp only at hSw); go_simp; try (with_reducible rfl)
            try simp only [Act.put, List.setIfInBounds_toArray, List.set_cons_zero, List.set_cons_succ]
            refine wpAnyH_done (by kernel_rfl) ?_ _
            clear hHeld
            go_wp2
            go_ret
            exact ⟨ret_b HF.out.symm, D1.out.trans (d.out.mono D1.out.size)⟩
          | true =>
            have HCV := Lib.hid (fun W g => hver ▸ specVersion id born died now (.slice xa xs.length xc) xs W g HXL.out HNN.out.2)
            have HST2 := Lib.hid (HST.out hver)
            clear hver HNV HST
            go_wp2
            have p_C0 := (d.out.cell (p := ⟨b, off + k * 4, none⟩) HBL.out).trans C0.out
            have p_C1 := (d.out.cell (p := ⟨b, off + k * 4 + 1, none⟩) HBL.out).trans C1.out
            have p_C2 := (d.out.cell (p := ⟨b, off + k * 4 + 2, none⟩) HBL.out).trans C2.out
            have p_C3 := (d.out.cell (p := ⟨b, off + k * 4 + 3, none⟩) HBL.out).trans C3.out
            have p_CN := (d.out.cell (p := ⟨w.heap.size, 1, none⟩) YN.out).trans CN.out
            refine wp_region_held_drew (S := fun w' => w'.cell? ⟨b, off + k * 4, none⟩ = some (Value.int .i64 id) ∧ w'.cell? ⟨b, off + k * 4 + 1, none⟩ = some (Value.slice xa xs.length xc) ∧ w'.cell? ⟨b, off + k * 4 + 2, none⟩ = some (Value.int .i64 born) ∧ w'.cell? ⟨b, off + k * 4 + 3, none⟩ = some (Value.int .i64 died) ∧ w'.cell? ⟨w.heap.size, 1, none⟩ = some (.int .i64 now)) (by kernel_rfl) ⟨p_C0, p_C1, p_C2, p_C3, p_CN⟩ (fun hHeld => ?_)
            clear p_C0 p_C1 p_C2 p_C3 p_CN
            have cdr : Below wr.heap.size wr wr.drew := below_drew (Below.refl _ _)
            replace d := Lib.hid (d.out.trans (cdr.mono d.out.size))
            clear cdr
            refine take_runs (i := 0) (v := ?_) (by simp only [List.getElem?_toArray, List.getElem?_cons_succ, List.getElem?_cons_zero]; rfl) (by kernel_rfl) (by kernel_rfl) (by kernel_rfl) rfl (by exact fun _ _ _ h => h) (by rfl) ?_ (by assumption) ?_
            rotate_left
            · intro w hSw; (try dsimp only at hSw); go_simp; try (with_reducible rfl)
            try simp only [Act.put, List.setIfInBounds_toArray, List.set_cons_zero, List.set_cons_succ]
            refine take_runs (i := 1) (v := ?_) (by simp only [List.getElem?_toArray, List.getElem?_cons_succ, List.getElem?_cons_zero]; rfl) (by kernel_rfl) (by kernel_rfl) (by kernel_rfl) rfl (by exact fun _ _ _ h => h) (by rfl) ?_ (by assumption) ?_
            rotate_left
            · intro w hSw; (try dsimp only at hSw); go_simp; try (with_reducible rfl)
            try simp only [Act.put, List.setIfInBounds_toArray, List.set_cons_zero, List.set_cons_succ]
            refine take_runs (i := 2) (v := ?_) (by simp only [List.getElem?_toArray, List.getElem?_cons_succ, List.getElem?_cons_zero]; rfl) (by kernel_rfl) (by kernel_rfl) (by kernel_rfl) rfl (by exact fun _ _ _ h => h) (by rfl) ?_ (by assumption) ?_
            rotate_left
            · intro w hSw; (try dsimp only at hSw); go_simp; try (with_reducible rfl)
            try simp only [Act.put, List.setIfInBounds_toArray, List.set_cons_zero, List.set_cons_succ]
            refine take_runs (i := 3) (v := ?_) (by simp only [List.getElem?_toArray, List.getElem?_cons_succ, List.getElem?_cons_zero]; rfl) (by kernel_rfl) (by kernel_rfl) (by kernel_rfl) rfl (by exact fun _ _ _ h => h) (by rfl) ?_ (by assumption) ?_
            rotate_left
            · intro w hSw; (try dsimp only at hSw); go_simp; try (with_reducible rfl)
            try simp only [Act.put, List.setIfInBounds_toArray, List.set_cons_zero, List.set_cons_succ]
            refine take_runs (i := 4) (v := ?_) (by simp only [List.getElem?_toArray, List.getElem?_cons_succ, List.getElem?_cons_zero]; rfl) (by kernel_rfl) (by kernel_rfl) (by kernel_rfl) rfl (by exact fun _ _ _ h => h) (by rfl) ?_ (by assumption) ?_
            rotate_left
            · intro w hSw; (try dsimp only at hSw); go_simp; try (with_reducible rfl)
            try simp only [Act.put, List.setIfInBounds_toArray, List.set_cons_zero, List.set_cons_succ]
            refine take_runs (i := 5) (v := ?_) (by simp only [List.getElem?_toArray, List.getElem?_cons_succ, List.getElem?_cons_zero]; rfl) (by kernel_rfl) (by kernel_rfl) (by kernel_rfl) rfl (by exact fun _ _ _ h => h) (by rfl) ?_ (by assumption) ?_
            rotate_left
            · intro w hSw; (try dsimp only at hSw); go_simp; try (with_reducible rfl)
            try simp only [Act.put, List.setIfInBounds_toArray, List.set_cons_zero, List.set_cons_succ]
            refine wpAnyH_ready (rs := [6]) (by kernel_rfl) (by simp) ?_
            refine (AllReadyH.cons (o := _) (by simp only [List.getElem?_toArray, List.getElem?_cons_succ, List.getElem?_cons_zero]; rfl) (fun K hK => ?_) AllReadyH.nil)
            go_simp
            refine (HCV.out (wr.drew) (ints_below HRX.out d.out)).mono ?_
            rintro e w5 ⟨rfl, c5⟩
            replace d := Lib.hid (d.out.trans (c5.mono d.out.size))
            have Z_w5 := Lib.hid (show wr.heap.size ≤ w5.heap.size from c5.size)
            clear c5
            have p_C0 := (d.out.cell (p := ⟨b, off + k * 4, none⟩) HBL.out).trans C0.out
            have p_C1 := (d.out.cell (p := ⟨b, off + k * 4 + 1, none⟩) HBL.out).trans C1.out
            have p_C2 := (d.out.cell (p := ⟨b, off + k * 4 + 2, none⟩) HBL.out).trans C2.out
            have p_C3 := (d.out.cell (p := ⟨b, off + k * 4 + 3, none⟩) HBL.out).trans C3.out
            have p_CN := (d.out.cell (p := ⟨w.heap.size, 1, none⟩) YN.out).trans CN.out
            refine hK.out _ _ ⟨p_C0, p_C1, p_C2, p_C3, p_CN⟩ (fun hHeld => ?_)
            clear p_C0 p_C1 p_C2 p_C3 p_CN
            clear hK K
            try simp only [Act.put, List.setIfInBounds_toArray, List.set_cons_zero, List.set_cons_succ]
            refine take_runs (i := 7) (v := ?_) (by simp only [List.getElem?_toArray, List.getElem?_cons_succ, List.getElem?_cons_zero]; rfl) (by kernel_rfl) (by kernel_rfl) (by kernel_rfl) rfl (by exact fun _ _ _ h => h) (by rfl) ?_ (by assumption) ?_
            rotate_left
            · intro w hSw; (try dsimp only at hSw); go_simp; try (with_reducible rfl)
            try simp only [Act.put, List.setIfInBounds_toArray, List.set_cons_zero, List.set_cons_succ]
            refine wpAnyH_done (by kernel_rfl) ?_ _
            clear hHeld
            go_wp2
            go_loopw [6] (fun i wr => ∃ m : Nat, m ≤ k ∧ i = .int .i64 m ∧ Hid (∀ j, j < m → apartB (id, xs, born, died) (l.getD j v0D) = true) ∧ Below w1.heap.size w1 wr) (fun i _ => k - (intOf i).toNat)
            case atStart => exact ⟨0, Nat.zero_le _, rfl, Lib.hid (fun j hj => by omega), d.out⟩
            case round =>
              obtain ⟨m, hm, rfl, hap, hbel⟩ := hrel
              clear d
              by_cases hml : m < k
              · have j1 : (0 : Int) ≤ (m : Int) := by omega
                have j2 : (m : Int) < (l.length : Int) := by omega
                have j3 : (m : Int) < (k : Int) := by omega
                obtain ⟨b2, off2, cap2, ya, yc, hv, hbl2, y0, y1, y2, y3, hy⟩ := verR_at V.out (k := m) (by omega)
                simp only [Value.slice.injEq, Option.some.injEq, Addr.mk.injEq] at hv
                obtain ⟨⟨rfl, rfl, _⟩, _, rfl⟩ := hv
                have HNX := Lib.hid (HNA.out m hml)
                have HYX : Hid (apartB (id, xs, born, died) (l.getD m v0D) = true → ∀ j, j < m + 1 → apartB (id, xs, born, died) (l.getD j v0D) = true) := Lib.hid (fun g j hj => by
                  by_cases e : j = m
                  · rw [e]; exact g
                  · exact hap.out j (by omega))
                generalize l.getD m v0D = y at *
                obtain ⟨id2, ys, born2, died2⟩ := y
                simp only at y0 y1 y2 y3
                have E0 := Lib.hid y0
                have E1 := Lib.hid y1
                have E2 := Lib.hid y2
                have E3 := Lib.hid y3
                have d := Lib.hid hbel
                clear y0 y1 y2 y3 hy hap hbel
                have HCA := Lib.hid (specApart id born died id2 born2 died2 (.slice xa xs.length xc) (.slice ya ys.length yc))
                cases hapt : decide (apartP id born died id2 born2 died2) with
                | false =>
                  have HF := Lib.hid (HNX.out hapt)
                  rw [hapt] at HCA
                  clear hapt HNX HYX
                  go_wp2
                  have p_C0 := (d.out.cell (p := ⟨b, off + k * 4, none⟩) HBL.out).trans C0.out
                  have p_C1 := (d.out.cell (p := ⟨b, off + k * 4 + 1, none⟩) HBL.out).trans C1.out
                  have p_C2 := (d.out.cell (p := ⟨b, off + k * 4 + 2, none⟩) HBL.out).trans C2.out
                  have p_C3 := (d.out.cell (p := ⟨b, off + k * 4 + 3, none⟩) HBL.out).trans C3.out
                  have p_E0 := (d.out.cell (p := ⟨b, off + m * 4, none⟩) HBL.out).trans E0.out
                  have p_E1 := (d.out.cell (p := ⟨b, off + m * 4 + 1, none⟩) HBL.out).trans E1.out
                  have p_E2 := (d.out.cell (p := ⟨b, off + m * 4 + 2, none⟩) HBL.out).trans E2.out
                  have p_E3 := (d.out.cell (p := ⟨b, off + m * 4 + 3, none⟩) HBL.out).trans E3.out
                  refine wp_region_held_drew (S := fun w' => w'.cell? ⟨b, off + k * 4, none⟩ = some (Value.int .i64 id) ∧ w'.cell? ⟨b, off + k * 4 + 1, none⟩ = some (Value.slice xa xs.length xc) ∧ w'.cell? ⟨b, off + k * 4 + 2, none⟩ = some (Value.int .i64 born) ∧ w'.cell? ⟨b, off + k * 4 + 3, none⟩ = some (Value.int .i64 died) ∧ w'.cell? ⟨b, off + m * 4, none⟩ = some (Value.int .i64 id2) ∧ w'.cell? ⟨b, off + m * 4 + 1, none⟩ = some (Value.slice ya ys.length yc) ∧ w'.cell? ⟨b, off + m * 4 + 2, none⟩ = some (Value.int .i64 born2) ∧ w'.cell? ⟨b, off + m * 4 + 3, none⟩ = some (Value.int .i64 died2)) (by kernel_rfl) ⟨p_C0, p_C1, p_C2, p_C3, p_E0, p_E1, p_E2, p_E3⟩ (fun hHeld => ?_)
                  clear p_C0 p_C1 p_C2 p_C3 p_E0 p_E1 p_E2 p_E3
                  have cdr : Below wr.heap.size wr wr.drew := below_drew (Below.refl _ _)
                  replace d := Lib.hid (d.out.trans (cdr.mono d.out.size))
                  clear cdr
                  refine take_runs (i := 0) (v := ?_) (by simp only [List.getElem?_toArray, List.getElem?_cons_succ, List.getElem?_cons_zero]; rfl) (by kernel_rfl) (by kernel_rfl) (by kernel_rfl) rfl (by exact fun _ _ _ h => h) (by rfl) ?_ (by assumption) ?_
                  rotate_left
                  · intro w hSw; (try dsimp only at hSw); go_simp; try (with_reducible rfl)
                  try simp only [Act.put, List.setIfInBounds_toArray, List.set_cons_zero, List.set_cons_succ]
                  refine take_runs (i := 1) (v := ?_) (by simp only [List.getElem?_toArray, List.getElem?_cons_succ, List.getElem?_cons_zero]; rfl) (by kernel_rfl) (by kernel_rfl) (by kernel_rfl) rfl (by exact fun _ _ _ h => h) (by rfl) ?_ (by assumption) ?_
                  rotate_left
                  · intro w hSw; (try dsimp only at hSw); go_simp; try (with_reducible rfl)
                  try simp only [Act.put, List.setIfInBounds_toArray, List.set_cons_zero, List.set_cons_succ]
                  refine take_runs (i := 2) (v := ?_) (by simp only [List.getElem?_toArray, List.getElem?_cons_succ, List.getElem?_cons_zero]; rfl) (by kernel_rfl) (by kernel_rfl) (by kernel_rfl) rfl (by exact fun _ _ _ h => h) (by rfl) ?_ (by assumption) ?_
                  rotate_left
                  · intro w hSw; (try dsimp only at hSw); go_simp; try (with_reducible rfl)
                  try simp only [Act.put, List.setIfInBounds_toArray, List.set_cons_zero, List.set_cons_succ]
                  refine take_runs (i := 3) (v := ?_) (by simp only [List.getElem?_toArray, List.getElem?_cons_succ, List.getElem?_cons_zero]; rfl) (by kernel_rfl) (by kernel_rfl) (by kernel_rfl) rfl (by exact fun _ _ _ h => h) (by rfl) ?_ (by assumption) ?_
                  rotate_left
                  · intro w hSw; (try dsimp only at hSw); go_simp; try (with_reducible rfl)
                  try simp only [Act.put, List.setIfInBounds_toArray, List.set_cons_zero, List.set_cons_succ]
                  refine take_runs (i := 4) (v := ?_) (by simp only [List.getElem?_toArray, List.getElem?_cons_succ, List.getElem?_cons_zero]; rfl) (by kernel_rfl) (by kernel_rfl) (by kernel_rfl) rfl (by exact fun _ _ _ h => h) (by rfl) ?_ (by assumption) ?_
                  rotate_left
                  · intro w hSw; (try dsimp only at hSw); go_simp; try (with_reducible rfl)
                  try simp only [Act.put, List.setIfInBounds_toArray, List.set_cons_zero, List.set_cons_succ]
                  refine take_runs (i := 5) (v := ?_) (by simp only [List.getElem?_toArray, List.getElem?_cons_succ, List.getElem?_cons_zero]; rfl) (by kernel_rfl) (by kernel_rfl) (by kernel_rfl) rfl (by exact fun _ _ _ h => h) (by rfl) ?_ (by assumption) ?_
                  rotate_left
                  · intro w hSw; (try dsimp only at hSw); go_simp; try (with_reducible rfl)
                  try simp only [Act.put, List.setIfInBounds_toArray, List.set_cons_zero, List.set_cons_succ]
                  refine take_runs (i := 6) (v := ?_) (by simp only [List.getElem?_toArray, List.getElem?_cons_succ, List.getElem?_cons_zero]; rfl) (by kernel_rfl) (by kernel_rfl) (by kernel_rfl) rfl (by exact fun _ _ _ h => h) (by rfl) ?_ (by assumption) ?_
                  rotate_left
                  · intro w hSw; (try dsimp only at hSw); go_simp; try (with_reducible rfl)
                  try simp only [Act.put, List.setIfInBounds_toArray, List.set_cons_zero, List.set_cons_succ]
                  refine take_runs (i := 7) (v := ?_) (by simp only [List.getElem?_toArray, List.getElem?_cons_succ, List.getElem?_cons_zero]; rfl) (by kernel_rfl) (by kernel_rfl) (by kernel_rfl) rfl (by exact fun _ _ _ h => h) (by rfl) ?_ (by assumption) ?_
                  rotate_left
                  · intro w hSw; (try dsimp only at hSw); go_simp; try (with_reducible rfl)
                  try simp only [Act.put, List.setIfInBounds_toArray, List.set_cons_zero, List.set_cons_succ]
                  refine wpAnyH_ready (rs := [8]) (by kernel_rfl) (by simp) ?_
                  refine (AllReadyH.cons (o := _) (by simp only [List.getElem?_toArray, List.getElem?_cons_succ, List.getElem?_cons_zero]; rfl) (fun K hK => ?_) AllReadyH.nil)
                  go_simp
                  refine (HCA.out (wr.drew)).mono ?_
                  rintro e w6 ⟨rfl, c6⟩
                  replace d := Lib.hid (d.out.trans (c6.mono d.out.size))
                  have Z_w6 := Lib.hid (show wr.heap.size ≤ w6.heap.size from c6.size)
                  clear c6
                  have p_C0 := (d.out.cell (p := ⟨b, off + k * 4, none⟩) HBL.out).trans C0.out
                  have p_C1 := (d.out.cell (p := ⟨b, off + k * 4 + 1, none⟩) HBL.out).trans C1.out
                  have p_C2 := (d.out.cell (p := ⟨b, off + k * 4 + 2, none⟩) HBL.out).trans C2.out
                  have p_C3 := (d.out.cell (p := ⟨b, off + k * 4 + 3, none⟩) HBL.out).trans C3.out
                  have p_E0 := (d.out.cell (p := ⟨b, off + m * 4, none⟩) HBL.out).trans E0.out
                  have p_E1 := (d.out.cell (p := ⟨b, off + m * 4 + 1, none⟩) HBL.out).trans E1.out
                  have p_E2 := (d.out.cell (p := ⟨b, off + m * 4 + 2, none⟩) HBL.out).trans E2.out
                  have p_E3 := (d.out.cell (p := ⟨b, off + m * 4 + 3, none⟩) HBL.out).trans E3.out
                  refine hK.out _ _ ⟨p_C0, p_C1, p_C2, p_C3, p_E0, p_E1, p_E2, p_E3⟩ (fun hHeld => ?_)
                  clear p_C0 p_C1 p_C2 p_C3 p_E0 p_E1 p_E2 p_E3
                  clear hK K
                  try simp only [Act.put, List.setIfInBounds_toArray, List.set_cons_zero, List.set_cons_succ]
                  refine take_runs (i := 9) (v := ?_) (by simp only [List.getElem?_toArray, List.getElem?_cons_succ, List.getElem?_cons_zero]; rfl) (by kernel_rfl) (by kernel_rfl) (by kernel_rfl) rfl (by exact fun _ _ _ h => h) (by rfl) ?_ (by assumption) ?_
                  rotate_left
                  · intro w hSw; (try dsimp only at hSw); go_simp; try (with_reducible rfl)
                  try simp only [Act.put, List.setIfInBounds_toArray, List.set_cons_zero, List.set_cons_succ]
                  refine wpAnyH_done (by kernel_rfl) ?_ _
                  clear hHeld
                  go_wp2
                  go_ret
                  exact ⟨ret_b HF.out.symm, D1.out.trans (d.out.mono D1.out.size)⟩
                | true =>
                  have HA2 := Lib.hid (HYX.out hapt)
                  rw [hapt] at HCA
                  clear hapt HNX HYX
                  go_wp2
                  have p_C0 := (d.out.cell (p := ⟨b, off + k * 4, none⟩) HBL.out).trans C0.out
                  have p_C1 := (d.out.cell (p := ⟨b, off + k * 4 + 1, none⟩) HBL.out).trans C1.out
                  have p_C2 := (d.out.cell (p := ⟨b, off + k * 4 + 2, none⟩) HBL.out).trans C2.out
                  have p_C3 := (d.out.cell (p := ⟨b, off + k * 4 + 3, none⟩) HBL.out).trans C3.out
                  have p_E0 := (d.out.cell (p := ⟨b, off + m * 4, none⟩) HBL.out).trans E0.out
                  have p_E1 := (d.out.cell (p := ⟨b, off + m * 4 + 1, none⟩) HBL.out).trans E1.out
                  have p_E2 := (d.out.cell (p := ⟨b, off + m * 4 + 2, none⟩) HBL.out).trans E2.out
                  have p_E3 := (d.out.cell (p := ⟨b, off + m * 4 + 3, none⟩) HBL.out).trans E3.out
                  refine wp_region_held_drew (S := fun w' => w'.cell? ⟨b, off + k * 4, none⟩ = some (Value.int .i64 id) ∧ w'.cell? ⟨b, off + k * 4 + 1, none⟩ = some (Value.slice xa xs.length xc) ∧ w'.cell? ⟨b, off + k * 4 + 2, none⟩ = some (Value.int .i64 born) ∧ w'.cell? ⟨b, off + k * 4 + 3, none⟩ = some (Value.int .i64 died) ∧ w'.cell? ⟨b, off + m * 4, none⟩ = some (Value.int .i64 id2) ∧ w'.cell? ⟨b, off + m * 4 + 1, none⟩ = some (Value.slice ya ys.length yc) ∧ w'.cell? ⟨b, off + m * 4 + 2, none⟩ = some (Value.int .i64 born2) ∧ w'.cell? ⟨b, off + m * 4 + 3, none⟩ = some (Value.int .i64 died2)) (by kernel_rfl) ⟨p_C0, p_C1, p_C2, p_C3, p_E0, p_E1, p_E2, p_E3⟩ (fun hHeld => ?_)
                  clear p_C0 p_C1 p_C2 p_C3 p_E0 p_E1 p_E2 p_E3
                  have cdr : Below wr.heap.size wr wr.drew := below_drew (Below.refl _ _)
                  replace d := Lib.hid (d.out.trans (cdr.mono d.out.size))
                  clear cdr
                  refine take_runs (i := 0) (v := ?_) (by simp only [List.getElem?_toArray, List.getElem?_cons_succ, List.getElem?_cons_zero]; rfl) (by kernel_rfl) (by kernel_rfl) (by kernel_rfl) rfl (by exact fun _ _ _ h => h) (by rfl) ?_ (by assumption) ?_
                  rotate_left
                  · intro w hSw; (try dsimp only at hSw); go_simp; try (with_reducible rfl)
                  try simp only [Act.put, List.setIfInBounds_toArray, List.set_cons_zero, List.set_cons_succ]
                  refine take_runs (i := 1) (v := ?_) (by simp only [List.getElem?_toArray, List.getElem?_cons_succ, List.getElem?_cons_zero]; rfl) (by kernel_rfl) (by kernel_rfl) (by kernel_rfl) rfl (by exact fun _ _ _ h => h) (by rfl) ?_ (by assumption) ?_
                  rotate_left
                  · intro w hSw; (try dsimp only at hSw); go_simp; try (with_reducible rfl)
                  try simp only [Act.put, List.setIfInBounds_toArray, List.set_cons_zero, List.set_cons_succ]
                  refine take_runs (i := 2) (v := ?_) (by simp only [List.getElem?_toArray, List.getElem?_cons_succ, List.getElem?_cons_zero]; rfl) (by kernel_rfl) (by kernel_rfl) (by kernel_rfl) rfl (by exact fun _ _ _ h => h) (by rfl) ?_ (by assumption) ?_
                  rotate_left
                  · intro w hSw; (try dsimp only at hSw); go_simp; try (with_reducible rfl)
                  try simp only [Act.put, List.setIfInBounds_toArray, List.set_cons_zero, List.set_cons_succ]
                  refine take_runs (i := 3) (v := ?_) (by simp only [List.getElem?_toArray, List.getElem?_cons_succ, List.getElem?_cons_zero]; rfl) (by kernel_rfl) (by kernel_rfl) (by kernel_rfl) rfl (by exact fun _ _ _ h => h) (by rfl) ?_ (by assumption) ?_
                  rotate_left
                  · intro w hSw; (try dsimp only at hSw); go_simp; try (with_reducible rfl)
                  try simp only [Act.put, List.setIfInBounds_toArray, List.set_cons_zero, List.set_cons_succ]
                  refine take_runs (i := 4) (v := ?_) (by simp only [List.getElem?_toArray, List.getElem?_cons_succ, List.getElem?_cons_zero]; rfl) (by kernel_rfl) (by kernel_rfl) (by kernel_rfl) rfl (by exact fun _ _ _ h => h) (by rfl) ?_ (by assumption) ?_
                  rotate_left
                  · intro w hSw; (try dsimp only at hSw); go_simp; try (with_reducible rfl)
                  try simp only [Act.put, List.setIfInBounds_toArray, List.set_cons_zero, List.set_cons_succ]
                  refine take_runs (i := 5) (v := ?_) (by simp only [List.getElem?_toArray, List.getElem?_cons_succ, List.getElem?_cons_zero]; rfl) (by kernel_rfl) (by kernel_rfl) (by kernel_rfl) rfl (by exact fun _ _ _ h => h) (by rfl) ?_ (by assumption) ?_
                  rotate_left
                  · intro w hSw; (try dsimp only at hSw); go_simp; try (with_reducible rfl)
                  try simp only [Act.put, List.setIfInBounds_toArray, List.set_cons_zero, List.set_cons_succ]
                  refine take_runs (i := 6) (v := ?_) (by simp only [List.getElem?_toArray, List.getElem?_cons_succ, List.getElem?_cons_zero]; rfl) (by kernel_rfl) (by kernel_rfl) (by kernel_rfl) rfl (by exact fun _ _ _ h => h) (by rfl) ?_ (by assumption) ?_
                  rotate_left
                  · intro w hSw; (try dsimp only at hSw); go_simp; try (with_reducible rfl)
                  try simp only [Act.put, List.setIfInBounds_toArray, List.set_cons_zero, List.set_cons_succ]
                  refine take_runs (i := 7) (v := ?_) (by simp only [List.getElem?_toArray, List.getElem?_cons_succ, List.getElem?_cons_zero]; rfl) (by kernel_rfl) (by kernel_rfl) (by kernel_rfl) rfl (by exact fun _ _ _ h => h) (by rfl) ?_ (by assumption) ?_
                  rotate_left
                  · intro w hSw; (try dsimp only at hSw); go_simp; try (with_reducible rfl)
                  try simp only [Act.put, List.setIfInBounds_toArray, List.set_cons_zero, List.set_cons_succ]
                  refine wpAnyH_ready (rs := [8]) (by kernel_rfl) (by simp) ?_
                  refine (AllReadyH.cons (o := _) (by simp only [List.getElem?_toArray, List.getElem?_cons_succ, List.getElem?_cons_zero]; rfl) (fun K hK => ?_) AllReadyH.nil)
                  go_simp
                  refine (HCA.out (wr.drew)).mono ?_
                  rintro e w6 ⟨rfl, c6⟩
                  replace d := Lib.hid (d.out.trans (c6.mono d.out.size))
                  have Z_w6 := Lib.hid (show wr.heap.size ≤ w6.heap.size from c6.size)
                  clear c6
                  have p_C0 := (d.out.cell (p := ⟨b, off + k * 4, none⟩) HBL.out).trans C0.out
                  have p_C1 := (d.out.cell (p := ⟨b, off + k * 4 + 1, none⟩) HBL.out).trans C1.out
                  have p_C2 := (d.out.cell (p := ⟨b, off + k * 4 + 2, none⟩) HBL.out).trans C2.out
                  have p_C3 := (d.out.cell (p := ⟨b, off + k * 4 + 3, none⟩) HBL.out).trans C3.out
                  have p_E0 := (d.out.cell (p := ⟨b, off + m * 4, none⟩) HBL.out).trans E0.out
                  have p_E1 := (d.out.cell (p := ⟨b, off + m * 4 + 1, none⟩) HBL.out).trans E1.out
                  have p_E2 := (d.out.cell (p := ⟨b, off + m * 4 + 2, none⟩) HBL.out).trans E2.out
                  have p_E3 := (d.out.cell (p := ⟨b, off + m * 4 + 3, none⟩) HBL.out).trans E3.out
                  refine hK.out _ _ ⟨p_C0, p_C1, p_C2, p_C3, p_E0, p_E1, p_E2, p_E3⟩ (fun hHeld => ?_)
                  clear p_C0 p_C1 p_C2 p_C3 p_E0 p_E1 p_E2 p_E3
                  clear hK K
                  try simp only [Act.put, List.setIfInBounds_toArray, List.set_cons_zero, List.set_cons_succ]
                  refine take_runs (i := 9) (v := ?_) (by simp only [List.getElem?_toArray, List.getElem?_cons_succ, List.getElem?_cons_zero]; rfl) (by kernel_rfl) (by kernel_rfl) (by kernel_rfl) rfl (by exact fun _ _ _ h => h) (by rfl) ?_ (by assumption) ?_
                  rotate_left
                  · intro w hSw; (try dsimp only at hSw); go_simp; try (with_reducible rfl)
                  try simp only [Act.put, List.setIfInBounds_toArray, List.set_cons_zero, List.set_cons_succ]
                  refine wpAnyH_done (by kernel_rfl) ?_ _
                  clear hHeld
                  go_wp2
                  go_roundw
                  case rel => exact ⟨m + 1, by omega, by go_num, HA2, d.out⟩
                  case measure => simp [intOf]; omega
              · obtain rfl : m = k := by omega
                have HVK := Lib.hid (HST2.out hap.out)
                have HB := Lib.hid hbel
                clear hap hbel
                go_wp2
                go_roundw
                case rel => exact ⟨m + 1, by omega, by go_num, HVK, HB.out⟩
                case measure => simp [intOf]; omega
        · obtain rfl : k = l.length := by omega
          have HT : Hid (storeB ss now = true) := Lib.hid (store_yes HCN.out HNN.out HSH.out (by rw [← HLL.out]; exact hvs.out))
          have HB := Lib.hid (D1.out.trans (hbel.mono D1.out.size))
          clear hvs hbel
          go_wp2
          go_ret
          exact ⟨ret_b HT.out.symm, HB.out⟩
end Go.Proofs.YtdhglmoanpkeoaaGreatDoor
namespace Go.Proofs.YtdhglmoanpkeoaaGreatDoor
open Go.RowKit
set_option linter.unusedVariables false
set_option linter.unusedSimpArgs false
/-- As far as k the order is one. -/
def OrdTo (os : List Int) (k : Nat) : Prop := ∀ i, i < k → (0 ≤ os.getD i 0 ∧ os.getD i 0 ≤ 2) ∧ os.getD i 0 ∉ os.take i
theorem orderB_len {os : List Int} (h : ¬ os.length = 3) : orderB os = false := by unfold orderB; rw [decide_eq_false h]; rfl
theorem orderB_yes {os : List Int} (hl : os.length = 3) (h : OrdTo os os.length) : orderB os = true := by
  unfold orderB
  rw [decide_eq_true hl, Bool.true_and, List.all_eq_true]
  intro i hi
  have := h i (List.mem_range.1 hi)
  simp only [Bool.and_eq_true, decide_eq_true_eq, Bool.not_eq_true', decide_eq_false_iff_not]
  exact this
theorem orderB_no {os : List Int} {k : Nat} (hk : k < os.length) (h : ¬ ((0 ≤ os.getD k 0 ∧ os.getD k 0 ≤ 2) ∧ os.getD k 0 ∉ os.take k)) : orderB os = false := by
  rw [Bool.eq_false_iff]
  intro g
  unfold orderB at g
  rw [Bool.and_eq_true, List.all_eq_true] at g
  have := g.2 k (List.mem_range.2 hk)
  simp only [Bool.and_eq_true, decide_eq_true_eq, Bool.not_eq_true', decide_eq_false_iff_not] at this
  exact h this
theorem ints_take {w : World} {b off cap n : Nat} {xs : List Int} (h : Ints w (.slice (some ⟨b, off, none⟩) n cap) xs) {k : Nat} (hk : k ≤ xs.length) (hp : 0 < xs.length) : Ints w (.slice (some ⟨b, off, none⟩) k cap) (xs.take k) := by
  rcases h with ⟨rfl, _⟩ | ⟨b', off', cap', hv, h2, h3, h4⟩
  · simp at hp
  · simp only [Value.slice.injEq, Option.some.injEq, Addr.mk.injEq] at hv
    obtain ⟨⟨rfl, rfl, _⟩, _, rfl⟩ := hv
    have hl : (xs.take k).length = k := by rw [List.length_take]; omega
    refine Or.inr ⟨b, off, cap, by rw [hl], by omega, h3, fun j hj => ?_⟩
    rw [hl] at hj
    rw [h4 j (by omega)]
    have h1 : j < (xs.take k).length := by omega
    simp [List.getD, hj, show j < xs.length by omega]
theorem ints_cap {w : World} {b off cap n : Nat} {xs : List Int} (h : Ints w (.slice (some ⟨b, off, none⟩) n cap) xs) (hp : 0 < xs.length) : xs.length ≤ cap := by
  rcases h with ⟨rfl, _⟩ | ⟨b', off', cap', hv, h2, _⟩
  · simp at hp
  · simp only [Value.slice.injEq] at hv
    obtain ⟨_, _, rfl⟩ := hv
    exact h2
theorem has_yes (v : Value) (xs : List Int) (x : Int) (w : World) (h : Ints w v xs) (hn : xs.length ≤ 1048576) (hm : x ∈ xs) :
    Calls Tryz.prog 101 #[v, .int .i64 x] w fun e w' => e = .returned (.bool true) ∧ w' = w :=
  (specHas v xs x w h hn).mono fun e w' g => ⟨by rw [g.1, decide_eq_true hm], g.2.symm⟩
theorem has_no (v : Value) (xs : List Int) (x : Int) (w : World) (h : Ints w v xs) (hn : xs.length ≤ 1048576) (hm : x ∉ xs) :
    Calls Tryz.prog 101 #[v, .int .i64 x] w fun e w' => e = .returned (.bool false) ∧ w' = w :=
  (specHas v xs x w h hn).mono fun e w' g => ⟨by rw [g.1, decide_eq_false hm], g.2.symm⟩
set_option maxHeartbeats 4000000 in
set_option maxRecDepth 100000 in
theorem specL6Order (v : Value) (os : List Int) (w : World) (h : Ints w v os) (hn : os.length ≤ 1048576) :
    Calls Tryz.prog 41 #[v] w fun e w' => e = .returned (.bool (orderB os)) ∧ Below w.heap.size w w' := by
  have H := Lib.hid h
  obtain ⟨a, cap, rfl⟩ := ints_len h
  clear h
  by_cases hl : os.length = 3
  · have hne : ((os.length : Int) != 3) = false := by rw [hl]; rfl
    have HL := Lib.hid hl
    clear hl
    go_enter Tryz.func41, Tryz.ntmps41
    go_wp2
    clear hne
    go_loopw [3] (fun i wr => ∃ k : Nat, k ≤ os.length ∧ i = .int .i64 k ∧ Hid (OrdTo os k) ∧ Below w.heap.size w wr) (fun i _ => os.length - (intOf i).toNat)
    case atStart => exact ⟨0, Nat.zero_le _, rfl, Lib.hid (fun i hi => by omega), Below.refl _ _⟩
    case round =>
      obtain ⟨k, hk, rfl, hord, hbel⟩ := hrel
      by_cases hlt : k < os.length
      · have I := ints_below H.out hbel
        obtain ⟨b, off, cap', hv, hbl, hc⟩ := ints_cell I (by omega)
        simp only [Value.slice.injEq] at hv
        obtain ⟨rfl, _, rfl⟩ := hv
        have hcell := hc k hlt
        have hcp := ints_cap I (by omega)
        have HT := Lib.hid (ints_take I hk (by omega))
        have HTL : Hid ((os.take k).length ≤ 1048576) := Lib.hid (by rw [List.length_take]; omega)
        have i1 : (0 : Int) ≤ (k : Int) := by omega
        have i2 : (k : Int) < (os.length : Int) := by omega
        have i3 : (k : Int) ≤ (cap : Int) := by omega
        have i4 : k ≤ cap := by omega
        have HNO := Lib.hid (fun h => orderB_no (os := os) hlt h)
        have HST : Hid ((0 ≤ os.getD k 0 ∧ os.getD k 0 ≤ 2) ∧ os.getD k 0 ∉ os.take k → OrdTo os (k + 1)) := Lib.hid (fun h i hi => by
          by_cases e : i = k
          · rw [e]; exact h
          · exact hord.out i (by omega))
        clear hc I hord
        generalize os.getD k 0 = y at *
        generalize os.take k = ts at *
        by_cases hin : 0 ≤ y ∧ y ≤ 2
        · obtain ⟨g0, g1⟩ := hin
          by_cases hm : y ∈ ts
          · have HF := Lib.hid (HNO.out (fun q => q.2 hm))
            have HM := Lib.hid hm
            clear hm HNO HST
            go_wp2
            go_quiet ((first | (go_at_call 40; exact Calls.quiet_of_same (in_yes _ _ _ _ (by omega) (by omega))) | (go_at_call 101; exact Calls.quiet_of_same (has_yes _ ts _ _ HT.out HTL.out HM.out))))
            go_wp2
            go_ret
            exact ⟨ret_b HF.out.symm, below_same hbel rfl rfl rfl rfl⟩
          · have HS := Lib.hid (HST.out ⟨⟨g0, g1⟩, hm⟩)
            have HM := Lib.hid hm
            clear hm HNO HST
            go_wp2
            go_quiet ((first | (go_at_call 40; exact Calls.quiet_of_same (in_yes _ _ _ _ (by omega) (by omega))) | (go_at_call 101; exact Calls.quiet_of_same (has_no _ ts _ _ HT.out HTL.out HM.out))))
            go_wp2
            go_roundw
            case rel => exact ⟨k + 1, by omega, by go_num, HS, below_same hbel rfl rfl rfl rfl⟩
            case measure => simp [intOf]; omega
        · have HF := Lib.hid (HNO.out (fun q => hin q.1))
          have HI := Lib.hid hin
          clear hin HNO HST
          go_wp2
          go_quiet ((go_at_call 40; exact Calls.quiet_of_same (in_no _ _ _ _ HI.out)))
          go_wp2
          go_ret
          exact ⟨ret_b HF.out.symm, below_same hbel rfl rfl rfl rfl⟩
      · obtain rfl : k = os.length := by omega
        have HY := Lib.hid (orderB_yes HL.out hord.out)
        clear hord
        go_wp2
        go_ret
        exact ⟨ret_b HY.out.symm, hbel⟩
  · have hne : ((os.length : Int) != 3) = true := by rw [bne_iff_ne]; omega
    have HF := Lib.hid (orderB_len hl)
    clear hl
    go_enter Tryz.func41, Tryz.ntmps41
    go_wp2
    go_ret
    exact ⟨ret_b HF.out.symm, Below.refl _ _⟩
end Go.Proofs.YtdhglmoanpkeoaaGreatDoor
namespace Go.Proofs.YtdhglmoanpkeoaaGreatDoor
open Go.RowKit
set_option linter.unusedVariables false
set_option linter.unusedSimpArgs false
set_option maxHeartbeats 16000000 in
set_option maxRecDepth 100000 in
theorem specIsEngine (now cu st : Int) (sv ov av dv lv : Value) (ss : List (List VerD)) (os : List Int) (qs : List ActD) (ds : List FinD) (ls : List ChargeD) (w : World)
    (h0 : SlR tVersionS w sv ss) (h3 : SlR tInt w ov os) (h4 : SlR tActive w av qs) (h5 : SlR tFinished w dv ds) (h6 : SlR tCharge w lv ls) (hs : zL tVersionS ss + zL tInt os + zL tActive qs + zL tFinished ds + zL tCharge ls ≤ 1048576) :
    Calls Tryz.prog 9 #[.agg #[sv, .int .i64 now, .int .i64 cu, ov, av, dv, lv, .int .i64 st]] w (fun e w' => e = .returned (.bool (engB ((ss, now), cu, os, qs, ds, ls, st))) ∧ Below w.heap.size w w') := by
  have S0 : Hid (zL tVersionS ss ≤ 1048576) := Lib.hid (by omega)
  have S3 : Hid (zL tInt os ≤ 1048576) := Lib.hid (by omega)
  have S4 : Hid (zL tActive qs ≤ 1048576) := Lib.hid (by omega)
  have S5 : Hid (zL tFinished ds ≤ 1048576) := Lib.hid (by omega)
  have S6 : Hid (zL tCharge ls ≤ 1048576) := Lib.hid (by omega)
  clear hs
  obtain ⟨sa, sc, rfl⟩ := slR_len h0
  have H0 := Lib.hid h0
  obtain ⟨oa, oc, rfl⟩ := slR_len h3
  have H3 := Lib.hid h3
  obtain ⟨aa, ac, rfl⟩ := slR_len h4
  have H4 := Lib.hid h4
  obtain ⟨da, dc, rfl⟩ := slR_len h5
  have H5 := Lib.hid h5
  obtain ⟨la, lc, rfl⟩ := slR_len h6
  have H6 := Lib.hid h6
  have N0 := zL_len S0.out; have N3 := zL_len S3.out; have N4 := zL_len S4.out; have N5 := zL_len S5.out; have N6 := zL_len S6.out
  clear h0 h3 h4 h5 h6
  have d := Lib.hid (show Below w.heap.size w (w.alloc (.cells #[.slice sa ss.length sc, .int .i64 now, .int .i64 cu, .slice oa os.length oc, .slice aa qs.length ac, .slice da ds.length dc, .slice la ls.length lc, .int .i64 st] 40)) from ((Below.refl _ w).alloc (Nat.le_refl _) _))
  have B0 : Hid ((w.alloc (.cells #[.slice sa ss.length sc, .int .i64 now, .int .i64 cu, .slice oa os.length oc, .slice aa qs.length ac, .slice da ds.length dc, .slice la ls.length lc, .int .i64 st] 40)).heap[w.heap.size]? = some (.cells #[.slice sa ss.length sc, .int .i64 now, .int .i64 cu, .slice oa os.length oc, .slice aa qs.length ac, .slice da ds.length dc, .slice la ls.length lc, .int .i64 st] 40 (0, 0))) := Lib.hid (by
    exact heap_alloc_new w _)
  have YW : Hid (w.heap.size + 1 ≤ (w.alloc (.cells #[.slice sa ss.length sc, .int .i64 now, .int .i64 cu, .slice oa os.length oc, .slice aa qs.length ac, .slice da ds.length dc, .slice la ls.length lc, .int .i64 st] 40)).heap.size) := Lib.hid (by simp [World.size_alloc])
  go_enter Tryz.func9, Tryz.ntmps9
  go_wp2_with fail
  generalize (w.alloc (.cells #[.slice sa ss.length sc, .int .i64 now, .int .i64 cu, .slice oa os.length oc, .slice aa qs.length ac, .slice da ds.length dc, .slice la ls.length lc, .int .i64 st] 40)) = W at *
  refine (specIsStore (.slice sa ss.length sc) ss now W (slR_below tVersionS_law H0.out d.out) S0.out).mono ?_
  rintro e W1 ⟨rfl, c⟩
  replace B0 := Lib.hid ((c.block w.heap.size (Array.getElem?_eq_some_iff.1 B0.out).1).trans B0.out)
  replace d := Lib.hid (d.out.trans (c.mono d.out.size))
  have Z_W1 := Lib.hid (show W.heap.size ≤ W1.heap.size from c.size)
  clear c
  rcases Bool.eq_false_or_eq_true (storeB ss now) with hst | hst
  rotate_left
  · rw [hst]
    have HF := Lib.hid (eng_no1 (e := ((ss, now), cu, os, qs, ds, ls, st)) hst)
    clear hst
    have p_B0_0 := (cell_of_row W1 _ 0 _ _ _ B0.out).trans (show _ = some (Value.slice sa ss.length sc) from rfl)
    have p_B0_1 := (cell_of_row W1 _ 1 _ _ _ B0.out).trans (show _ = some (Value.int .i64 now) from rfl)
    have p_B0_2 := (cell_of_row W1 _ 2 _ _ _ B0.out).trans (show _ = some (Value.int .i64 cu) from rfl)
    have p_B0_3 := (cell_of_row W1 _ 3 _ _ _ B0.out).trans (show _ = some (Value.slice oa os.length oc) from rfl)
    have p_B0_4 := (cell_of_row W1 _ 4 _ _ _ B0.out).trans (show _ = some (Value.slice aa qs.length ac) from rfl)
    have p_B0_5 := (cell_of_row W1 _ 5 _ _ _ B0.out).trans (show _ = some (Value.slice da ds.length dc) from rfl)
    have p_B0_6 := (cell_of_row W1 _ 6 _ _ _ B0.out).trans (show _ = some (Value.slice la ls.length lc) from rfl)
    have p_B0_7 := (cell_of_row W1 _ 7 _ _ _ B0.out).trans (show _ = some (Value.int .i64 st) from rfl)
    go_wp2
    clear p_B0_0 p_B0_1 p_B0_2 p_B0_3 p_B0_4 p_B0_5 p_B0_6 p_B0_7
    go_ret
    exact ⟨ret_b HF.out.symm, d.out⟩
  rw [hst]
  have HST := Lib.hid hst
  clear hst
  have p_B0_0 := (cell_of_row W1 _ 0 _ _ _ B0.out).trans (show _ = some (Value.slice sa ss.length sc) from rfl)
  have p_B0_1 := (cell_of_row W1 _ 1 _ _ _ B0.out).trans (show _ = some (Value.int .i64 now) from rfl)
  have p_B0_2 := (cell_of_row W1 _ 2 _ _ _ B0.out).trans (show _ = some (Value.int .i64 cu) from rfl)
  have p_B0_3 := (cell_of_row W1 _ 3 _ _ _ B0.out).trans (show _ = some (Value.slice oa os.length oc) from rfl)
  have p_B0_4 := (cell_of_row W1 _ 4 _ _ _ B0.out).trans (show _ = some (Value.slice aa qs.length ac) from rfl)
  have p_B0_5 := (cell_of_row W1 _ 5 _ _ _ B0.out).trans (show _ = some (Value.slice da ds.length dc) from rfl)
  have p_B0_6 := (cell_of_row W1 _ 6 _ _ _ B0.out).trans (show _ = some (Value.slice la ls.length lc) from rfl)
  have p_B0_7 := (cell_of_row W1 _ 7 _ _ _ B0.out).trans (show _ = some (Value.int .i64 st) from rfl)
  go_wp2_with fail
  clear p_B0_0 p_B0_1 p_B0_2 p_B0_3 p_B0_4 p_B0_5 p_B0_6 p_B0_7
  refine (in_any cu 0 ((ss.length : Int) - 1) _).mono ?_
  rintro e wx ⟨rfl, hwx⟩
  obtain rfl := hwx.symm
  rcases Bool.eq_false_or_eq_true (decide (0 ≤ cu ∧ cu ≤ (ss.length : Int) - 1)) with hcu | hcu
  rotate_left
  · rw [hcu]
    have HF := Lib.hid (eng_no2 (e := ((ss, now), cu, os, qs, ds, ls, st)) (fun g => by have q := of_decide_eq_false hcu; have r := g.1; exact q ⟨r.1, by have := r.2; show cu ≤ (ss.length : Int) - 1; simp only at this; omega⟩))
    clear hcu
    have p_B0_0 := (cell_of_row W1 _ 0 _ _ _ B0.out).trans (show _ = some (Value.slice sa ss.length sc) from rfl)
    have p_B0_1 := (cell_of_row W1 _ 1 _ _ _ B0.out).trans (show _ = some (Value.int .i64 now) from rfl)
    have p_B0_2 := (cell_of_row W1 _ 2 _ _ _ B0.out).trans (show _ = some (Value.int .i64 cu) from rfl)
    have p_B0_3 := (cell_of_row W1 _ 3 _ _ _ B0.out).trans (show _ = some (Value.slice oa os.length oc) from rfl)
    have p_B0_4 := (cell_of_row W1 _ 4 _ _ _ B0.out).trans (show _ = some (Value.slice aa qs.length ac) from rfl)
    have p_B0_5 := (cell_of_row W1 _ 5 _ _ _ B0.out).trans (show _ = some (Value.slice da ds.length dc) from rfl)
    have p_B0_6 := (cell_of_row W1 _ 6 _ _ _ B0.out).trans (show _ = some (Value.slice la ls.length lc) from rfl)
    have p_B0_7 := (cell_of_row W1 _ 7 _ _ _ B0.out).trans (show _ = some (Value.int .i64 st) from rfl)
    go_wp2
    clear p_B0_0 p_B0_1 p_B0_2 p_B0_3 p_B0_4 p_B0_5 p_B0_6 p_B0_7
    go_ret
    exact ⟨ret_b HF.out.symm, d.out⟩
  rw [hcu]
  have HCU := Lib.hid hcu
  clear hcu
  have p_B0_0 := (cell_of_row W1 _ 0 _ _ _ B0.out).trans (show _ = some (Value.slice sa ss.length sc) from rfl)
  have p_B0_1 := (cell_of_row W1 _ 1 _ _ _ B0.out).trans (show _ = some (Value.int .i64 now) from rfl)
  have p_B0_2 := (cell_of_row W1 _ 2 _ _ _ B0.out).trans (show _ = some (Value.int .i64 cu) from rfl)
  have p_B0_3 := (cell_of_row W1 _ 3 _ _ _ B0.out).trans (show _ = some (Value.slice oa os.length oc) from rfl)
  have p_B0_4 := (cell_of_row W1 _ 4 _ _ _ B0.out).trans (show _ = some (Value.slice aa qs.length ac) from rfl)
  have p_B0_5 := (cell_of_row W1 _ 5 _ _ _ B0.out).trans (show _ = some (Value.slice da ds.length dc) from rfl)
  have p_B0_6 := (cell_of_row W1 _ 6 _ _ _ B0.out).trans (show _ = some (Value.slice la ls.length lc) from rfl)
  have p_B0_7 := (cell_of_row W1 _ 7 _ _ _ B0.out).trans (show _ = some (Value.int .i64 st) from rfl)
  go_wp2_with fail
  clear p_B0_0 p_B0_1 p_B0_2 p_B0_3 p_B0_4 p_B0_5 p_B0_6 p_B0_7
  refine (specL6Order (.slice oa os.length oc) os W1 (slR_ints (slR_below tInt_law H3.out d.out)) N3).mono ?_
  rintro e W2 ⟨rfl, c⟩
  replace B0 := Lib.hid ((c.block w.heap.size (Array.getElem?_eq_some_iff.1 B0.out).1).trans B0.out)
  replace d := Lib.hid (d.out.trans (c.mono d.out.size))
  have Z_W2 := Lib.hid (show W1.heap.size ≤ W2.heap.size from c.size)
  clear c
  rcases Bool.eq_false_or_eq_true (orderB os) with hor | hor
  rotate_left
  · rw [hor]
    have HF := Lib.hid (eng_no3 (e := ((ss, now), cu, os, qs, ds, ls, st)) hor)
    clear hor
    have p_B0_0 := (cell_of_row W2 _ 0 _ _ _ B0.out).trans (show _ = some (Value.slice sa ss.length sc) from rfl)
    have p_B0_1 := (cell_of_row W2 _ 1 _ _ _ B0.out).trans (show _ = some (Value.int .i64 now) from rfl)
    have p_B0_2 := (cell_of_row W2 _ 2 _ _ _ B0.out).trans (show _ = some (Value.int .i64 cu) from rfl)
    have p_B0_3 := (cell_of_row W2 _ 3 _ _ _ B0.out).trans (show _ = some (Value.slice oa os.length oc) from rfl)
    have p_B0_4 := (cell_of_row W2 _ 4 _ _ _ B0.out).trans (show _ = some (Value.slice aa qs.length ac) from rfl)
    have p_B0_5 := (cell_of_row W2 _ 5 _ _ _ B0.out).trans (show _ = some (Value.slice da ds.length dc) from rfl)
    have p_B0_6 := (cell_of_row W2 _ 6 _ _ _ B0.out).trans (show _ = some (Value.slice la ls.length lc) from rfl)
    have p_B0_7 := (cell_of_row W2 _ 7 _ _ _ B0.out).trans (show _ = some (Value.int .i64 st) from rfl)
    go_wp2
    clear p_B0_0 p_B0_1 p_B0_2 p_B0_3 p_B0_4 p_B0_5 p_B0_6 p_B0_7
    go_ret
    exact ⟨ret_b HF.out.symm, d.out⟩
  rw [hor]
  have HOR := Lib.hid hor
  clear hor
  by_cases hp1 : qs.length ≤ 8
  rotate_left
  · have HF := Lib.hid (eng_no2 (e := ((ss, now), cu, os, qs, ds, ls, st)) (fun g => hp1 g.2.1))
    have f1 : decide ((8 : Int) < (qs.length : Int)) = true := decide_eq_true (by omega)
    clear hp1
    have p_B0_0 := (cell_of_row W2 _ 0 _ _ _ B0.out).trans (show _ = some (Value.slice sa ss.length sc) from rfl)
    have p_B0_1 := (cell_of_row W2 _ 1 _ _ _ B0.out).trans (show _ = some (Value.int .i64 now) from rfl)
    have p_B0_2 := (cell_of_row W2 _ 2 _ _ _ B0.out).trans (show _ = some (Value.int .i64 cu) from rfl)
    have p_B0_3 := (cell_of_row W2 _ 3 _ _ _ B0.out).trans (show _ = some (Value.slice oa os.length oc) from rfl)
    have p_B0_4 := (cell_of_row W2 _ 4 _ _ _ B0.out).trans (show _ = some (Value.slice aa qs.length ac) from rfl)
    have p_B0_5 := (cell_of_row W2 _ 5 _ _ _ B0.out).trans (show _ = some (Value.slice da ds.length dc) from rfl)
    have p_B0_6 := (cell_of_row W2 _ 6 _ _ _ B0.out).trans (show _ = some (Value.slice la ls.length lc) from rfl)
    have p_B0_7 := (cell_of_row W2 _ 7 _ _ _ B0.out).trans (show _ = some (Value.int .i64 st) from rfl)
    go_wp2
    clear p_B0_0 p_B0_1 p_B0_2 p_B0_3 p_B0_4 p_B0_5 p_B0_6 p_B0_7
    go_ret
    exact ⟨ret_b HF.out.symm, d.out⟩
  have f1 : decide ((8 : Int) < (qs.length : Int)) = false := decide_eq_false (by omega)
  have HP1 := Lib.hid hp1
  clear hp1
  have p_B0_0 := (cell_of_row W2 _ 0 _ _ _ B0.out).trans (show _ = some (Value.slice sa ss.length sc) from rfl)
  have p_B0_1 := (cell_of_row W2 _ 1 _ _ _ B0.out).trans (show _ = some (Value.int .i64 now) from rfl)
  have p_B0_2 := (cell_of_row W2 _ 2 _ _ _ B0.out).trans (show _ = some (Value.int .i64 cu) from rfl)
  have p_B0_3 := (cell_of_row W2 _ 3 _ _ _ B0.out).trans (show _ = some (Value.slice oa os.length oc) from rfl)
  have p_B0_4 := (cell_of_row W2 _ 4 _ _ _ B0.out).trans (show _ = some (Value.slice aa qs.length ac) from rfl)
  have p_B0_5 := (cell_of_row W2 _ 5 _ _ _ B0.out).trans (show _ = some (Value.slice da ds.length dc) from rfl)
  have p_B0_6 := (cell_of_row W2 _ 6 _ _ _ B0.out).trans (show _ = some (Value.slice la ls.length lc) from rfl)
  have p_B0_7 := (cell_of_row W2 _ 7 _ _ _ B0.out).trans (show _ = some (Value.int .i64 st) from rfl)
  go_wp2_with fail
  clear p_B0_0 p_B0_1 p_B0_2 p_B0_3 p_B0_4 p_B0_5 p_B0_6 p_B0_7 f1
  refine (in_any st 0 100000 _).mono ?_
  rintro e wx ⟨rfl, hwx⟩
  obtain rfl := hwx.symm
  rcases Bool.eq_false_or_eq_true (decide (0 ≤ st ∧ st ≤ 100000)) with hsp | hsp
  rotate_left
  · rw [hsp]
    have HF := Lib.hid (eng_no2 (e := ((ss, now), cu, os, qs, ds, ls, st)) (fun g => of_decide_eq_false hsp g.2.2.1))
    clear hsp
    have p_B0_0 := (cell_of_row W2 _ 0 _ _ _ B0.out).trans (show _ = some (Value.slice sa ss.length sc) from rfl)
    have p_B0_1 := (cell_of_row W2 _ 1 _ _ _ B0.out).trans (show _ = some (Value.int .i64 now) from rfl)
    have p_B0_2 := (cell_of_row W2 _ 2 _ _ _ B0.out).trans (show _ = some (Value.int .i64 cu) from rfl)
    have p_B0_3 := (cell_of_row W2 _ 3 _ _ _ B0.out).trans (show _ = some (Value.slice oa os.length oc) from rfl)
    have p_B0_4 := (cell_of_row W2 _ 4 _ _ _ B0.out).trans (show _ = some (Value.slice aa qs.length ac) from rfl)
    have p_B0_5 := (cell_of_row W2 _ 5 _ _ _ B0.out).trans (show _ = some (Value.slice da ds.length dc) from rfl)
    have p_B0_6 := (cell_of_row W2 _ 6 _ _ _ B0.out).trans (show _ = some (Value.slice la ls.length lc) from rfl)
    have p_B0_7 := (cell_of_row W2 _ 7 _ _ _ B0.out).trans (show _ = some (Value.int .i64 st) from rfl)
    go_wp2
    clear p_B0_0 p_B0_1 p_B0_2 p_B0_3 p_B0_4 p_B0_5 p_B0_6 p_B0_7
    go_ret
    exact ⟨ret_b HF.out.symm, d.out⟩
  rw [hsp]
  have HSP := Lib.hid hsp
  clear hsp
  by_cases hp2 : ds.length ≤ 1000
  rotate_left
  · have HF := Lib.hid (eng_no2 (e := ((ss, now), cu, os, qs, ds, ls, st)) (fun g => hp2 g.2.2.2.1))
    have f2 : decide ((1000 : Int) < (ds.length : Int)) = true := decide_eq_true (by omega)
    clear hp2
    have p_B0_0 := (cell_of_row W2 _ 0 _ _ _ B0.out).trans (show _ = some (Value.slice sa ss.length sc) from rfl)
    have p_B0_1 := (cell_of_row W2 _ 1 _ _ _ B0.out).trans (show _ = some (Value.int .i64 now) from rfl)
    have p_B0_2 := (cell_of_row W2 _ 2 _ _ _ B0.out).trans (show _ = some (Value.int .i64 cu) from rfl)
    have p_B0_3 := (cell_of_row W2 _ 3 _ _ _ B0.out).trans (show _ = some (Value.slice oa os.length oc) from rfl)
    have p_B0_4 := (cell_of_row W2 _ 4 _ _ _ B0.out).trans (show _ = some (Value.slice aa qs.length ac) from rfl)
    have p_B0_5 := (cell_of_row W2 _ 5 _ _ _ B0.out).trans (show _ = some (Value.slice da ds.length dc) from rfl)
    have p_B0_6 := (cell_of_row W2 _ 6 _ _ _ B0.out).trans (show _ = some (Value.slice la ls.length lc) from rfl)
    have p_B0_7 := (cell_of_row W2 _ 7 _ _ _ B0.out).trans (show _ = some (Value.int .i64 st) from rfl)
    go_wp2
    clear p_B0_0 p_B0_1 p_B0_2 p_B0_3 p_B0_4 p_B0_5 p_B0_6 p_B0_7
    go_ret
    exact ⟨ret_b HF.out.symm, d.out⟩
  have f2 : decide ((1000 : Int) < (ds.length : Int)) = false := decide_eq_false (by omega)
  have HP2 := Lib.hid hp2
  clear hp2
  by_cases hp3 : ls.length ≤ 1000
  rotate_left
  · have HF := Lib.hid (eng_no2 (e := ((ss, now), cu, os, qs, ds, ls, st)) (fun g => hp3 g.2.2.2.2))
    have f3 : decide ((1000 : Int) < (ls.length : Int)) = true := decide_eq_true (by omega)
    clear hp3
    have p_B0_0 := (cell_of_row W2 _ 0 _ _ _ B0.out).trans (show _ = some (Value.slice sa ss.length sc) from rfl)
    have p_B0_1 := (cell_of_row W2 _ 1 _ _ _ B0.out).trans (show _ = some (Value.int .i64 now) from rfl)
    have p_B0_2 := (cell_of_row W2 _ 2 _ _ _ B0.out).trans (show _ = some (Value.int .i64 cu) from rfl)
    have p_B0_3 := (cell_of_row W2 _ 3 _ _ _ B0.out).trans (show _ = some (Value.slice oa os.length oc) from rfl)
    have p_B0_4 := (cell_of_row W2 _ 4 _ _ _ B0.out).trans (show _ = some (Value.slice aa qs.length ac) from rfl)
    have p_B0_5 := (cell_of_row W2 _ 5 _ _ _ B0.out).trans (show _ = some (Value.slice da ds.length dc) from rfl)
    have p_B0_6 := (cell_of_row W2 _ 6 _ _ _ B0.out).trans (show _ = some (Value.slice la ls.length lc) from rfl)
    have p_B0_7 := (cell_of_row W2 _ 7 _ _ _ B0.out).trans (show _ = some (Value.int .i64 st) from rfl)
    go_wp2
    clear p_B0_0 p_B0_1 p_B0_2 p_B0_3 p_B0_4 p_B0_5 p_B0_6 p_B0_7
    go_ret
    exact ⟨ret_b HF.out.symm, d.out⟩
  have f3 : decide ((1000 : Int) < (ls.length : Int)) = false := decide_eq_false (by omega)
  have HP3 := Lib.hid hp3
  clear hp3
  have HH : Hid (engHP ((ss, now), cu, os, qs, ds, ls, st)) := Lib.hid ⟨⟨(of_decide_eq_true HCU.out).1, by have := (of_decide_eq_true HCU.out).2; show cu < (ss.length : Int); omega⟩, HP1.out, of_decide_eq_true HSP.out, HP2.out, HP3.out⟩
  have p_B0_0 := (cell_of_row W2 _ 0 _ _ _ B0.out).trans (show _ = some (Value.slice sa ss.length sc) from rfl)
  have p_B0_1 := (cell_of_row W2 _ 1 _ _ _ B0.out).trans (show _ = some (Value.int .i64 now) from rfl)
  have p_B0_2 := (cell_of_row W2 _ 2 _ _ _ B0.out).trans (show _ = some (Value.int .i64 cu) from rfl)
  have p_B0_3 := (cell_of_row W2 _ 3 _ _ _ B0.out).trans (show _ = some (Value.slice oa os.length oc) from rfl)
  have p_B0_4 := (cell_of_row W2 _ 4 _ _ _ B0.out).trans (show _ = some (Value.slice aa qs.length ac) from rfl)
  have p_B0_5 := (cell_of_row W2 _ 5 _ _ _ B0.out).trans (show _ = some (Value.slice da ds.length dc) from rfl)
  have p_B0_6 := (cell_of_row W2 _ 6 _ _ _ B0.out).trans (show _ = some (Value.slice la ls.length lc) from rfl)
  have p_B0_7 := (cell_of_row W2 _ 7 _ _ _ B0.out).trans (show _ = some (Value.int .i64 st) from rfl)
  go_wp2
  clear p_B0_0 p_B0_1 p_B0_2 p_B0_3 p_B0_4 p_B0_5 p_B0_6 p_B0_7
  clear f2 f3
  go_loopw [3] (fun i wr => ∃ k : Nat, k ≤ qs.length ∧ i = .int .i64 k ∧ Hid (ActsTo (ss, now) qs k) ∧ Below W2.heap.size W2 wr) (fun i _ => qs.length - (intOf i).toNat)
  case atStart => exact ⟨0, Nat.zero_le _, rfl, Lib.hid (actsTo_zero _ _), Below.refl _ _⟩
  case round =>
    obtain ⟨k, hk, rfl, hno, c⟩ := hrel
    have cw := Lib.hid c
    replace B0 := Lib.hid ((c.block w.heap.size (Array.getElem?_eq_some_iff.1 B0.out).1).trans B0.out)
    replace d := Lib.hid (d.out.trans (c.mono d.out.size))
    clear c
    by_cases hlt : k < qs.length
    · have i1 : (0 : Int) ≤ (k : Int) := by omega
      have i2 : (k : Int) < (qs.length : Int) := by omega
      have hz := zL_at S4.out hlt
      obtain ⟨b, off, cap', p2, c2, p3, c3, p5, c5, p9, c9, hv, hbl, e0, e1, e2, e3, e4, e5, e6, e7, e8, e9, s2, s3, s5, s9⟩ := act_at H4.out hlt
      simp only [Value.slice.injEq] at hv
      obtain ⟨rfl, _, rfl⟩ := hv
      change tActive.sz (qs.getD k a0D) ≤ 1048576 at hz
      have HNO : Hid (actB (ss, now) (qs.getD k a0D) = false → engB ((ss, now), cu, os, qs, ds, ls, st) = false) := Lib.hid (fun g => eng_no4 (e := ((ss, now), cu, os, qs, ds, ls, st)) (acts_no hlt (Or.inl g)))
      have HNL : Hid (0 < k → ¬ (qs.getD (k - 1) a0D).1.1 < (qs.getD k a0D).1.1 → engB ((ss, now), cu, os, qs, ds, ls, st) = false) := Lib.hid (fun g1 g2 => eng_no4 (e := ((ss, now), cu, os, qs, ds, ls, st)) (acts_no hlt (Or.inr ⟨g1, g2⟩)))
      have HST : Hid (actB (ss, now) (qs.getD k a0D) = true → (0 < k → (qs.getD (k - 1) a0D).1.1 < (qs.getD k a0D).1.1) → ActsTo (ss, now) qs (k + 1)) := Lib.hid (fun g1 g2 => actsTo_step hno.out g1 g2)
      have HBL := Lib.hid hbl
      clear hno hbl
      obtain ⟨x, hx⟩ : ∃ x, x = qs.getD k a0D := ⟨_, rfl⟩
      rw [← hx] at hz HNO HNL HST e0 e1 e2 e3 e4 e5 e6 e7 e8 e9 s2 s3 s5 s9
      clear hx
      obtain ⟨⟨a0, a1, x2, x3⟩, a4, x5, a6, a7, a8, x9⟩ := x
      rw [tActive_sz] at hz
      dsimp only at *
      have HC := Lib.hid (fun W g2 g3 g5 g9 => specL9Active now cu st a0 a1 a4 a6 a7 a8 sa sc (.slice oa os.length oc) (.slice (some ⟨b, off, none⟩) qs.length ac) (.slice da ds.length dc) (.slice la ls.length lc) (.slice p2 x2.length c2) (.slice p3 x3.length c3) (.slice p5 x5.length c5) (.slice p9 x9.length c9) ss x2 x3 x5 x9 W g2 g3 g5 g9 N0 (by omega) (by omega) (by omega) (by omega))
      have T2 := Lib.hid s2; have T3 := Lib.hid s3; have T5 := Lib.hid s5; have T9 := Lib.hid s9
      clear s2 s3 s5 s9 hz
      have E0 := Lib.hid e0
      have E1 := Lib.hid e1
      have E2 := Lib.hid e2
      have E3 := Lib.hid e3
      have E4 := Lib.hid e4
      have E5 := Lib.hid e5
      have E6 := Lib.hid e6
      have E7 := Lib.hid e7
      have E8 := Lib.hid e8
      have E9 := Lib.hid e9
      clear e0 e1 e2 e3 e4 e5 e6 e7 e8 e9
      cases hab : actB (ss, now) ((a0, a1, x2, x3), a4, x5, a6, a7, a8, x9) with
      | false =>
        have HF := Lib.hid (HNO.out hab)
        have HAB := Lib.hid hab
        clear hab HNO HNL HST
        have p_B0_0 := (cell_of_row wr _ 0 _ _ _ B0.out).trans (show _ = some (Value.slice sa ss.length sc) from rfl)
        have p_B0_1 := (cell_of_row wr _ 1 _ _ _ B0.out).trans (show _ = some (Value.int .i64 now) from rfl)
        have p_B0_2 := (cell_of_row wr _ 2 _ _ _ B0.out).trans (show _ = some (Value.int .i64 cu) from rfl)
        have p_B0_3 := (cell_of_row wr _ 3 _ _ _ B0.out).trans (show _ = some (Value.slice oa os.length oc) from rfl)
        have p_B0_4 := (cell_of_row wr _ 4 _ _ _ B0.out).trans (show _ = some (Value.slice (some ⟨b, off, none⟩) qs.length ac) from rfl)
        have p_B0_5 := (cell_of_row wr _ 5 _ _ _ B0.out).trans (show _ = some (Value.slice da ds.length dc) from rfl)
        have p_B0_6 := (cell_of_row wr _ 6 _ _ _ B0.out).trans (show _ = some (Value.slice la ls.length lc) from rfl)
        have p_B0_7 := (cell_of_row wr _ 7 _ _ _ B0.out).trans (show _ = some (Value.int .i64 st) from rfl)
        go_wp2
        clear p_B0_0 p_B0_1 p_B0_2 p_B0_3 p_B0_4 p_B0_5 p_B0_6 p_B0_7
        have p_B0_0 := (cell_of_row wr _ 0 _ _ _ B0.out).trans (show _ = some (Value.slice sa ss.length sc) from rfl)
        have p_B0_1 := (cell_of_row wr _ 1 _ _ _ B0.out).trans (show _ = some (Value.int .i64 now) from rfl)
        have p_B0_2 := (cell_of_row wr _ 2 _ _ _ B0.out).trans (show _ = some (Value.int .i64 cu) from rfl)
        have p_B0_3 := (cell_of_row wr _ 3 _ _ _ B0.out).trans (show _ = some (Value.slice oa os.length oc) from rfl)
        have p_B0_4 := (cell_of_row wr _ 4 _ _ _ B0.out).trans (show _ = some (Value.slice (some ⟨b, off, none⟩) qs.length ac) from rfl)
        have p_B0_5 := (cell_of_row wr _ 5 _ _ _ B0.out).trans (show _ = some (Value.slice da ds.length dc) from rfl)
        have p_B0_6 := (cell_of_row wr _ 6 _ _ _ B0.out).trans (show _ = some (Value.slice la ls.length lc) from rfl)
        have p_B0_7 := (cell_of_row wr _ 7 _ _ _ B0.out).trans (show _ = some (Value.int .i64 st) from rfl)
        have p_E0 := (d.out.cell (p := ⟨b, off + k * 10, none⟩) HBL.out).trans E0.out
        have p_E1 := (d.out.cell (p := ⟨b, off + k * 10 + 1, none⟩) HBL.out).trans E1.out
        have p_E2 := (d.out.cell (p := ⟨b, off + k * 10 + 2, none⟩) HBL.out).trans E2.out
        have p_E3 := (d.out.cell (p := ⟨b, off + k * 10 + 3, none⟩) HBL.out).trans E3.out
        have p_E4 := (d.out.cell (p := ⟨b, off + k * 10 + 4, none⟩) HBL.out).trans E4.out
        have p_E5 := (d.out.cell (p := ⟨b, off + k * 10 + 5, none⟩) HBL.out).trans E5.out
        have p_E6 := (d.out.cell (p := ⟨b, off + k * 10 + 6, none⟩) HBL.out).trans E6.out
        have p_E7 := (d.out.cell (p := ⟨b, off + k * 10 + 7, none⟩) HBL.out).trans E7.out
        have p_E8 := (d.out.cell (p := ⟨b, off + k * 10 + 8, none⟩) HBL.out).trans E8.out
        have p_E9 := (d.out.cell (p := ⟨b, off + k * 10 + 9, none⟩) HBL.out).trans E9.out
        refine wp_region_held_drew (S := fun w' => w'.cell? ⟨w.heap.size, 0, none⟩ = some (Value.slice sa ss.length sc) ∧ w'.cell? ⟨w.heap.size, 1, none⟩ = some (Value.int .i64 now) ∧ w'.cell? ⟨w.heap.size, 2, none⟩ = some (Value.int .i64 cu) ∧ w'.cell? ⟨w.heap.size, 3, none⟩ = some (Value.slice oa os.length oc) ∧ w'.cell? ⟨w.heap.size, 4, none⟩ = some (Value.slice (some ⟨b, off, none⟩) qs.length ac) ∧ w'.cell? ⟨w.heap.size, 5, none⟩ = some (Value.slice da ds.length dc) ∧ w'.cell? ⟨w.heap.size, 6, none⟩ = some (Value.slice la ls.length lc) ∧ w'.cell? ⟨w.heap.size, 7, none⟩ = some (Value.int .i64 st) ∧ w'.cell? ⟨b, off + k * 10, none⟩ = some (Value.int .i64 a0) ∧ w'.cell? ⟨b, off + k * 10 + 1, none⟩ = some (Value.int .i64 a1) ∧ w'.cell? ⟨b, off + k * 10 + 2, none⟩ = some (Value.slice p2 x2.length c2) ∧ w'.cell? ⟨b, off + k * 10 + 3, none⟩ = some (Value.slice p3 x3.length c3) ∧ w'.cell? ⟨b, off + k * 10 + 4, none⟩ = some (Value.int .i64 a4) ∧ w'.cell? ⟨b, off + k * 10 + 5, none⟩ = some (Value.slice p5 x5.length c5) ∧ w'.cell? ⟨b, off + k * 10 + 6, none⟩ = some (Value.int .i64 a6) ∧ w'.cell? ⟨b, off + k * 10 + 7, none⟩ = some (Value.int .i64 a7) ∧ w'.cell? ⟨b, off + k * 10 + 8, none⟩ = some (Value.int .i64 a8) ∧ w'.cell? ⟨b, off + k * 10 + 9, none⟩ = some (Value.slice p9 x9.length c9)) (by kernel_rfl) ⟨p_B0_0, p_B0_1, p_B0_2, p_B0_3, p_B0_4, p_B0_5, p_B0_6, p_B0_7, p_E0, p_E1, p_E2, p_E3, p_E4, p_E5, p_E6, p_E7, p_E8, p_E9⟩ (fun hHeld => ?_)
        clear p_B0_0 p_B0_1 p_B0_2 p_B0_3 p_B0_4 p_B0_5 p_B0_6 p_B0_7 p_E0 p_E1 p_E2 p_E3 p_E4 p_E5 p_E6 p_E7 p_E8 p_E9
        have cdr : Below wr.heap.size wr wr.drew := below_drew (Below.refl _ _)
        replace B0 := Lib.hid ((cdr.block w.heap.size (Array.getElem?_eq_some_iff.1 B0.out).1).trans B0.out)
        replace d := Lib.hid (d.out.trans (cdr.mono d.out.size))
        clear cdr
        refine take_runs (i := 0) (v := ?_) (by simp only [List.getElem?_toArray, List.getElem?_cons_succ, List.getElem?_cons_zero]; rfl) (by kernel_rfl) (by kernel_rfl) (by kernel_rfl) rfl (by exact fun _ _ _ h => h) (by rfl) ?_ (by assumption) ?_
        rotate_left
        · intro w hSw; (try dsimp only at hSw); go_simp; try (with_reducible rfl)
        try simp only [Act.put, List.setIfInBounds_toArray, List.set_cons_zero, List.set_cons_succ]
        refine take_runs (i := 1) (v := ?_) (by simp only [List.getElem?_toArray, List.getElem?_cons_succ, List.getElem?_cons_zero]; rfl) (by kernel_rfl) (by kernel_rfl) (by kernel_rfl) rfl (by exact fun _ _ _ h => h) (by rfl) ?_ (by assumption) ?_
        rotate_left
        · intro w hSw; (try dsimp only at hSw); go_simp; try (with_reducible rfl)
        try simp only [Act.put, List.setIfInBounds_toArray, List.set_cons_zero, List.set_cons_succ]
        refine take_runs (i := 2) (v := ?_) (by simp only [List.getElem?_toArray, List.getElem?_cons_succ, List.getElem?_cons_zero]; rfl) (by kernel_rfl) (by kernel_rfl) (by kernel_rfl) rfl (by exact fun _ _ _ h => h) (by rfl) ?_ (by assumption) ?_
        rotate_left
        · intro w hSw; (try dsimp only at hSw); go_simp; try (with_reducible rfl)
        try simp only [Act.put, List.setIfInBounds_toArray, List.set_cons_zero, List.set_cons_succ]
        refine take_runs (i := 3) (v := ?_) (by simp only [List.getElem?_toArray, List.getElem?_cons_succ, List.getElem?_cons_zero]; rfl) (by kernel_rfl) (by kernel_rfl) (by kernel_rfl) rfl (by exact fun _ _ _ h => h) (by rfl) ?_ (by assumption) ?_
        rotate_left
        · intro w hSw; (try dsimp only at hSw); go_simp; try (with_reducible rfl)
        try simp only [Act.put, List.setIfInBounds_toArray, List.set_cons_zero, List.set_cons_succ]
        refine take_runs (i := 4) (v := ?_) (by simp only [List.getElem?_toArray, List.getElem?_cons_succ, List.getElem?_cons_zero]; rfl) (by kernel_rfl) (by kernel_rfl) (by kernel_rfl) rfl (by exact fun _ _ _ h => h) (by rfl) ?_ (by assumption) ?_
        rotate_left
        · intro w hSw; (try dsimp only at hSw); go_simp; try (with_reducible rfl)
        try simp only [Act.put, List.setIfInBounds_toArray, List.set_cons_zero, List.set_cons_succ]
        refine take_runs (i := 5) (v := ?_) (by simp only [List.getElem?_toArray, List.getElem?_cons_succ, List.getElem?_cons_zero]; rfl) (by kernel_rfl) (by kernel_rfl) (by kernel_rfl) rfl (by exact fun _ _ _ h => h) (by rfl) ?_ (by assumption) ?_
        rotate_left
        · intro w hSw; (try dsimp only at hSw); go_simp; try (with_reducible rfl)
        try simp only [Act.put, List.setIfInBounds_toArray, List.set_cons_zero, List.set_cons_succ]
        refine wpAnyH_ready (rs := [6]) (by kernel_rfl) (by simp) ?_
        refine (AllReadyH.cons (o := _) (by simp only [List.getElem?_toArray, List.getElem?_cons_succ, List.getElem?_cons_zero]; rfl) (fun K hK => ?_) AllReadyH.nil)
        go_simp
        refine (HC.out (wr.drew) (slR_below tCond_law T2.out d.out) (slR_below tInt_law T3.out d.out) (slR_below tInt_law T5.out d.out) (slR_below tRow_law T9.out d.out)).mono ?_
        rintro e w5 ⟨rfl, c5⟩
        rw [HAB.out]
        replace B0 := Lib.hid ((c5.block w.heap.size (Array.getElem?_eq_some_iff.1 B0.out).1).trans B0.out)
        replace d := Lib.hid (d.out.trans (c5.mono d.out.size))
        have Z_w5 := Lib.hid (show wr.heap.size ≤ w5.heap.size from c5.size)
        clear c5
        have p_B0_0 := (cell_of_row w5 _ 0 _ _ _ B0.out).trans (show _ = some (Value.slice sa ss.length sc) from rfl)
        have p_B0_1 := (cell_of_row w5 _ 1 _ _ _ B0.out).trans (show _ = some (Value.int .i64 now) from rfl)
        have p_B0_2 := (cell_of_row w5 _ 2 _ _ _ B0.out).trans (show _ = some (Value.int .i64 cu) from rfl)
        have p_B0_3 := (cell_of_row w5 _ 3 _ _ _ B0.out).trans (show _ = some (Value.slice oa os.length oc) from rfl)
        have p_B0_4 := (cell_of_row w5 _ 4 _ _ _ B0.out).trans (show _ = some (Value.slice (some ⟨b, off, none⟩) qs.length ac) from rfl)
        have p_B0_5 := (cell_of_row w5 _ 5 _ _ _ B0.out).trans (show _ = some (Value.slice da ds.length dc) from rfl)
        have p_B0_6 := (cell_of_row w5 _ 6 _ _ _ B0.out).trans (show _ = some (Value.slice la ls.length lc) from rfl)
        have p_B0_7 := (cell_of_row w5 _ 7 _ _ _ B0.out).trans (show _ = some (Value.int .i64 st) from rfl)
        have p_E0 := (d.out.cell (p := ⟨b, off + k * 10, none⟩) HBL.out).trans E0.out
        have p_E1 := (d.out.cell (p := ⟨b, off + k * 10 + 1, none⟩) HBL.out).trans E1.out
        have p_E2 := (d.out.cell (p := ⟨b, off + k * 10 + 2, none⟩) HBL.out).trans E2.out
        have p_E3 := (d.out.cell (p := ⟨b, off + k * 10 + 3, none⟩) HBL.out).trans E3.out
        have p_E4 := (d.out.cell (p := ⟨b, off + k * 10 + 4, none⟩) HBL.out).trans E4.out
        have p_E5 := (d.out.cell (p := ⟨b, off + k * 10 + 5, none⟩) HBL.out).trans E5.out
        have p_E6 := (d.out.cell (p := ⟨b, off + k * 10 + 6, none⟩) HBL.out).trans E6.out
        have p_E7 := (d.out.cell (p := ⟨b, off + k * 10 + 7, none⟩) HBL.out).trans E7.out
        have p_E8 := (d.out.cell (p := ⟨b, off + k * 10 + 8, none⟩) HBL.out).trans E8.out
        have p_E9 := (d.out.cell (p := ⟨b, off + k * 10 + 9, none⟩) HBL.out).trans E9.out
        refine hK.out _ _ ⟨p_B0_0, p_B0_1, p_B0_2, p_B0_3, p_B0_4, p_B0_5, p_B0_6, p_B0_7, p_E0, p_E1, p_E2, p_E3, p_E4, p_E5, p_E6, p_E7, p_E8, p_E9⟩ (fun hHeld => ?_)
        clear p_B0_0 p_B0_1 p_B0_2 p_B0_3 p_B0_4 p_B0_5 p_B0_6 p_B0_7 p_E0 p_E1 p_E2 p_E3 p_E4 p_E5 p_E6 p_E7 p_E8 p_E9
        clear hK K
        try simp only [Act.put, List.setIfInBounds_toArray, List.set_cons_zero, List.set_cons_succ]
        refine take_runs (i := 7) (v := ?_) (by simp only [List.getElem?_toArray, List.getElem?_cons_succ, List.getElem?_cons_zero]; rfl) (by kernel_rfl) (by kernel_rfl) (by kernel_rfl) rfl (by exact fun _ _ _ h => h) (by rfl) ?_ (by assumption) ?_
        rotate_left
        · intro w hSw; (try dsimp only at hSw); go_simp; try (with_reducible rfl)
        try simp only [Act.put, List.setIfInBounds_toArray, List.set_cons_zero, List.set_cons_succ]
        refine take_runs (i := 8) (v := ?_) (by simp only [List.getElem?_toArray, List.getElem?_cons_succ, List.getElem?_cons_zero]; rfl) (by kernel_rfl) (by kernel_rfl) (by kernel_rfl) rfl (by exact fun _ _ _ h => h) (by rfl) ?_ (by assumption) ?_
        rotate_left
        · intro w hSw; (try dsimp only at hSw); go_simp; try (with_reducible rfl)
        try simp only [Act.put, List.setIfInBounds_toArray, List.set_cons_zero, List.set_cons_succ]
        refine take_over (i := 9) (by simp only [List.getElem?_toArray, List.getElem?_cons_succ, List.getElem?_cons_zero]; rfl) (by kernel_rfl) (by kernel_rfl) (by kernel_rfl) rfl (by exact fun _ _ _ h => h) (by rfl) (by assumption) ?_
        try simp only [Act.put, List.setIfInBounds_toArray, List.set_cons_zero, List.set_cons_succ]
        refine take_over (i := 10) (by simp only [List.getElem?_toArray, List.getElem?_cons_succ, List.getElem?_cons_zero]; rfl) (by kernel_rfl) (by kernel_rfl) (by kernel_rfl) rfl (by exact fun _ _ _ h => h) (by rfl) (by assumption) ?_
        try simp only [Act.put, List.setIfInBounds_toArray, List.set_cons_zero, List.set_cons_succ]
        refine take_over (i := 11) (by simp only [List.getElem?_toArray, List.getElem?_cons_succ, List.getElem?_cons_zero]; rfl) (by kernel_rfl) (by kernel_rfl) (by kernel_rfl) rfl (by exact fun _ _ _ h => h) (by rfl) (by assumption) ?_
        try simp only [Act.put, List.setIfInBounds_toArray, List.set_cons_zero, List.set_cons_succ]
        refine take_over (i := 12) (by simp only [List.getElem?_toArray, List.getElem?_cons_succ, List.getElem?_cons_zero]; rfl) (by kernel_rfl) (by kernel_rfl) (by kernel_rfl) rfl (by exact fun _ _ _ h => h) (by rfl) (by assumption) ?_
        try simp only [Act.put, List.setIfInBounds_toArray, List.set_cons_zero, List.set_cons_succ]
        refine take_over (i := 13) (by simp only [List.getElem?_toArray, List.getElem?_cons_succ, List.getElem?_cons_zero]; rfl) (by kernel_rfl) (by kernel_rfl) (by kernel_rfl) rfl (by exact fun _ _ _ h => h) (by rfl) (by assumption) ?_
        try simp only [Act.put, List.setIfInBounds_toArray, List.set_cons_zero, List.set_cons_succ]
        refine take_over (i := 14) (by simp only [List.getElem?_toArray, List.getElem?_cons_succ, List.getElem?_cons_zero]; rfl) (by kernel_rfl) (by kernel_rfl) (by kernel_rfl) rfl (by exact fun _ _ _ h => h) (by rfl) (by assumption) ?_
        try simp only [Act.put, List.setIfInBounds_toArray, List.set_cons_zero, List.set_cons_succ]
        refine take_over (i := 15) (by simp only [List.getElem?_toArray, List.getElem?_cons_succ, List.getElem?_cons_zero]; rfl) (by kernel_rfl) (by kernel_rfl) (by kernel_rfl) rfl (by exact fun _ _ _ h => h) (by rfl) (by assumption) ?_
        try simp only [Act.put, List.setIfInBounds_toArray, List.set_cons_zero, List.set_cons_succ]
        refine take_over (i := 16) (by simp only [List.getElem?_toArray, List.getElem?_cons_succ, List.getElem?_cons_zero]; rfl) (by kernel_rfl) (by kernel_rfl) (by kernel_rfl) rfl (by exact fun _ _ _ h => h) (by rfl) (by assumption) ?_
        try simp only [Act.put, List.setIfInBounds_toArray, List.set_cons_zero, List.set_cons_succ]
        refine take_over (i := 17) (by simp only [List.getElem?_toArray, List.getElem?_cons_succ, List.getElem?_cons_zero]; rfl) (by kernel_rfl) (by kernel_rfl) (by kernel_rfl) rfl (by exact fun _ _ _ h => h) (by rfl) (by assumption) ?_
        try simp only [Act.put, List.setIfInBounds_toArray, List.set_cons_zero, List.set_cons_succ]
        refine take_over (i := 18) (by simp only [List.getElem?_toArray, List.getElem?_cons_succ, List.getElem?_cons_zero]; rfl) (by kernel_rfl) (by kernel_rfl) (by kernel_rfl) rfl (by exact fun _ _ _ h => h) (by rfl) (by assumption) ?_
        try simp only [Act.put, List.setIfInBounds_toArray, List.set_cons_zero, List.set_cons_succ]
        refine take_over (i := 19) (by simp only [List.getElem?_toArray, List.getElem?_cons_succ, List.getElem?_cons_zero]; rfl) (by kernel_rfl) (by kernel_rfl) (by kernel_rfl) rfl (by exact fun _ _ _ h => h) (by rfl) (by assumption) ?_
        try simp only [Act.put, List.setIfInBounds_toArray, List.set_cons_zero, List.set_cons_succ]
        refine take_over (i := 20) (by simp only [List.getElem?_toArray, List.getElem?_cons_succ, List.getElem?_cons_zero]; rfl) (by kernel_rfl) (by kernel_rfl) (by kernel_rfl) rfl (by exact fun _ _ _ h => h) (by rfl) (by assumption) ?_
        try simp only [Act.put, List.setIfInBounds_toArray, List.set_cons_zero, List.set_cons_succ]
        refine take_over (i := 21) (by simp only [List.getElem?_toArray, List.getElem?_cons_succ, List.getElem?_cons_zero]; rfl) (by kernel_rfl) (by kernel_rfl) (by kernel_rfl) rfl (by exact fun _ _ _ h => h) (by rfl) (by assumption) ?_
        try simp only [Act.put, List.setIfInBounds_toArray, List.set_cons_zero, List.set_cons_succ]
        refine take_over (i := 22) (by simp only [List.getElem?_toArray, List.getElem?_cons_succ, List.getElem?_cons_zero]; rfl) (by kernel_rfl) (by kernel_rfl) (by kernel_rfl) rfl (by exact fun _ _ _ h => h) (by rfl) (by assumption) ?_
        try simp only [Act.put, List.setIfInBounds_toArray, List.set_cons_zero, List.set_cons_succ]
        refine take_over (i := 23) (by simp only [List.getElem?_toArray, List.getElem?_cons_succ, List.getElem?_cons_zero]; rfl) (by kernel_rfl) (by kernel_rfl) (by kernel_rfl) rfl (by exact fun _ _ _ h => h) (by rfl) (by assumption) ?_
        try simp only [Act.put, List.setIfInBounds_toArray, List.set_cons_zero, List.set_cons_succ]
        refine take_over (i := 24) (by simp only [List.getElem?_toArray, List.getElem?_cons_succ, List.getElem?_cons_zero]; rfl) (by kernel_rfl) (by kernel_rfl) (by kernel_rfl) rfl (by exact fun _ _ _ h => h) (by rfl) (by assumption) ?_
        try simp only [Act.put, List.setIfInBounds_toArray, List.set_cons_zero, List.set_cons_succ]
        refine take_over (i := 25) (by simp only [List.getElem?_toArray, List.getElem?_cons_succ, List.getElem?_cons_zero]; rfl) (by kernel_rfl) (by kernel_rfl) (by kernel_rfl) rfl (by exact fun _ _ _ h => h) (by rfl) (by assumption) ?_
        try simp only [Act.put, List.setIfInBounds_toArray, List.set_cons_zero, List.set_cons_succ]
        refine take_over (i := 26) (by simp only [List.getElem?_toArray, List.getElem?_cons_succ, List.getElem?_cons_zero]; rfl) (by kernel_rfl) (by kernel_rfl) (by kernel_rfl) rfl (by exact fun _ _ _ h => h) (by rfl) (by assumption) ?_
        try simp only [Act.put, List.setIfInBounds_toArray, List.set_cons_zero, List.set_cons_succ]
        refine take_over (i := 27) (by simp only [List.getElem?_toArray, List.getElem?_cons_succ, List.getElem?_cons_zero]; rfl) (by kernel_rfl) (by kernel_rfl) (by kernel_rfl) rfl (by exact fun _ _ _ h => h) (by rfl) (by assumption) ?_
        try simp only [Act.put, List.setIfInBounds_toArray, List.set_cons_zero, List.set_cons_succ]
        refine take_over (i := 28) (by simp only [List.getElem?_toArray, List.getElem?_cons_succ, List.getElem?_cons_zero]; rfl) (by kernel_rfl) (by kernel_rfl) (by kernel_rfl) rfl (by exact fun _ _ _ h => h) (by rfl) (by assumption) ?_
        try simp only [Act.put, List.setIfInBounds_toArray, List.set_cons_zero, List.set_cons_succ]
        refine take_runs (i := 29) (v := ?_) (by simp only [List.getElem?_toArray, List.getElem?_cons_succ, List.getElem?_cons_zero]; rfl) (by kernel_rfl) (by kernel_rfl) (by kernel_rfl) rfl (by exact fun _ _ _ h => h) (by rfl) ?_ (by assumption) ?_
        rotate_left
        · intro w hSw; (try dsimp only at hSw); go_simp; try (with_reducible rfl)
        try simp only [Act.put, List.setIfInBounds_toArray, List.set_cons_zero, List.set_cons_succ]
        refine wpAnyH_done (by kernel_rfl) ?_ _
        clear hHeld
        go_wp2
        go_ret
        exact ⟨ret_b HF.out.symm, d.out⟩
      | true =>
        have HAB := Lib.hid hab
        by_cases hz : k = 0
        · have HT := Lib.hid (HST.out hab (fun g => by omega))
          have f0 : decide ((0 : Int) < (k : Int)) = false := decide_eq_false (by omega)
          clear hab HNO HNL HST hz
          have p_B0_0 := (cell_of_row wr _ 0 _ _ _ B0.out).trans (show _ = some (Value.slice sa ss.length sc) from rfl)
          have p_B0_1 := (cell_of_row wr _ 1 _ _ _ B0.out).trans (show _ = some (Value.int .i64 now) from rfl)
          have p_B0_2 := (cell_of_row wr _ 2 _ _ _ B0.out).trans (show _ = some (Value.int .i64 cu) from rfl)
          have p_B0_3 := (cell_of_row wr _ 3 _ _ _ B0.out).trans (show _ = some (Value.slice oa os.length oc) from rfl)
          have p_B0_4 := (cell_of_row wr _ 4 _ _ _ B0.out).trans (show _ = some (Value.slice (some ⟨b, off, none⟩) qs.length ac) from rfl)
          have p_B0_5 := (cell_of_row wr _ 5 _ _ _ B0.out).trans (show _ = some (Value.slice da ds.length dc) from rfl)
          have p_B0_6 := (cell_of_row wr _ 6 _ _ _ B0.out).trans (show _ = some (Value.slice la ls.length lc) from rfl)
          have p_B0_7 := (cell_of_row wr _ 7 _ _ _ B0.out).trans (show _ = some (Value.int .i64 st) from rfl)
          go_wp2
          clear p_B0_0 p_B0_1 p_B0_2 p_B0_3 p_B0_4 p_B0_5 p_B0_6 p_B0_7
          have p_B0_0 := (cell_of_row wr _ 0 _ _ _ B0.out).trans (show _ = some (Value.slice sa ss.length sc) from rfl)
          have p_B0_1 := (cell_of_row wr _ 1 _ _ _ B0.out).trans (show _ = some (Value.int .i64 now) from rfl)
          have p_B0_2 := (cell_of_row wr _ 2 _ _ _ B0.out).trans (show _ = some (Value.int .i64 cu) from rfl)
          have p_B0_3 := (cell_of_row wr _ 3 _ _ _ B0.out).trans (show _ = some (Value.slice oa os.length oc) from rfl)
          have p_B0_4 := (cell_of_row wr _ 4 _ _ _ B0.out).trans (show _ = some (Value.slice (some ⟨b, off, none⟩) qs.length ac) from rfl)
          have p_B0_5 := (cell_of_row wr _ 5 _ _ _ B0.out).trans (show _ = some (Value.slice da ds.length dc) from rfl)
          have p_B0_6 := (cell_of_row wr _ 6 _ _ _ B0.out).trans (show _ = some (Value.slice la ls.length lc) from rfl)
          have p_B0_7 := (cell_of_row wr _ 7 _ _ _ B0.out).trans (show _ = some (Value.int .i64 st) from rfl)
          have p_E0 := (d.out.cell (p := ⟨b, off + k * 10, none⟩) HBL.out).trans E0.out
          have p_E1 := (d.out.cell (p := ⟨b, off + k * 10 + 1, none⟩) HBL.out).trans E1.out
          have p_E2 := (d.out.cell (p := ⟨b, off + k * 10 + 2, none⟩) HBL.out).trans E2.out
          have p_E3 := (d.out.cell (p := ⟨b, off + k * 10 + 3, none⟩) HBL.out).trans E3.out
          have p_E4 := (d.out.cell (p := ⟨b, off + k * 10 + 4, none⟩) HBL.out).trans E4.out
          have p_E5 := (d.out.cell (p := ⟨b, off + k * 10 + 5, none⟩) HBL.out).trans E5.out
          have p_E6 := (d.out.cell (p := ⟨b, off + k * 10 + 6, none⟩) HBL.out).trans E6.out
          have p_E7 := (d.out.cell (p := ⟨b, off + k * 10 + 7, none⟩) HBL.out).trans E7.out
          have p_E8 := (d.out.cell (p := ⟨b, off + k * 10 + 8, none⟩) HBL.out).trans E8.out
          have p_E9 := (d.out.cell (p := ⟨b, off + k * 10 + 9, none⟩) HBL.out).trans E9.out
          refine wp_region_held_drew (S := fun w' => w'.cell? ⟨w.heap.size, 0, none⟩ = some (Value.slice sa ss.length sc) ∧ w'.cell? ⟨w.heap.size, 1, none⟩ = some (Value.int .i64 now) ∧ w'.cell? ⟨w.heap.size, 2, none⟩ = some (Value.int .i64 cu) ∧ w'.cell? ⟨w.heap.size, 3, none⟩ = some (Value.slice oa os.length oc) ∧ w'.cell? ⟨w.heap.size, 4, none⟩ = some (Value.slice (some ⟨b, off, none⟩) qs.length ac) ∧ w'.cell? ⟨w.heap.size, 5, none⟩ = some (Value.slice da ds.length dc) ∧ w'.cell? ⟨w.heap.size, 6, none⟩ = some (Value.slice la ls.length lc) ∧ w'.cell? ⟨w.heap.size, 7, none⟩ = some (Value.int .i64 st) ∧ w'.cell? ⟨b, off + k * 10, none⟩ = some (Value.int .i64 a0) ∧ w'.cell? ⟨b, off + k * 10 + 1, none⟩ = some (Value.int .i64 a1) ∧ w'.cell? ⟨b, off + k * 10 + 2, none⟩ = some (Value.slice p2 x2.length c2) ∧ w'.cell? ⟨b, off + k * 10 + 3, none⟩ = some (Value.slice p3 x3.length c3) ∧ w'.cell? ⟨b, off + k * 10 + 4, none⟩ = some (Value.int .i64 a4) ∧ w'.cell? ⟨b, off + k * 10 + 5, none⟩ = some (Value.slice p5 x5.length c5) ∧ w'.cell? ⟨b, off + k * 10 + 6, none⟩ = some (Value.int .i64 a6) ∧ w'.cell? ⟨b, off + k * 10 + 7, none⟩ = some (Value.int .i64 a7) ∧ w'.cell? ⟨b, off + k * 10 + 8, none⟩ = some (Value.int .i64 a8) ∧ w'.cell? ⟨b, off + k * 10 + 9, none⟩ = some (Value.slice p9 x9.length c9)) (by kernel_rfl) ⟨p_B0_0, p_B0_1, p_B0_2, p_B0_3, p_B0_4, p_B0_5, p_B0_6, p_B0_7, p_E0, p_E1, p_E2, p_E3, p_E4, p_E5, p_E6, p_E7, p_E8, p_E9⟩ (fun hHeld => ?_)
          clear p_B0_0 p_B0_1 p_B0_2 p_B0_3 p_B0_4 p_B0_5 p_B0_6 p_B0_7 p_E0 p_E1 p_E2 p_E3 p_E4 p_E5 p_E6 p_E7 p_E8 p_E9
          have cdr : Below wr.heap.size wr wr.drew := below_drew (Below.refl _ _)
          replace B0 := Lib.hid ((cdr.block w.heap.size (Array.getElem?_eq_some_iff.1 B0.out).1).trans B0.out)
          replace d := Lib.hid (d.out.trans (cdr.mono d.out.size))
          clear cdr
          refine take_runs (i := 0) (v := ?_) (by simp only [List.getElem?_toArray, List.getElem?_cons_succ, List.getElem?_cons_zero]; rfl) (by kernel_rfl) (by kernel_rfl) (by kernel_rfl) rfl (by exact fun _ _ _ h => h) (by rfl) ?_ (by assumption) ?_
          rotate_left
          · intro w hSw; (try dsimp only at hSw); go_simp; try (with_reducible rfl)
          try simp only [Act.put, List.setIfInBounds_toArray, List.set_cons_zero, List.set_cons_succ]
          refine take_runs (i := 1) (v := ?_) (by simp only [List.getElem?_toArray, List.getElem?_cons_succ, List.getElem?_cons_zero]; rfl) (by kernel_rfl) (by kernel_rfl) (by kernel_rfl) rfl (by exact fun _ _ _ h => h) (by rfl) ?_ (by assumption) ?_
          rotate_left
          · intro w hSw; (try dsimp only at hSw); go_simp; try (with_reducible rfl)
          try simp only [Act.put, List.setIfInBounds_toArray, List.set_cons_zero, List.set_cons_succ]
          refine take_runs (i := 2) (v := ?_) (by simp only [List.getElem?_toArray, List.getElem?_cons_succ, List.getElem?_cons_zero]; rfl) (by kernel_rfl) (by kernel_rfl) (by kernel_rfl) rfl (by exact fun _ _ _ h => h) (by rfl) ?_ (by assumption) ?_
          rotate_left
          · intro w hSw; (try dsimp only at hSw); go_simp; try (with_reducible rfl)
          try simp only [Act.put, List.setIfInBounds_toArray, List.set_cons_zero, List.set_cons_succ]
          refine take_runs (i := 3) (v := ?_) (by simp only [List.getElem?_toArray, List.getElem?_cons_succ, List.getElem?_cons_zero]; rfl) (by kernel_rfl) (by kernel_rfl) (by kernel_rfl) rfl (by exact fun _ _ _ h => h) (by rfl) ?_ (by assumption) ?_
          rotate_left
          · intro w hSw; (try dsimp only at hSw); go_simp; try (with_reducible rfl)
          try simp only [Act.put, List.setIfInBounds_toArray, List.set_cons_zero, List.set_cons_succ]
          refine take_runs (i := 4) (v := ?_) (by simp only [List.getElem?_toArray, List.getElem?_cons_succ, List.getElem?_cons_zero]; rfl) (by kernel_rfl) (by kernel_rfl) (by kernel_rfl) rfl (by exact fun _ _ _ h => h) (by rfl) ?_ (by assumption) ?_
          rotate_left
          · intro w hSw; (try dsimp only at hSw); go_simp; try (with_reducible rfl)
          try simp only [Act.put, List.setIfInBounds_toArray, List.set_cons_zero, List.set_cons_succ]
          refine take_runs (i := 5) (v := ?_) (by simp only [List.getElem?_toArray, List.getElem?_cons_succ, List.getElem?_cons_zero]; rfl) (by kernel_rfl) (by kernel_rfl) (by kernel_rfl) rfl (by exact fun _ _ _ h => h) (by rfl) ?_ (by assumption) ?_
          rotate_left
          · intro w hSw; (try dsimp only at hSw); go_simp; try (with_reducible rfl)
          try simp only [Act.put, List.setIfInBounds_toArray, List.set_cons_zero, List.set_cons_succ]
          refine wpAnyH_ready (rs := [6]) (by kernel_rfl) (by simp) ?_
          refine (AllReadyH.cons (o := _) (by simp only [List.getElem?_toArray, List.getElem?_cons_succ, List.getElem?_cons_zero]; rfl) (fun K hK => ?_) AllReadyH.nil)
          go_simp
          refine (HC.out (wr.drew) (slR_below tCond_law T2.out d.out) (slR_below tInt_law T3.out d.out) (slR_below tInt_law T5.out d.out) (slR_below tRow_law T9.out d.out)).mono ?_
          rintro e w5 ⟨rfl, c5⟩
          rw [HAB.out]
          have d2 := Lib.hid (show Below wr.heap.size wr w5 from (below_drew (Below.refl wr.heap.size wr)).trans c5)
          replace B0 := Lib.hid ((c5.block w.heap.size (Array.getElem?_eq_some_iff.1 B0.out).1).trans B0.out)
          replace d := Lib.hid (d.out.trans (c5.mono d.out.size))
          have Z_w5 := Lib.hid (show wr.heap.size ≤ w5.heap.size from c5.size)
          clear c5
          have p_B0_0 := (cell_of_row w5 _ 0 _ _ _ B0.out).trans (show _ = some (Value.slice sa ss.length sc) from rfl)
          have p_B0_1 := (cell_of_row w5 _ 1 _ _ _ B0.out).trans (show _ = some (Value.int .i64 now) from rfl)
          have p_B0_2 := (cell_of_row w5 _ 2 _ _ _ B0.out).trans (show _ = some (Value.int .i64 cu) from rfl)
          have p_B0_3 := (cell_of_row w5 _ 3 _ _ _ B0.out).trans (show _ = some (Value.slice oa os.length oc) from rfl)
          have p_B0_4 := (cell_of_row w5 _ 4 _ _ _ B0.out).trans (show _ = some (Value.slice (some ⟨b, off, none⟩) qs.length ac) from rfl)
          have p_B0_5 := (cell_of_row w5 _ 5 _ _ _ B0.out).trans (show _ = some (Value.slice da ds.length dc) from rfl)
          have p_B0_6 := (cell_of_row w5 _ 6 _ _ _ B0.out).trans (show _ = some (Value.slice la ls.length lc) from rfl)
          have p_B0_7 := (cell_of_row w5 _ 7 _ _ _ B0.out).trans (show _ = some (Value.int .i64 st) from rfl)
          have p_E0 := (d.out.cell (p := ⟨b, off + k * 10, none⟩) HBL.out).trans E0.out
          have p_E1 := (d.out.cell (p := ⟨b, off + k * 10 + 1, none⟩) HBL.out).trans E1.out
          have p_E2 := (d.out.cell (p := ⟨b, off + k * 10 + 2, none⟩) HBL.out).trans E2.out
          have p_E3 := (d.out.cell (p := ⟨b, off + k * 10 + 3, none⟩) HBL.out).trans E3.out
          have p_E4 := (d.out.cell (p := ⟨b, off + k * 10 + 4, none⟩) HBL.out).trans E4.out
          have p_E5 := (d.out.cell (p := ⟨b, off + k * 10 + 5, none⟩) HBL.out).trans E5.out
          have p_E6 := (d.out.cell (p := ⟨b, off + k * 10 + 6, none⟩) HBL.out).trans E6.out
          have p_E7 := (d.out.cell (p := ⟨b, off + k * 10 + 7, none⟩) HBL.out).trans E7.out
          have p_E8 := (d.out.cell (p := ⟨b, off + k * 10 + 8, none⟩) HBL.out).trans E8.out
          have p_E9 := (d.out.cell (p := ⟨b, off + k * 10 + 9, none⟩) HBL.out).trans E9.out
          refine hK.out _ _ ⟨p_B0_0, p_B0_1, p_B0_2, p_B0_3, p_B0_4, p_B0_5, p_B0_6, p_B0_7, p_E0, p_E1, p_E2, p_E3, p_E4, p_E5, p_E6, p_E7, p_E8, p_E9⟩ (fun hHeld => ?_)
          clear p_B0_0 p_B0_1 p_B0_2 p_B0_3 p_B0_4 p_B0_5 p_B0_6 p_B0_7 p_E0 p_E1 p_E2 p_E3 p_E4 p_E5 p_E6 p_E7 p_E8 p_E9
          clear hK K
          try simp only [Act.put, List.setIfInBounds_toArray, List.set_cons_zero, List.set_cons_succ]
          refine take_runs (i := 7) (v := ?_) (by simp only [List.getElem?_toArray, List.getElem?_cons_succ, List.getElem?_cons_zero]; rfl) (by kernel_rfl) (by kernel_rfl) (by kernel_rfl) rfl (by exact fun _ _ _ h => h) (by rfl) ?_ (by assumption) ?_
          rotate_left
          · intro w hSw; (try dsimp only at hSw); go_simp; try (with_reducible rfl)
          try simp only [Act.put, List.setIfInBounds_toArray, List.set_cons_zero, List.set_cons_succ]
          refine take_runs (i := 8) (v := ?_) (by simp only [List.getElem?_toArray, List.getElem?_cons_succ, List.getElem?_cons_zero]; rfl) (by kernel_rfl) (by kernel_rfl) (by kernel_rfl) rfl (by exact fun _ _ _ h => h) (by rfl) ?_ (by assumption) ?_
          rotate_left
          · intro w hSw; (try dsimp only at hSw); go_simp; try (with_reducible rfl)
          try simp only [Act.put, List.setIfInBounds_toArray, List.set_cons_zero, List.set_cons_succ]
          refine take_runs (i := 9) (v := ?_) (by simp only [List.getElem?_toArray, List.getElem?_cons_succ, List.getElem?_cons_zero]; rfl) (by kernel_rfl) (by kernel_rfl) (by kernel_rfl) rfl (by exact fun _ _ _ h => h) (by rfl) ?_ (by assumption) ?_
          rotate_left
          · intro w hSw; (try dsimp only at hSw); go_simp; try (with_reducible rfl)
          try simp only [Act.put, List.setIfInBounds_toArray, List.set_cons_zero, List.set_cons_succ]
          refine take_runs (i := 10) (v := .bool false) (by simp only [List.getElem?_toArray, List.getElem?_cons_succ, List.getElem?_cons_zero]; rfl) (by kernel_rfl) (by kernel_rfl) (by kernel_rfl) rfl (by exact fun _ _ _ h => h) (by rfl) ?_ (by assumption) ?_
          · intro w hSw; (try dsimp only at hSw); go_simp; all_goals first | (with_reducible rfl) | (rw [f0]; done) | (simpa using f0) | (simp [f0]; done) | (simp; omega)
          try simp only [Act.put, List.setIfInBounds_toArray, List.set_cons_zero, List.set_cons_succ]
          refine take_runs (i := 11) (v := ?_) (by simp only [List.getElem?_toArray, List.getElem?_cons_succ, List.getElem?_cons_zero]; rfl) (by kernel_rfl) (by kernel_rfl) (by kernel_rfl) rfl (by exact fun _ _ _ h => h) (by rfl) ?_ (by assumption) ?_
          rotate_left
          · intro w hSw; (try dsimp only at hSw); go_simp; try (with_reducible rfl)
          try simp only [Act.put, List.setIfInBounds_toArray, List.set_cons_zero, List.set_cons_succ]
          refine take_over (i := 12) (by simp only [List.getElem?_toArray, List.getElem?_cons_succ, List.getElem?_cons_zero]; rfl) (by kernel_rfl) (by kernel_rfl) (by kernel_rfl) rfl (by exact fun _ _ _ h => h) (by rfl) (by assumption) ?_
          try simp only [Act.put, List.setIfInBounds_toArray, List.set_cons_zero, List.set_cons_succ]
          refine take_over (i := 13) (by simp only [List.getElem?_toArray, List.getElem?_cons_succ, List.getElem?_cons_zero]; rfl) (by kernel_rfl) (by kernel_rfl) (by kernel_rfl) rfl (by exact fun _ _ _ h => h) (by rfl) (by assumption) ?_
          try simp only [Act.put, List.setIfInBounds_toArray, List.set_cons_zero, List.set_cons_succ]
          refine take_over (i := 14) (by simp only [List.getElem?_toArray, List.getElem?_cons_succ, List.getElem?_cons_zero]; rfl) (by kernel_rfl) (by kernel_rfl) (by kernel_rfl) rfl (by exact fun _ _ _ h => h) (by rfl) (by assumption) ?_
          try simp only [Act.put, List.setIfInBounds_toArray, List.set_cons_zero, List.set_cons_succ]
          refine take_over (i := 15) (by simp only [List.getElem?_toArray, List.getElem?_cons_succ, List.getElem?_cons_zero]; rfl) (by kernel_rfl) (by kernel_rfl) (by kernel_rfl) rfl (by exact fun _ _ _ h => h) (by rfl) (by assumption) ?_
          try simp only [Act.put, List.setIfInBounds_toArray, List.set_cons_zero, List.set_cons_succ]
          refine take_over (i := 16) (by simp only [List.getElem?_toArray, List.getElem?_cons_succ, List.getElem?_cons_zero]; rfl) (by kernel_rfl) (by kernel_rfl) (by kernel_rfl) rfl (by exact fun _ _ _ h => h) (by rfl) (by assumption) ?_
          try simp only [Act.put, List.setIfInBounds_toArray, List.set_cons_zero, List.set_cons_succ]
          refine take_over (i := 17) (by simp only [List.getElem?_toArray, List.getElem?_cons_succ, List.getElem?_cons_zero]; rfl) (by kernel_rfl) (by kernel_rfl) (by kernel_rfl) rfl (by exact fun _ _ _ h => h) (by rfl) (by assumption) ?_
          try simp only [Act.put, List.setIfInBounds_toArray, List.set_cons_zero, List.set_cons_succ]
          refine take_over (i := 18) (by simp only [List.getElem?_toArray, List.getElem?_cons_succ, List.getElem?_cons_zero]; rfl) (by kernel_rfl) (by kernel_rfl) (by kernel_rfl) rfl (by exact fun _ _ _ h => h) (by rfl) (by assumption) ?_
          try simp only [Act.put, List.setIfInBounds_toArray, List.set_cons_zero, List.set_cons_succ]
          refine take_over (i := 19) (by simp only [List.getElem?_toArray, List.getElem?_cons_succ, List.getElem?_cons_zero]; rfl) (by kernel_rfl) (by kernel_rfl) (by kernel_rfl) rfl (by exact fun _ _ _ h => h) (by rfl) (by assumption) ?_
          try simp only [Act.put, List.setIfInBounds_toArray, List.set_cons_zero, List.set_cons_succ]
          refine take_over (i := 20) (by simp only [List.getElem?_toArray, List.getElem?_cons_succ, List.getElem?_cons_zero]; rfl) (by kernel_rfl) (by kernel_rfl) (by kernel_rfl) rfl (by exact fun _ _ _ h => h) (by rfl) (by assumption) ?_
          try simp only [Act.put, List.setIfInBounds_toArray, List.set_cons_zero, List.set_cons_succ]
          refine take_over (i := 21) (by simp only [List.getElem?_toArray, List.getElem?_cons_succ, List.getElem?_cons_zero]; rfl) (by kernel_rfl) (by kernel_rfl) (by kernel_rfl) rfl (by exact fun _ _ _ h => h) (by rfl) (by assumption) ?_
          try simp only [Act.put, List.setIfInBounds_toArray, List.set_cons_zero, List.set_cons_succ]
          refine take_over (i := 22) (by simp only [List.getElem?_toArray, List.getElem?_cons_succ, List.getElem?_cons_zero]; rfl) (by kernel_rfl) (by kernel_rfl) (by kernel_rfl) rfl (by exact fun _ _ _ h => h) (by rfl) (by assumption) ?_
          try simp only [Act.put, List.setIfInBounds_toArray, List.set_cons_zero, List.set_cons_succ]
          refine take_over (i := 23) (by simp only [List.getElem?_toArray, List.getElem?_cons_succ, List.getElem?_cons_zero]; rfl) (by kernel_rfl) (by kernel_rfl) (by kernel_rfl) rfl (by exact fun _ _ _ h => h) (by rfl) (by assumption) ?_
          try simp only [Act.put, List.setIfInBounds_toArray, List.set_cons_zero, List.set_cons_succ]
          refine take_over (i := 24) (by simp only [List.getElem?_toArray, List.getElem?_cons_succ, List.getElem?_cons_zero]; rfl) (by kernel_rfl) (by kernel_rfl) (by kernel_rfl) rfl (by exact fun _ _ _ h => h) (by rfl) (by assumption) ?_
          try simp only [Act.put, List.setIfInBounds_toArray, List.set_cons_zero, List.set_cons_succ]
          refine take_over (i := 25) (by simp only [List.getElem?_toArray, List.getElem?_cons_succ, List.getElem?_cons_zero]; rfl) (by kernel_rfl) (by kernel_rfl) (by kernel_rfl) rfl (by exact fun _ _ _ h => h) (by rfl) (by assumption) ?_
          try simp only [Act.put, List.setIfInBounds_toArray, List.set_cons_zero, List.set_cons_succ]
          refine take_over (i := 26) (by simp only [List.getElem?_toArray, List.getElem?_cons_succ, List.getElem?_cons_zero]; rfl) (by kernel_rfl) (by kernel_rfl) (by kernel_rfl) rfl (by exact fun _ _ _ h => h) (by rfl) (by assumption) ?_
          try simp only [Act.put, List.setIfInBounds_toArray, List.set_cons_zero, List.set_cons_succ]
          refine take_over (i := 27) (by simp only [List.getElem?_toArray, List.getElem?_cons_succ, List.getElem?_cons_zero]; rfl) (by kernel_rfl) (by kernel_rfl) (by kernel_rfl) rfl (by exact fun _ _ _ h => h) (by rfl) (by assumption) ?_
          try simp only [Act.put, List.setIfInBounds_toArray, List.set_cons_zero, List.set_cons_succ]
          refine take_runs (i := 28) (v := ?_) (by simp only [List.getElem?_toArray, List.getElem?_cons_succ, List.getElem?_cons_zero]; rfl) (by kernel_rfl) (by kernel_rfl) (by kernel_rfl) rfl (by exact fun _ _ _ h => h) (by rfl) ?_ (by assumption) ?_
          rotate_left
          · intro w hSw; (try dsimp only at hSw); go_simp; try (with_reducible rfl)
          try simp only [Act.put, List.setIfInBounds_toArray, List.set_cons_zero, List.set_cons_succ]
          refine take_runs (i := 29) (v := ?_) (by simp only [List.getElem?_toArray, List.getElem?_cons_succ, List.getElem?_cons_zero]; rfl) (by kernel_rfl) (by kernel_rfl) (by kernel_rfl) rfl (by exact fun _ _ _ h => h) (by rfl) ?_ (by assumption) ?_
          rotate_left
          · intro w hSw; (try dsimp only at hSw); go_simp; try (with_reducible rfl)
          try simp only [Act.put, List.setIfInBounds_toArray, List.set_cons_zero, List.set_cons_succ]
          refine wpAnyH_done (by kernel_rfl) ?_ _
          clear hHeld
          go_wp2
          go_roundw
          case rel => exact ⟨k + 1, by omega, by go_num, HT, cw.out.trans (d2.out.mono cw.out.size)⟩
          case measure => simp [intOf]; omega
        · have hk0 : 0 < k := by omega
          have f1 : decide ((0 : Int) < (k : Int)) = true := decide_eq_true (by omega)
          have i3 : (0 : Int) ≤ (k : Int) - 1 := by omega
          have i7 : (1 : Int) ≤ (k : Int) := by omega
          have i4 : (k : Int) - 1 < (qs.length : Int) := by omega
          have i5 : ((k : Int) - 1).toNat = k - 1 := by omega
          have i6 : IntKind.i64.wrap ((k : Int) - 1) = (k : Int) - 1 := IntWalk.i64_in _ (by omega)
          obtain ⟨b', off', cap2, q2, r2, q3, r3, q5, r5, q9, r9, hv, hbl, g0, _, _, _, _, _, _, _, _, _, _, _, _, _⟩ := act_at (k := k - 1) H4.out (by omega)
          simp only [Value.slice.injEq, Option.some.injEq, Addr.mk.injEq] at hv
          obtain ⟨⟨rfl, rfl, _⟩, _, rfl⟩ := hv
          clear hbl
          have HL2 := Lib.hid (HNL.out hk0)
          have HS2 := Lib.hid (HST.out hab)
          clear HNL HST HNO hab hk0 hz
          generalize (qs.getD (k - 1) a0D).1.1 = z at *
          have G0 := Lib.hid g0
          clear g0
          by_cases hle : z < a0
          · have HT := Lib.hid (HS2.out (fun _ => hle))
            have f2 : decide (a0 ≤ z) = false := decide_eq_false (by omega)
            clear hle HL2 HS2
            have p_B0_0 := (cell_of_row wr _ 0 _ _ _ B0.out).trans (show _ = some (Value.slice sa ss.length sc) from rfl)
            have p_B0_1 := (cell_of_row wr _ 1 _ _ _ B0.out).trans (show _ = some (Value.int .i64 now) from rfl)
            have p_B0_2 := (cell_of_row wr _ 2 _ _ _ B0.out).trans (show _ = some (Value.int .i64 cu) from rfl)
            have p_B0_3 := (cell_of_row wr _ 3 _ _ _ B0.out).trans (show _ = some (Value.slice oa os.length oc) from rfl)
            have p_B0_4 := (cell_of_row wr _ 4 _ _ _ B0.out).trans (show _ = some (Value.slice (some ⟨b, off, none⟩) qs.length ac) from rfl)
            have p_B0_5 := (cell_of_row wr _ 5 _ _ _ B0.out).trans (show _ = some (Value.slice da ds.length dc) from rfl)
            have p_B0_6 := (cell_of_row wr _ 6 _ _ _ B0.out).trans (show _ = some (Value.slice la ls.length lc) from rfl)
            have p_B0_7 := (cell_of_row wr _ 7 _ _ _ B0.out).trans (show _ = some (Value.int .i64 st) from rfl)
            go_wp2
            clear p_B0_0 p_B0_1 p_B0_2 p_B0_3 p_B0_4 p_B0_5 p_B0_6 p_B0_7
            have p_B0_0 := (cell_of_row wr _ 0 _ _ _ B0.out).trans (show _ = some (Value.slice sa ss.length sc) from rfl)
            have p_B0_1 := (cell_of_row wr _ 1 _ _ _ B0.out).trans (show _ = some (Value.int .i64 now) from rfl)
            have p_B0_2 := (cell_of_row wr _ 2 _ _ _ B0.out).trans (show _ = some (Value.int .i64 cu) from rfl)
            have p_B0_3 := (cell_of_row wr _ 3 _ _ _ B0.out).trans (show _ = some (Value.slice oa os.length oc) from rfl)
            have p_B0_4 := (cell_of_row wr _ 4 _ _ _ B0.out).trans (show _ = some (Value.slice (some ⟨b, off, none⟩) qs.length ac) from rfl)
            have p_B0_5 := (cell_of_row wr _ 5 _ _ _ B0.out).trans (show _ = some (Value.slice da ds.length dc) from rfl)
            have p_B0_6 := (cell_of_row wr _ 6 _ _ _ B0.out).trans (show _ = some (Value.slice la ls.length lc) from rfl)
            have p_B0_7 := (cell_of_row wr _ 7 _ _ _ B0.out).trans (show _ = some (Value.int .i64 st) from rfl)
            have p_E0 := (d.out.cell (p := ⟨b, off + k * 10, none⟩) HBL.out).trans E0.out
            have p_E1 := (d.out.cell (p := ⟨b, off + k * 10 + 1, none⟩) HBL.out).trans E1.out
            have p_E2 := (d.out.cell (p := ⟨b, off + k * 10 + 2, none⟩) HBL.out).trans E2.out
            have p_E3 := (d.out.cell (p := ⟨b, off + k * 10 + 3, none⟩) HBL.out).trans E3.out
            have p_E4 := (d.out.cell (p := ⟨b, off + k * 10 + 4, none⟩) HBL.out).trans E4.out
            have p_E5 := (d.out.cell (p := ⟨b, off + k * 10 + 5, none⟩) HBL.out).trans E5.out
            have p_E6 := (d.out.cell (p := ⟨b, off + k * 10 + 6, none⟩) HBL.out).trans E6.out
            have p_E7 := (d.out.cell (p := ⟨b, off + k * 10 + 7, none⟩) HBL.out).trans E7.out
            have p_E8 := (d.out.cell (p := ⟨b, off + k * 10 + 8, none⟩) HBL.out).trans E8.out
            have p_E9 := (d.out.cell (p := ⟨b, off + k * 10 + 9, none⟩) HBL.out).trans E9.out
            have p_G0 := (d.out.cell (p := ⟨b, off + (k - 1) * 10, none⟩) HBL.out).trans G0.out
            refine wp_region_held_drew (S := fun w' => w'.cell? ⟨w.heap.size, 0, none⟩ = some (Value.slice sa ss.length sc) ∧ w'.cell? ⟨w.heap.size, 1, none⟩ = some (Value.int .i64 now) ∧ w'.cell? ⟨w.heap.size, 2, none⟩ = some (Value.int .i64 cu) ∧ w'.cell? ⟨w.heap.size, 3, none⟩ = some (Value.slice oa os.length oc) ∧ w'.cell? ⟨w.heap.size, 4, none⟩ = some (Value.slice (some ⟨b, off, none⟩) qs.length ac) ∧ w'.cell? ⟨w.heap.size, 5, none⟩ = some (Value.slice da ds.length dc) ∧ w'.cell? ⟨w.heap.size, 6, none⟩ = some (Value.slice la ls.length lc) ∧ w'.cell? ⟨w.heap.size, 7, none⟩ = some (Value.int .i64 st) ∧ w'.cell? ⟨b, off + k * 10, none⟩ = some (Value.int .i64 a0) ∧ w'.cell? ⟨b, off + k * 10 + 1, none⟩ = some (Value.int .i64 a1) ∧ w'.cell? ⟨b, off + k * 10 + 2, none⟩ = some (Value.slice p2 x2.length c2) ∧ w'.cell? ⟨b, off + k * 10 + 3, none⟩ = some (Value.slice p3 x3.length c3) ∧ w'.cell? ⟨b, off + k * 10 + 4, none⟩ = some (Value.int .i64 a4) ∧ w'.cell? ⟨b, off + k * 10 + 5, none⟩ = some (Value.slice p5 x5.length c5) ∧ w'.cell? ⟨b, off + k * 10 + 6, none⟩ = some (Value.int .i64 a6) ∧ w'.cell? ⟨b, off + k * 10 + 7, none⟩ = some (Value.int .i64 a7) ∧ w'.cell? ⟨b, off + k * 10 + 8, none⟩ = some (Value.int .i64 a8) ∧ w'.cell? ⟨b, off + k * 10 + 9, none⟩ = some (Value.slice p9 x9.length c9) ∧ w'.cell? ⟨b, off + (k - 1) * 10, none⟩ = some (Value.int .i64 z)) (by kernel_rfl) ⟨p_B0_0, p_B0_1, p_B0_2, p_B0_3, p_B0_4, p_B0_5, p_B0_6, p_B0_7, p_E0, p_E1, p_E2, p_E3, p_E4, p_E5, p_E6, p_E7, p_E8, p_E9, p_G0⟩ (fun hHeld => ?_)
            clear p_B0_0 p_B0_1 p_B0_2 p_B0_3 p_B0_4 p_B0_5 p_B0_6 p_B0_7 p_E0 p_E1 p_E2 p_E3 p_E4 p_E5 p_E6 p_E7 p_E8 p_E9 p_G0
            have cdr : Below wr.heap.size wr wr.drew := below_drew (Below.refl _ _)
            replace B0 := Lib.hid ((cdr.block w.heap.size (Array.getElem?_eq_some_iff.1 B0.out).1).trans B0.out)
            replace d := Lib.hid (d.out.trans (cdr.mono d.out.size))
            clear cdr
            refine take_runs (i := 0) (v := ?_) (by simp only [List.getElem?_toArray, List.getElem?_cons_succ, List.getElem?_cons_zero]; rfl) (by kernel_rfl) (by kernel_rfl) (by kernel_rfl) rfl (by exact fun _ _ _ h => h) (by rfl) ?_ (by assumption) ?_
            rotate_left
            · intro w hSw; (try dsimp only at hSw); go_simp; try (with_reducible rfl)
            try simp only [Act.put, List.setIfInBounds_toArray, List.set_cons_zero, List.set_cons_succ]
            refine take_runs (i := 1) (v := ?_) (by simp only [List.getElem?_toArray, List.getElem?_cons_succ, List.getElem?_cons_zero]; rfl) (by kernel_rfl) (by kernel_rfl) (by kernel_rfl) rfl (by exact fun _ _ _ h => h) (by rfl) ?_ (by assumption) ?_
            rotate_left
            · intro w hSw; (try dsimp only at hSw); go_simp; try (with_reducible rfl)
            try simp only [Act.put, List.setIfInBounds_toArray, List.set_cons_zero, List.set_cons_succ]
            refine take_runs (i := 2) (v := ?_) (by simp only [List.getElem?_toArray, List.getElem?_cons_succ, List.getElem?_cons_zero]; rfl) (by kernel_rfl) (by kernel_rfl) (by kernel_rfl) rfl (by exact fun _ _ _ h => h) (by rfl) ?_ (by assumption) ?_
            rotate_left
            · intro w hSw; (try dsimp only at hSw); go_simp; try (with_reducible rfl)
            try simp only [Act.put, List.setIfInBounds_toArray, List.set_cons_zero, List.set_cons_succ]
            refine take_runs (i := 3) (v := ?_) (by simp only [List.getElem?_toArray, List.getElem?_cons_succ, List.getElem?_cons_zero]; rfl) (by kernel_rfl) (by kernel_rfl) (by kernel_rfl) rfl (by exact fun _ _ _ h => h) (by rfl) ?_ (by assumption) ?_
            rotate_left
            · intro w hSw; (try dsimp only at hSw); go_simp; try (with_reducible rfl)
            try simp only [Act.put, List.setIfInBounds_toArray, List.set_cons_zero, List.set_cons_succ]
            refine take_runs (i := 4) (v := ?_) (by simp only [List.getElem?_toArray, List.getElem?_cons_succ, List.getElem?_cons_zero]; rfl) (by kernel_rfl) (by kernel_rfl) (by kernel_rfl) rfl (by exact fun _ _ _ h => h) (by rfl) ?_ (by assumption) ?_
            rotate_left
            · intro w hSw; (try dsimp only at hSw); go_simp; try (with_reducible rfl)
            try simp only [Act.put, List.setIfInBounds_toArray, List.set_cons_zero, List.set_cons_succ]
            refine take_runs (i := 5) (v := ?_) (by simp only [List.getElem?_toArray, List.getElem?_cons_succ, List.getElem?_cons_zero]; rfl) (by kernel_rfl) (by kernel_rfl) (by kernel_rfl) rfl (by exact fun _ _ _ h => h) (by rfl) ?_ (by assumption) ?_
            rotate_left
            · intro w hSw; (try dsimp only at hSw); go_simp; try (with_reducible rfl)
            try simp only [Act.put, List.setIfInBounds_toArray, List.set_cons_zero, List.set_cons_succ]
            refine wpAnyH_ready (rs := [6]) (by kernel_rfl) (by simp) ?_
            refine (AllReadyH.cons (o := _) (by simp only [List.getElem?_toArray, List.getElem?_cons_succ, List.getElem?_cons_zero]; rfl) (fun K hK => ?_) AllReadyH.nil)
            go_simp
            refine (HC.out (wr.drew) (slR_below tCond_law T2.out d.out) (slR_below tInt_law T3.out d.out) (slR_below tInt_law T5.out d.out) (slR_below tRow_law T9.out d.out)).mono ?_
            rintro e w5 ⟨rfl, c5⟩
            rw [HAB.out]
            have d2 := Lib.hid (show Below wr.heap.size wr w5 from (below_drew (Below.refl wr.heap.size wr)).trans c5)
            replace B0 := Lib.hid ((c5.block w.heap.size (Array.getElem?_eq_some_iff.1 B0.out).1).trans B0.out)
            replace d := Lib.hid (d.out.trans (c5.mono d.out.size))
            have Z_w5 := Lib.hid (show wr.heap.size ≤ w5.heap.size from c5.size)
            clear c5
            have p_B0_0 := (cell_of_row w5 _ 0 _ _ _ B0.out).trans (show _ = some (Value.slice sa ss.length sc) from rfl)
            have p_B0_1 := (cell_of_row w5 _ 1 _ _ _ B0.out).trans (show _ = some (Value.int .i64 now) from rfl)
            have p_B0_2 := (cell_of_row w5 _ 2 _ _ _ B0.out).trans (show _ = some (Value.int .i64 cu) from rfl)
            have p_B0_3 := (cell_of_row w5 _ 3 _ _ _ B0.out).trans (show _ = some (Value.slice oa os.length oc) from rfl)
            have p_B0_4 := (cell_of_row w5 _ 4 _ _ _ B0.out).trans (show _ = some (Value.slice (some ⟨b, off, none⟩) qs.length ac) from rfl)
            have p_B0_5 := (cell_of_row w5 _ 5 _ _ _ B0.out).trans (show _ = some (Value.slice da ds.length dc) from rfl)
            have p_B0_6 := (cell_of_row w5 _ 6 _ _ _ B0.out).trans (show _ = some (Value.slice la ls.length lc) from rfl)
            have p_B0_7 := (cell_of_row w5 _ 7 _ _ _ B0.out).trans (show _ = some (Value.int .i64 st) from rfl)
            have p_E0 := (d.out.cell (p := ⟨b, off + k * 10, none⟩) HBL.out).trans E0.out
            have p_E1 := (d.out.cell (p := ⟨b, off + k * 10 + 1, none⟩) HBL.out).trans E1.out
            have p_E2 := (d.out.cell (p := ⟨b, off + k * 10 + 2, none⟩) HBL.out).trans E2.out
            have p_E3 := (d.out.cell (p := ⟨b, off + k * 10 + 3, none⟩) HBL.out).trans E3.out
            have p_E4 := (d.out.cell (p := ⟨b, off + k * 10 + 4, none⟩) HBL.out).trans E4.out
            have p_E5 := (d.out.cell (p := ⟨b, off + k * 10 + 5, none⟩) HBL.out).trans E5.out
            have p_E6 := (d.out.cell (p := ⟨b, off + k * 10 + 6, none⟩) HBL.out).trans E6.out
            have p_E7 := (d.out.cell (p := ⟨b, off + k * 10 + 7, none⟩) HBL.out).trans E7.out
            have p_E8 := (d.out.cell (p := ⟨b, off + k * 10 + 8, none⟩) HBL.out).trans E8.out
            have p_E9 := (d.out.cell (p := ⟨b, off + k * 10 + 9, none⟩) HBL.out).trans E9.out
            have p_G0 := (d.out.cell (p := ⟨b, off + (k - 1) * 10, none⟩) HBL.out).trans G0.out
            refine hK.out _ _ ⟨p_B0_0, p_B0_1, p_B0_2, p_B0_3, p_B0_4, p_B0_5, p_B0_6, p_B0_7, p_E0, p_E1, p_E2, p_E3, p_E4, p_E5, p_E6, p_E7, p_E8, p_E9, p_G0⟩ (fun hHeld => ?_)
            clear p_B0_0 p_B0_1 p_B0_2 p_B0_3 p_B0_4 p_B0_5 p_B0_6 p_B0_7 p_E0 p_E1 p_E2 p_E3 p_E4 p_E5 p_E6 p_E7 p_E8 p_E9 p_G0
            clear hK K
            try simp only [Act.put, List.setIfInBounds_toArray, List.set_cons_zero, List.set_cons_succ]
            refine take_runs (i := 7) (v := ?_) (by simp only [List.getElem?_toArray, List.getElem?_cons_succ, List.getElem?_cons_zero]; rfl) (by kernel_rfl) (by kernel_rfl) (by kernel_rfl) rfl (by exact fun _ _ _ h => h) (by rfl) ?_ (by assumption) ?_
            rotate_left
            · intro w hSw; (try dsimp only at hSw); go_simp; try (with_reducible rfl)
            try simp only [Act.put, List.setIfInBounds_toArray, List.set_cons_zero, List.set_cons_succ]
            refine take_runs (i := 8) (v := ?_) (by simp only [List.getElem?_toArray, List.getElem?_cons_succ, List.getElem?_cons_zero]; rfl) (by kernel_rfl) (by kernel_rfl) (by kernel_rfl) rfl (by exact fun _ _ _ h => h) (by rfl) ?_ (by assumption) ?_
            rotate_left
            · intro w hSw; (try dsimp only at hSw); go_simp; try (with_reducible rfl)
            try simp only [Act.put, List.setIfInBounds_toArray, List.set_cons_zero, List.set_cons_succ]
            refine take_runs (i := 9) (v := ?_) (by simp only [List.getElem?_toArray, List.getElem?_cons_succ, List.getElem?_cons_zero]; rfl) (by kernel_rfl) (by kernel_rfl) (by kernel_rfl) rfl (by exact fun _ _ _ h => h) (by rfl) ?_ (by assumption) ?_
            rotate_left
            · intro w hSw; (try dsimp only at hSw); go_simp; try (with_reducible rfl)
            try simp only [Act.put, List.setIfInBounds_toArray, List.set_cons_zero, List.set_cons_succ]
            refine take_runs (i := 10) (v := .bool true) (by simp only [List.getElem?_toArray, List.getElem?_cons_succ, List.getElem?_cons_zero]; rfl) (by kernel_rfl) (by kernel_rfl) (by kernel_rfl) rfl (by exact fun _ _ _ h => h) (by rfl) ?_ (by assumption) ?_
            · intro w hSw; (try dsimp only at hSw); go_simp; all_goals first | (with_reducible rfl) | (rw [f1]; done) | (simpa using f1) | (simp [f1]; done) | (simp; omega)
            try simp only [Act.put, List.setIfInBounds_toArray, List.set_cons_zero, List.set_cons_succ]
            refine take_runs (i := 11) (v := ?_) (by simp only [List.getElem?_toArray, List.getElem?_cons_succ, List.getElem?_cons_zero]; rfl) (by kernel_rfl) (by kernel_rfl) (by kernel_rfl) rfl (by exact fun _ _ _ h => h) (by rfl) ?_ (by assumption) ?_
            rotate_left
            · intro w hSw; (try dsimp only at hSw); go_simp; try (with_reducible rfl)
            try simp only [Act.put, List.setIfInBounds_toArray, List.set_cons_zero, List.set_cons_succ]
            refine take_runs (i := 12) (v := ?_) (by simp only [List.getElem?_toArray, List.getElem?_cons_succ, List.getElem?_cons_zero]; rfl) (by kernel_rfl) (by kernel_rfl) (by kernel_rfl) rfl (by exact fun _ _ _ h => h) (by rfl) ?_ (by assumption) ?_
            rotate_left
            · intro w hSw; (try dsimp only at hSw); go_simp; try (with_reducible rfl)
            try simp only [Act.put, List.setIfInBounds_toArray, List.set_cons_zero, List.set_cons_succ]
            refine take_runs (i := 13) (v := ?_) (by simp only [List.getElem?_toArray, List.getElem?_cons_succ, List.getElem?_cons_zero]; rfl) (by kernel_rfl) (by kernel_rfl) (by kernel_rfl) rfl (by exact fun _ _ _ h => h) (by rfl) ?_ (by assumption) ?_
            rotate_left
            · intro w hSw; (try dsimp only at hSw); go_simp; try (with_reducible rfl)
            try simp only [Act.put, List.setIfInBounds_toArray, List.set_cons_zero, List.set_cons_succ]
            refine take_runs (i := 14) (v := ?_) (by simp only [List.getElem?_toArray, List.getElem?_cons_succ, List.getElem?_cons_zero]; rfl) (by kernel_rfl) (by kernel_rfl) (by kernel_rfl) rfl (by exact fun _ _ _ h => h) (by rfl) ?_ (by assumption) ?_
            rotate_left
            · intro w hSw; (try dsimp only at hSw); go_simp; try (with_reducible rfl)
            try simp only [Act.put, List.setIfInBounds_toArray, List.set_cons_zero, List.set_cons_succ]
            refine take_runs (i := 15) (v := ?_) (by simp only [List.getElem?_toArray, List.getElem?_cons_succ, List.getElem?_cons_zero]; rfl) (by kernel_rfl) (by kernel_rfl) (by kernel_rfl) rfl (by exact fun _ _ _ h => h) (by rfl) ?_ (by assumption) ?_
            rotate_left
            · intro w hSw; (try dsimp only at hSw); go_simp; try (with_reducible rfl)
            try simp only [Act.put, List.setIfInBounds_toArray, List.set_cons_zero, List.set_cons_succ]
            refine take_runs (i := 16) (v := ?_) (by simp only [List.getElem?_toArray, List.getElem?_cons_succ, List.getElem?_cons_zero]; rfl) (by kernel_rfl) (by kernel_rfl) (by kernel_rfl) rfl (by exact fun _ _ _ h => h) (by rfl) ?_ (by assumption) ?_
            rotate_left
            · intro w hSw; (try dsimp only at hSw); go_simp; try (with_reducible rfl)
            try simp only [Act.put, List.setIfInBounds_toArray, List.set_cons_zero, List.set_cons_succ]
            refine take_runs (i := 17) (v := ?_) (by simp only [List.getElem?_toArray, List.getElem?_cons_succ, List.getElem?_cons_zero]; rfl) (by kernel_rfl) (by kernel_rfl) (by kernel_rfl) rfl (by exact fun _ _ _ h => h) (by rfl) ?_ (by assumption) ?_
            rotate_left
            · intro w hSw; (try dsimp only at hSw); go_simp; try (with_reducible rfl)
            try simp only [Act.put, List.setIfInBounds_toArray, List.set_cons_zero, List.set_cons_succ]
            refine take_runs (i := 18) (v := ?_) (by simp only [List.getElem?_toArray, List.getElem?_cons_succ, List.getElem?_cons_zero]; rfl) (by kernel_rfl) (by kernel_rfl) (by kernel_rfl) rfl (by exact fun _ _ _ h => h) (by rfl) ?_ (by assumption) ?_
            rotate_left
            · intro w hSw; (try dsimp only at hSw); go_simp; try (with_reducible rfl)
            try simp only [Act.put, List.setIfInBounds_toArray, List.set_cons_zero, List.set_cons_succ]
            refine take_runs (i := 19) (v := ?_) (by simp only [List.getElem?_toArray, List.getElem?_cons_succ, List.getElem?_cons_zero]; rfl) (by kernel_rfl) (by kernel_rfl) (by kernel_rfl) rfl (by exact fun _ _ _ h => h) (by rfl) ?_ (by assumption) ?_
            rotate_left
            · intro w hSw; (try dsimp only at hSw); go_simp; try (with_reducible rfl)
            try simp only [Act.put, List.setIfInBounds_toArray, List.set_cons_zero, List.set_cons_succ]
            refine take_runs (i := 20) (v := ?_) (by simp only [List.getElem?_toArray, List.getElem?_cons_succ, List.getElem?_cons_zero]; rfl) (by kernel_rfl) (by kernel_rfl) (by kernel_rfl) rfl (by exact fun _ _ _ h => h) (by rfl) ?_ (by assumption) ?_
            rotate_left
            · intro w hSw; (try dsimp only at hSw); go_simp; try (with_reducible rfl)
            try simp only [Act.put, List.setIfInBounds_toArray, List.set_cons_zero, List.set_cons_succ]
            refine take_runs (i := 21) (v := ?_) (by simp only [List.getElem?_toArray, List.getElem?_cons_succ, List.getElem?_cons_zero]; rfl) (by kernel_rfl) (by kernel_rfl) (by kernel_rfl) rfl (by exact fun _ _ _ h => h) (by rfl) ?_ (by assumption) ?_
            rotate_left
            · intro w hSw; (try dsimp only at hSw); go_simp; try (with_reducible rfl)
            try simp only [Act.put, List.setIfInBounds_toArray, List.set_cons_zero, List.set_cons_succ]
            refine take_runs (i := 22) (v := ?_) (by simp only [List.getElem?_toArray, List.getElem?_cons_succ, List.getElem?_cons_zero]; rfl) (by kernel_rfl) (by kernel_rfl) (by kernel_rfl) rfl (by exact fun _ _ _ h => h) (by rfl) ?_ (by assumption) ?_
            rotate_left
            · intro w hSw; (try dsimp only at hSw); go_simp; try (with_reducible rfl)
            try simp only [Act.put, List.setIfInBounds_toArray, List.set_cons_zero, List.set_cons_succ]
            refine take_runs (i := 23) (v := ?_) (by simp only [List.getElem?_toArray, List.getElem?_cons_succ, List.getElem?_cons_zero]; rfl) (by kernel_rfl) (by kernel_rfl) (by kernel_rfl) rfl (by exact fun _ _ _ h => h) (by rfl) ?_ (by assumption) ?_
            rotate_left
            · intro w hSw; (try dsimp only at hSw); go_simp; try (with_reducible rfl)
            try simp only [Act.put, List.setIfInBounds_toArray, List.set_cons_zero, List.set_cons_succ]
            refine take_runs (i := 24) (v := ?_) (by simp only [List.getElem?_toArray, List.getElem?_cons_succ, List.getElem?_cons_zero]; rfl) (by kernel_rfl) (by kernel_rfl) (by kernel_rfl) rfl (by exact fun _ _ _ h => h) (by rfl) ?_ (by assumption) ?_
            rotate_left
            · intro w hSw; (try dsimp only at hSw); go_simp; try (with_reducible rfl)
            try simp only [Act.put, List.setIfInBounds_toArray, List.set_cons_zero, List.set_cons_succ]
            refine take_runs (i := 25) (v := ?_) (by simp only [List.getElem?_toArray, List.getElem?_cons_succ, List.getElem?_cons_zero]; rfl) (by kernel_rfl) (by kernel_rfl) (by kernel_rfl) rfl (by exact fun _ _ _ h => h) (by rfl) ?_ (by assumption) ?_
            rotate_left
            · intro w hSw; (try dsimp only at hSw); go_simp; try (with_reducible rfl)
            try simp only [Act.put, List.setIfInBounds_toArray, List.set_cons_zero, List.set_cons_succ]
            refine take_runs (i := 26) (v := ?_) (by simp only [List.getElem?_toArray, List.getElem?_cons_succ, List.getElem?_cons_zero]; rfl) (by kernel_rfl) (by kernel_rfl) (by kernel_rfl) rfl (by exact fun _ _ _ h => h) (by rfl) ?_ (by assumption) ?_
            rotate_left
            · intro w hSw; (try dsimp only at hSw); go_simp; try (with_reducible rfl)
            try simp only [Act.put, List.setIfInBounds_toArray, List.set_cons_zero, List.set_cons_succ]
            refine take_runs (i := 27) (v := .bool false) (by simp only [List.getElem?_toArray, List.getElem?_cons_succ, List.getElem?_cons_zero]; rfl) (by kernel_rfl) (by kernel_rfl) (by kernel_rfl) rfl (by exact fun _ _ _ h => h) (by rfl) ?_ (by assumption) ?_
            · intro w hSw; (try dsimp only at hSw); go_simp; all_goals first | (with_reducible rfl) | (rw [f2]; done) | (simpa using f2) | (simp [f2]; done) | (simp; omega)
            try simp only [Act.put, List.setIfInBounds_toArray, List.set_cons_zero, List.set_cons_succ]
            refine take_runs (i := 28) (v := ?_) (by simp only [List.getElem?_toArray, List.getElem?_cons_succ, List.getElem?_cons_zero]; rfl) (by kernel_rfl) (by kernel_rfl) (by kernel_rfl) rfl (by exact fun _ _ _ h => h) (by rfl) ?_ (by assumption) ?_
            rotate_left
            · intro w hSw; (try dsimp only at hSw); go_simp; try (with_reducible rfl)
            try simp only [Act.put, List.setIfInBounds_toArray, List.set_cons_zero, List.set_cons_succ]
            refine take_runs (i := 29) (v := ?_) (by simp only [List.getElem?_toArray, List.getElem?_cons_succ, List.getElem?_cons_zero]; rfl) (by kernel_rfl) (by kernel_rfl) (by kernel_rfl) rfl (by exact fun _ _ _ h => h) (by rfl) ?_ (by assumption) ?_
            rotate_left
            · intro w hSw; (try dsimp only at hSw); go_simp; try (with_reducible rfl)
            try simp only [Act.put, List.setIfInBounds_toArray, List.set_cons_zero, List.set_cons_succ]
            refine wpAnyH_done (by kernel_rfl) ?_ _
            clear hHeld
            go_wp2
            go_roundw
            case rel => exact ⟨k + 1, by omega, by go_num, HT, cw.out.trans (d2.out.mono cw.out.size)⟩
            case measure => simp [intOf]; omega
          · have HF := Lib.hid (HL2.out hle)
            have f2 : decide (a0 ≤ z) = true := decide_eq_true (by omega)
            clear hle HL2 HS2
            have p_B0_0 := (cell_of_row wr _ 0 _ _ _ B0.out).trans (show _ = some (Value.slice sa ss.length sc) from rfl)
            have p_B0_1 := (cell_of_row wr _ 1 _ _ _ B0.out).trans (show _ = some (Value.int .i64 now) from rfl)
            have p_B0_2 := (cell_of_row wr _ 2 _ _ _ B0.out).trans (show _ = some (Value.int .i64 cu) from rfl)
            have p_B0_3 := (cell_of_row wr _ 3 _ _ _ B0.out).trans (show _ = some (Value.slice oa os.length oc) from rfl)
            have p_B0_4 := (cell_of_row wr _ 4 _ _ _ B0.out).trans (show _ = some (Value.slice (some ⟨b, off, none⟩) qs.length ac) from rfl)
            have p_B0_5 := (cell_of_row wr _ 5 _ _ _ B0.out).trans (show _ = some (Value.slice da ds.length dc) from rfl)
            have p_B0_6 := (cell_of_row wr _ 6 _ _ _ B0.out).trans (show _ = some (Value.slice la ls.length lc) from rfl)
            have p_B0_7 := (cell_of_row wr _ 7 _ _ _ B0.out).trans (show _ = some (Value.int .i64 st) from rfl)
            go_wp2
            clear p_B0_0 p_B0_1 p_B0_2 p_B0_3 p_B0_4 p_B0_5 p_B0_6 p_B0_7
            have p_B0_0 := (cell_of_row wr _ 0 _ _ _ B0.out).trans (show _ = some (Value.slice sa ss.length sc) from rfl)
            have p_B0_1 := (cell_of_row wr _ 1 _ _ _ B0.out).trans (show _ = some (Value.int .i64 now) from rfl)
            have p_B0_2 := (cell_of_row wr _ 2 _ _ _ B0.out).trans (show _ = some (Value.int .i64 cu) from rfl)
            have p_B0_3 := (cell_of_row wr _ 3 _ _ _ B0.out).trans (show _ = some (Value.slice oa os.length oc) from rfl)
            have p_B0_4 := (cell_of_row wr _ 4 _ _ _ B0.out).trans (show _ = some (Value.slice (some ⟨b, off, none⟩) qs.length ac) from rfl)
            have p_B0_5 := (cell_of_row wr _ 5 _ _ _ B0.out).trans (show _ = some (Value.slice da ds.length dc) from rfl)
            have p_B0_6 := (cell_of_row wr _ 6 _ _ _ B0.out).trans (show _ = some (Value.slice la ls.length lc) from rfl)
            have p_B0_7 := (cell_of_row wr _ 7 _ _ _ B0.out).trans (show _ = some (Value.int .i64 st) from rfl)
            have p_E0 := (d.out.cell (p := ⟨b, off + k * 10, none⟩) HBL.out).trans E0.out
            have p_E1 := (d.out.cell (p := ⟨b, off + k * 10 + 1, none⟩) HBL.out).trans E1.out
            have p_E2 := (d.out.cell (p := ⟨b, off + k * 10 + 2, none⟩) HBL.out).trans E2.out
            have p_E3 := (d.out.cell (p := ⟨b, off + k * 10 + 3, none⟩) HBL.out).trans E3.out
            have p_E4 := (d.out.cell (p := ⟨b, off + k * 10 + 4, none⟩) HBL.out).trans E4.out
            have p_E5 := (d.out.cell (p := ⟨b, off + k * 10 + 5, none⟩) HBL.out).trans E5.out
            have p_E6 := (d.out.cell (p := ⟨b, off + k * 10 + 6, none⟩) HBL.out).trans E6.out
            have p_E7 := (d.out.cell (p := ⟨b, off + k * 10 + 7, none⟩) HBL.out).trans E7.out
            have p_E8 := (d.out.cell (p := ⟨b, off + k * 10 + 8, none⟩) HBL.out).trans E8.out
            have p_E9 := (d.out.cell (p := ⟨b, off + k * 10 + 9, none⟩) HBL.out).trans E9.out
            have p_G0 := (d.out.cell (p := ⟨b, off + (k - 1) * 10, none⟩) HBL.out).trans G0.out
            refine wp_region_held_drew (S := fun w' => w'.cell? ⟨w.heap.size, 0, none⟩ = some (Value.slice sa ss.length sc) ∧ w'.cell? ⟨w.heap.size, 1, none⟩ = some (Value.int .i64 now) ∧ w'.cell? ⟨w.heap.size, 2, none⟩ = some (Value.int .i64 cu) ∧ w'.cell? ⟨w.heap.size, 3, none⟩ = some (Value.slice oa os.length oc) ∧ w'.cell? ⟨w.heap.size, 4, none⟩ = some (Value.slice (some ⟨b, off, none⟩) qs.length ac) ∧ w'.cell? ⟨w.heap.size, 5, none⟩ = some (Value.slice da ds.length dc) ∧ w'.cell? ⟨w.heap.size, 6, none⟩ = some (Value.slice la ls.length lc) ∧ w'.cell? ⟨w.heap.size, 7, none⟩ = some (Value.int .i64 st) ∧ w'.cell? ⟨b, off + k * 10, none⟩ = some (Value.int .i64 a0) ∧ w'.cell? ⟨b, off + k * 10 + 1, none⟩ = some (Value.int .i64 a1) ∧ w'.cell? ⟨b, off + k * 10 + 2, none⟩ = some (Value.slice p2 x2.length c2) ∧ w'.cell? ⟨b, off + k * 10 + 3, none⟩ = some (Value.slice p3 x3.length c3) ∧ w'.cell? ⟨b, off + k * 10 + 4, none⟩ = some (Value.int .i64 a4) ∧ w'.cell? ⟨b, off + k * 10 + 5, none⟩ = some (Value.slice p5 x5.length c5) ∧ w'.cell? ⟨b, off + k * 10 + 6, none⟩ = some (Value.int .i64 a6) ∧ w'.cell? ⟨b, off + k * 10 + 7, none⟩ = some (Value.int .i64 a7) ∧ w'.cell? ⟨b, off + k * 10 + 8, none⟩ = some (Value.int .i64 a8) ∧ w'.cell? ⟨b, off + k * 10 + 9, none⟩ = some (Value.slice p9 x9.length c9) ∧ w'.cell? ⟨b, off + (k - 1) * 10, none⟩ = some (Value.int .i64 z)) (by kernel_rfl) ⟨p_B0_0, p_B0_1, p_B0_2, p_B0_3, p_B0_4, p_B0_5, p_B0_6, p_B0_7, p_E0, p_E1, p_E2, p_E3, p_E4, p_E5, p_E6, p_E7, p_E8, p_E9, p_G0⟩ (fun hHeld => ?_)
            clear p_B0_0 p_B0_1 p_B0_2 p_B0_3 p_B0_4 p_B0_5 p_B0_6 p_B0_7 p_E0 p_E1 p_E2 p_E3 p_E4 p_E5 p_E6 p_E7 p_E8 p_E9 p_G0
            have cdr : Below wr.heap.size wr wr.drew := below_drew (Below.refl _ _)
            replace B0 := Lib.hid ((cdr.block w.heap.size (Array.getElem?_eq_some_iff.1 B0.out).1).trans B0.out)
            replace d := Lib.hid (d.out.trans (cdr.mono d.out.size))
            clear cdr
            refine take_runs (i := 0) (v := ?_) (by simp only [List.getElem?_toArray, List.getElem?_cons_succ, List.getElem?_cons_zero]; rfl) (by kernel_rfl) (by kernel_rfl) (by kernel_rfl) rfl (by exact fun _ _ _ h => h) (by rfl) ?_ (by assumption) ?_
            rotate_left
            · intro w hSw; (try dsimp only at hSw); go_simp; try (with_reducible rfl)
            try simp only [Act.put, List.setIfInBounds_toArray, List.set_cons_zero, List.set_cons_succ]
            refine take_runs (i := 1) (v := ?_) (by simp only [List.getElem?_toArray, List.getElem?_cons_succ, List.getElem?_cons_zero]; rfl) (by kernel_rfl) (by kernel_rfl) (by kernel_rfl) rfl (by exact fun _ _ _ h => h) (by rfl) ?_ (by assumption) ?_
            rotate_left
            · intro w hSw; (try dsimp only at hSw); go_simp; try (with_reducible rfl)
            try simp only [Act.put, List.setIfInBounds_toArray, List.set_cons_zero, List.set_cons_succ]
            refine take_runs (i := 2) (v := ?_) (by simp only [List.getElem?_toArray, List.getElem?_cons_succ, List.getElem?_cons_zero]; rfl) (by kernel_rfl) (by kernel_rfl) (by kernel_rfl) rfl (by exact fun _ _ _ h => h) (by rfl) ?_ (by assumption) ?_
            rotate_left
            · intro w hSw; (try dsimp only at hSw); go_simp; try (with_reducible rfl)
            try simp only [Act.put, List.setIfInBounds_toArray, List.set_cons_zero, List.set_cons_succ]
            refine take_runs (i := 3) (v := ?_) (by simp only [List.getElem?_toArray, List.getElem?_cons_succ, List.getElem?_cons_zero]; rfl) (by kernel_rfl) (by kernel_rfl) (by kernel_rfl) rfl (by exact fun _ _ _ h => h) (by rfl) ?_ (by assumption) ?_
            rotate_left
            · intro w hSw; (try dsimp only at hSw); go_simp; try (with_reducible rfl)
            try simp only [Act.put, List.setIfInBounds_toArray, List.set_cons_zero, List.set_cons_succ]
            refine take_runs (i := 4) (v := ?_) (by simp only [List.getElem?_toArray, List.getElem?_cons_succ, List.getElem?_cons_zero]; rfl) (by kernel_rfl) (by kernel_rfl) (by kernel_rfl) rfl (by exact fun _ _ _ h => h) (by rfl) ?_ (by assumption) ?_
            rotate_left
            · intro w hSw; (try dsimp only at hSw); go_simp; try (with_reducible rfl)
            try simp only [Act.put, List.setIfInBounds_toArray, List.set_cons_zero, List.set_cons_succ]
            refine take_runs (i := 5) (v := ?_) (by simp only [List.getElem?_toArray, List.getElem?_cons_succ, List.getElem?_cons_zero]; rfl) (by kernel_rfl) (by kernel_rfl) (by kernel_rfl) rfl (by exact fun _ _ _ h => h) (by rfl) ?_ (by assumption) ?_
            rotate_left
            · intro w hSw; (try dsimp only at hSw); go_simp; try (with_reducible rfl)
            try simp only [Act.put, List.setIfInBounds_toArray, List.set_cons_zero, List.set_cons_succ]
            refine wpAnyH_ready (rs := [6]) (by kernel_rfl) (by simp) ?_
            refine (AllReadyH.cons (o := _) (by simp only [List.getElem?_toArray, List.getElem?_cons_succ, List.getElem?_cons_zero]; rfl) (fun K hK => ?_) AllReadyH.nil)
            go_simp
            refine (HC.out (wr.drew) (slR_below tCond_law T2.out d.out) (slR_below tInt_law T3.out d.out) (slR_below tInt_law T5.out d.out) (slR_below tRow_law T9.out d.out)).mono ?_
            rintro e w5 ⟨rfl, c5⟩
            rw [HAB.out]
            have d2 := Lib.hid (show Below wr.heap.size wr w5 from (below_drew (Below.refl wr.heap.size wr)).trans c5)
            replace B0 := Lib.hid ((c5.block w.heap.size (Array.getElem?_eq_some_iff.1 B0.out).1).trans B0.out)
            replace d := Lib.hid (d.out.trans (c5.mono d.out.size))
            have Z_w5 := Lib.hid (show wr.heap.size ≤ w5.heap.size from c5.size)
            clear c5
            have p_B0_0 := (cell_of_row w5 _ 0 _ _ _ B0.out).trans (show _ = some (Value.slice sa ss.length sc) from rfl)
            have p_B0_1 := (cell_of_row w5 _ 1 _ _ _ B0.out).trans (show _ = some (Value.int .i64 now) from rfl)
            have p_B0_2 := (cell_of_row w5 _ 2 _ _ _ B0.out).trans (show _ = some (Value.int .i64 cu) from rfl)
            have p_B0_3 := (cell_of_row w5 _ 3 _ _ _ B0.out).trans (show _ = some (Value.slice oa os.length oc) from rfl)
            have p_B0_4 := (cell_of_row w5 _ 4 _ _ _ B0.out).trans (show _ = some (Value.slice (some ⟨b, off, none⟩) qs.length ac) from rfl)
            have p_B0_5 := (cell_of_row w5 _ 5 _ _ _ B0.out).trans (show _ = some (Value.slice da ds.length dc) from rfl)
            have p_B0_6 := (cell_of_row w5 _ 6 _ _ _ B0.out).trans (show _ = some (Value.slice la ls.length lc) from rfl)
            have p_B0_7 := (cell_of_row w5 _ 7 _ _ _ B0.out).trans (show _ = some (Value.int .i64 st) from rfl)
            have p_E0 := (d.out.cell (p := ⟨b, off + k * 10, none⟩) HBL.out).trans E0.out
            have p_E1 := (d.out.cell (p := ⟨b, off + k * 10 + 1, none⟩) HBL.out).trans E1.out
            have p_E2 := (d.out.cell (p := ⟨b, off + k * 10 + 2, none⟩) HBL.out).trans E2.out
            have p_E3 := (d.out.cell (p := ⟨b, off + k * 10 + 3, none⟩) HBL.out).trans E3.out
            have p_E4 := (d.out.cell (p := ⟨b, off + k * 10 + 4, none⟩) HBL.out).trans E4.out
            have p_E5 := (d.out.cell (p := ⟨b, off + k * 10 + 5, none⟩) HBL.out).trans E5.out
            have p_E6 := (d.out.cell (p := ⟨b, off + k * 10 + 6, none⟩) HBL.out).trans E6.out
            have p_E7 := (d.out.cell (p := ⟨b, off + k * 10 + 7, none⟩) HBL.out).trans E7.out
            have p_E8 := (d.out.cell (p := ⟨b, off + k * 10 + 8, none⟩) HBL.out).trans E8.out
            have p_E9 := (d.out.cell (p := ⟨b, off + k * 10 + 9, none⟩) HBL.out).trans E9.out
            have p_G0 := (d.out.cell (p := ⟨b, off + (k - 1) * 10, none⟩) HBL.out).trans G0.out
            refine hK.out _ _ ⟨p_B0_0, p_B0_1, p_B0_2, p_B0_3, p_B0_4, p_B0_5, p_B0_6, p_B0_7, p_E0, p_E1, p_E2, p_E3, p_E4, p_E5, p_E6, p_E7, p_E8, p_E9, p_G0⟩ (fun hHeld => ?_)
            clear p_B0_0 p_B0_1 p_B0_2 p_B0_3 p_B0_4 p_B0_5 p_B0_6 p_B0_7 p_E0 p_E1 p_E2 p_E3 p_E4 p_E5 p_E6 p_E7 p_E8 p_E9 p_G0
            clear hK K
            try simp only [Act.put, List.setIfInBounds_toArray, List.set_cons_zero, List.set_cons_succ]
            refine take_runs (i := 7) (v := ?_) (by simp only [List.getElem?_toArray, List.getElem?_cons_succ, List.getElem?_cons_zero]; rfl) (by kernel_rfl) (by kernel_rfl) (by kernel_rfl) rfl (by exact fun _ _ _ h => h) (by rfl) ?_ (by assumption) ?_
            rotate_left
            · intro w hSw; (try dsimp only at hSw); go_simp; try (with_reducible rfl)
            try simp only [Act.put, List.setIfInBounds_toArray, List.set_cons_zero, List.set_cons_succ]
            refine take_runs (i := 8) (v := ?_) (by simp only [List.getElem?_toArray, List.getElem?_cons_succ, List.getElem?_cons_zero]; rfl) (by kernel_rfl) (by kernel_rfl) (by kernel_rfl) rfl (by exact fun _ _ _ h => h) (by rfl) ?_ (by assumption) ?_
            rotate_left
            · intro w hSw; (try dsimp only at hSw); go_simp; try (with_reducible rfl)
            try simp only [Act.put, List.setIfInBounds_toArray, List.set_cons_zero, List.set_cons_succ]
            refine take_runs (i := 9) (v := ?_) (by simp only [List.getElem?_toArray, List.getElem?_cons_succ, List.getElem?_cons_zero]; rfl) (by kernel_rfl) (by kernel_rfl) (by kernel_rfl) rfl (by exact fun _ _ _ h => h) (by rfl) ?_ (by assumption) ?_
            rotate_left
            · intro w hSw; (try dsimp only at hSw); go_simp; try (with_reducible rfl)
            try simp only [Act.put, List.setIfInBounds_toArray, List.set_cons_zero, List.set_cons_succ]
            refine take_runs (i := 10) (v := .bool true) (by simp only [List.getElem?_toArray, List.getElem?_cons_succ, List.getElem?_cons_zero]; rfl) (by kernel_rfl) (by kernel_rfl) (by kernel_rfl) rfl (by exact fun _ _ _ h => h) (by rfl) ?_ (by assumption) ?_
            · intro w hSw; (try dsimp only at hSw); go_simp; all_goals first | (with_reducible rfl) | (rw [f1]; done) | (simpa using f1) | (simp [f1]; done) | (simp; omega)
            try simp only [Act.put, List.setIfInBounds_toArray, List.set_cons_zero, List.set_cons_succ]
            refine take_runs (i := 11) (v := ?_) (by simp only [List.getElem?_toArray, List.getElem?_cons_succ, List.getElem?_cons_zero]; rfl) (by kernel_rfl) (by kernel_rfl) (by kernel_rfl) rfl (by exact fun _ _ _ h => h) (by rfl) ?_ (by assumption) ?_
            rotate_left
            · intro w hSw; (try dsimp only at hSw); go_simp; try (with_reducible rfl)
            try simp only [Act.put, List.setIfInBounds_toArray, List.set_cons_zero, List.set_cons_succ]
            refine take_runs (i := 12) (v := ?_) (by simp only [List.getElem?_toArray, List.getElem?_cons_succ, List.getElem?_cons_zero]; rfl) (by kernel_rfl) (by kernel_rfl) (by kernel_rfl) rfl (by exact fun _ _ _ h => h) (by rfl) ?_ (by assumption) ?_
            rotate_left
            · intro w hSw; (try dsimp only at hSw); go_simp; try (with_reducible rfl)
            try simp only [Act.put, List.setIfInBounds_toArray, List.set_cons_zero, List.set_cons_succ]
            refine take_runs (i := 13) (v := ?_) (by simp only [List.getElem?_toArray, List.getElem?_cons_succ, List.getElem?_cons_zero]; rfl) (by kernel_rfl) (by kernel_rfl) (by kernel_rfl) rfl (by exact fun _ _ _ h => h) (by rfl) ?_ (by assumption) ?_
            rotate_left
            · intro w hSw; (try dsimp only at hSw); go_simp; try (with_reducible rfl)
            try simp only [Act.put, List.setIfInBounds_toArray, List.set_cons_zero, List.set_cons_succ]
            refine take_runs (i := 14) (v := ?_) (by simp only [List.getElem?_toArray, List.getElem?_cons_succ, List.getElem?_cons_zero]; rfl) (by kernel_rfl) (by kernel_rfl) (by kernel_rfl) rfl (by exact fun _ _ _ h => h) (by rfl) ?_ (by assumption) ?_
            rotate_left
            · intro w hSw; (try dsimp only at hSw); go_simp; try (with_reducible rfl)
            try simp only [Act.put, List.setIfInBounds_toArray, List.set_cons_zero, List.set_cons_succ]
            refine take_runs (i := 15) (v := ?_) (by simp only [List.getElem?_toArray, List.getElem?_cons_succ, List.getElem?_cons_zero]; rfl) (by kernel_rfl) (by kernel_rfl) (by kernel_rfl) rfl (by exact fun _ _ _ h => h) (by rfl) ?_ (by assumption) ?_
            rotate_left
            · intro w hSw; (try dsimp only at hSw); go_simp; try (with_reducible rfl)
            try simp only [Act.put, List.setIfInBounds_toArray, List.set_cons_zero, List.set_cons_succ]
            refine take_runs (i := 16) (v := ?_) (by simp only [List.getElem?_toArray, List.getElem?_cons_succ, List.getElem?_cons_zero]; rfl) (by kernel_rfl) (by kernel_rfl) (by kernel_rfl) rfl (by exact fun _ _ _ h => h) (by rfl) ?_ (by assumption) ?_
            rotate_left
            · intro w hSw; (try dsimp only at hSw); go_simp; try (with_reducible rfl)
            try simp only [Act.put, List.setIfInBounds_toArray, List.set_cons_zero, List.set_cons_succ]
            refine take_runs (i := 17) (v := ?_) (by simp only [List.getElem?_toArray, List.getElem?_cons_succ, List.getElem?_cons_zero]; rfl) (by kernel_rfl) (by kernel_rfl) (by kernel_rfl) rfl (by exact fun _ _ _ h => h) (by rfl) ?_ (by assumption) ?_
            rotate_left
            · intro w hSw; (try dsimp only at hSw); go_simp; try (with_reducible rfl)
            try simp only [Act.put, List.setIfInBounds_toArray, List.set_cons_zero, List.set_cons_succ]
            refine take_runs (i := 18) (v := ?_) (by simp only [List.getElem?_toArray, List.getElem?_cons_succ, List.getElem?_cons_zero]; rfl) (by kernel_rfl) (by kernel_rfl) (by kernel_rfl) rfl (by exact fun _ _ _ h => h) (by rfl) ?_ (by assumption) ?_
            rotate_left
            · intro w hSw; (try dsimp only at hSw); go_simp; try (with_reducible rfl)
            try simp only [Act.put, List.setIfInBounds_toArray, List.set_cons_zero, List.set_cons_succ]
            refine take_runs (i := 19) (v := ?_) (by simp only [List.getElem?_toArray, List.getElem?_cons_succ, List.getElem?_cons_zero]; rfl) (by kernel_rfl) (by kernel_rfl) (by kernel_rfl) rfl (by exact fun _ _ _ h => h) (by rfl) ?_ (by assumption) ?_
            rotate_left
            · intro w hSw; (try dsimp only at hSw); go_simp; try (with_reducible rfl)
            try simp only [Act.put, List.setIfInBounds_toArray, List.set_cons_zero, List.set_cons_succ]
            refine take_runs (i := 20) (v := ?_) (by simp only [List.getElem?_toArray, List.getElem?_cons_succ, List.getElem?_cons_zero]; rfl) (by kernel_rfl) (by kernel_rfl) (by kernel_rfl) rfl (by exact fun _ _ _ h => h) (by rfl) ?_ (by assumption) ?_
            rotate_left
            · intro w hSw; (try dsimp only at hSw); go_simp; try (with_reducible rfl)
            try simp only [Act.put, List.setIfInBounds_toArray, List.set_cons_zero, List.set_cons_succ]
            refine take_runs (i := 21) (v := ?_) (by simp only [List.getElem?_toArray, List.getElem?_cons_succ, List.getElem?_cons_zero]; rfl) (by kernel_rfl) (by kernel_rfl) (by kernel_rfl) rfl (by exact fun _ _ _ h => h) (by rfl) ?_ (by assumption) ?_
            rotate_left
            · intro w hSw; (try dsimp only at hSw); go_simp; try (with_reducible rfl)
            try simp only [Act.put, List.setIfInBounds_toArray, List.set_cons_zero, List.set_cons_succ]
            refine take_runs (i := 22) (v := ?_) (by simp only [List.getElem?_toArray, List.getElem?_cons_succ, List.getElem?_cons_zero]; rfl) (by kernel_rfl) (by kernel_rfl) (by kernel_rfl) rfl (by exact fun _ _ _ h => h) (by rfl) ?_ (by assumption) ?_
            rotate_left
            · intro w hSw; (try dsimp only at hSw); go_simp; try (with_reducible rfl)
            try simp only [Act.put, List.setIfInBounds_toArray, List.set_cons_zero, List.set_cons_succ]
            refine take_runs (i := 23) (v := ?_) (by simp only [List.getElem?_toArray, List.getElem?_cons_succ, List.getElem?_cons_zero]; rfl) (by kernel_rfl) (by kernel_rfl) (by kernel_rfl) rfl (by exact fun _ _ _ h => h) (by rfl) ?_ (by assumption) ?_
            rotate_left
            · intro w hSw; (try dsimp only at hSw); go_simp; try (with_reducible rfl)
            try simp only [Act.put, List.setIfInBounds_toArray, List.set_cons_zero, List.set_cons_succ]
            refine take_runs (i := 24) (v := ?_) (by simp only [List.getElem?_toArray, List.getElem?_cons_succ, List.getElem?_cons_zero]; rfl) (by kernel_rfl) (by kernel_rfl) (by kernel_rfl) rfl (by exact fun _ _ _ h => h) (by rfl) ?_ (by assumption) ?_
            rotate_left
            · intro w hSw; (try dsimp only at hSw); go_simp; try (with_reducible rfl)
            try simp only [Act.put, List.setIfInBounds_toArray, List.set_cons_zero, List.set_cons_succ]
            refine take_runs (i := 25) (v := ?_) (by simp only [List.getElem?_toArray, List.getElem?_cons_succ, List.getElem?_cons_zero]; rfl) (by kernel_rfl) (by kernel_rfl) (by kernel_rfl) rfl (by exact fun _ _ _ h => h) (by rfl) ?_ (by assumption) ?_
            rotate_left
            · intro w hSw; (try dsimp only at hSw); go_simp; try (with_reducible rfl)
            try simp only [Act.put, List.setIfInBounds_toArray, List.set_cons_zero, List.set_cons_succ]
            refine take_runs (i := 26) (v := ?_) (by simp only [List.getElem?_toArray, List.getElem?_cons_succ, List.getElem?_cons_zero]; rfl) (by kernel_rfl) (by kernel_rfl) (by kernel_rfl) rfl (by exact fun _ _ _ h => h) (by rfl) ?_ (by assumption) ?_
            rotate_left
            · intro w hSw; (try dsimp only at hSw); go_simp; try (with_reducible rfl)
            try simp only [Act.put, List.setIfInBounds_toArray, List.set_cons_zero, List.set_cons_succ]
            refine take_runs (i := 27) (v := .bool true) (by simp only [List.getElem?_toArray, List.getElem?_cons_succ, List.getElem?_cons_zero]; rfl) (by kernel_rfl) (by kernel_rfl) (by kernel_rfl) rfl (by exact fun _ _ _ h => h) (by rfl) ?_ (by assumption) ?_
            · intro w hSw; (try dsimp only at hSw); go_simp; all_goals first | (with_reducible rfl) | (rw [f2]; done) | (simpa using f2) | (simp [f2]; done) | (simp; omega)
            try simp only [Act.put, List.setIfInBounds_toArray, List.set_cons_zero, List.set_cons_succ]
            refine take_runs (i := 28) (v := ?_) (by simp only [List.getElem?_toArray, List.getElem?_cons_succ, List.getElem?_cons_zero]; rfl) (by kernel_rfl) (by kernel_rfl) (by kernel_rfl) rfl (by exact fun _ _ _ h => h) (by rfl) ?_ (by assumption) ?_
            rotate_left
            · intro w hSw; (try dsimp only at hSw); go_simp; try (with_reducible rfl)
            try simp only [Act.put, List.setIfInBounds_toArray, List.set_cons_zero, List.set_cons_succ]
            refine take_runs (i := 29) (v := ?_) (by simp only [List.getElem?_toArray, List.getElem?_cons_succ, List.getElem?_cons_zero]; rfl) (by kernel_rfl) (by kernel_rfl) (by kernel_rfl) rfl (by exact fun _ _ _ h => h) (by rfl) ?_ (by assumption) ?_
            rotate_left
            · intro w hSw; (try dsimp only at hSw); go_simp; try (with_reducible rfl)
            try simp only [Act.put, List.setIfInBounds_toArray, List.set_cons_zero, List.set_cons_succ]
            refine wpAnyH_done (by kernel_rfl) ?_ _
            clear hHeld
            go_wp2
            go_ret
            exact ⟨ret_b HF.out.symm, d.out⟩
    · obtain rfl : k = qs.length := by omega
      have HACT := Lib.hid (acts_yes hno.out)
      clear hno
      have p_B0_0 := (cell_of_row wr _ 0 _ _ _ B0.out).trans (show _ = some (Value.slice sa ss.length sc) from rfl)
      have p_B0_1 := (cell_of_row wr _ 1 _ _ _ B0.out).trans (show _ = some (Value.int .i64 now) from rfl)
      have p_B0_2 := (cell_of_row wr _ 2 _ _ _ B0.out).trans (show _ = some (Value.int .i64 cu) from rfl)
      have p_B0_3 := (cell_of_row wr _ 3 _ _ _ B0.out).trans (show _ = some (Value.slice oa os.length oc) from rfl)
      have p_B0_4 := (cell_of_row wr _ 4 _ _ _ B0.out).trans (show _ = some (Value.slice aa qs.length ac) from rfl)
      have p_B0_5 := (cell_of_row wr _ 5 _ _ _ B0.out).trans (show _ = some (Value.slice da ds.length dc) from rfl)
      have p_B0_6 := (cell_of_row wr _ 6 _ _ _ B0.out).trans (show _ = some (Value.slice la ls.length lc) from rfl)
      have p_B0_7 := (cell_of_row wr _ 7 _ _ _ B0.out).trans (show _ = some (Value.int .i64 st) from rfl)
      go_wp2
      clear p_B0_0 p_B0_1 p_B0_2 p_B0_3 p_B0_4 p_B0_5 p_B0_6 p_B0_7
      generalize wr = Wa at *
      go_loopw [4] (fun i wr => ∃ k : Nat, k ≤ ds.length ∧ i = .int .i64 k ∧ Hid (AllTo (finB now) f0D ds k) ∧ Below Wa.heap.size Wa wr) (fun i _ => ds.length - (intOf i).toNat)
      case atStart => exact ⟨0, Nat.zero_le _, rfl, Lib.hid (allTo_zero _ _ _), Below.refl _ _⟩
      case round =>
        obtain ⟨k, hk, rfl, hno, c⟩ := hrel
        have cw := Lib.hid c
        replace B0 := Lib.hid ((c.block w.heap.size (Array.getElem?_eq_some_iff.1 B0.out).1).trans B0.out)
        replace d := Lib.hid (d.out.trans (c.mono d.out.size))
        clear c
        by_cases hlt : k < ds.length
        · have i1 : (0 : Int) ≤ (k : Int) := by omega
          have i2 : (k : Int) < (ds.length : Int) := by omega
          have hz := zL_at S5.out hlt
          obtain ⟨b, off, cap', p2, c2, p3, c3, p6, c6, hv, hbl, e0, e1, e2, e3, e4, e5, e6, s2, s3, s6⟩ := fin_at (slR_below tFinished_law H5.out d.out) hlt
          simp only [Value.slice.injEq] at hv
          obtain ⟨rfl, _, rfl⟩ := hv
          change tFinished.sz (ds.getD k f0D) ≤ 1048576 at hz
          have HNO : Hid (finB now (ds.getD k f0D) = false → engB ((ss, now), cu, os, qs, ds, ls, st) = false) := Lib.hid (fun g => eng_no5 (e := ((ss, now), cu, os, qs, ds, ls, st)) (allB_no f0D hlt g))
          have HST : Hid (finB now (ds.getD k f0D) = true → AllTo (finB now) f0D ds (k + 1)) := Lib.hid (fun g => allTo_step hno.out g)
          clear hno hbl
          obtain ⟨x, hx⟩ : ∃ x, x = ds.getD k f0D := ⟨_, rfl⟩
          rw [← hx] at hz HNO HST e0 e1 e2 e3 e4 e5 e6 s2 s3 s6
          clear hx
          obtain ⟨⟨a0, a1, x2, x3⟩, a4, a5, x6⟩ := x
          rw [tFinished_sz] at hz
          dsimp only at *
          have T2 := Lib.hid s2; have M2 := Lib.hid (show zL tCond x2 ≤ 1048576 by omega)
          have T3 := Lib.hid s3; have M3 := Lib.hid (show zL tInt x3 ≤ 1048576 by omega)
          have T6 := Lib.hid s6; have M6 := Lib.hid (show zL tRow x6 ≤ 1048576 by omega)
          clear s2 s3 s6 hz
          have p_B0_0 := (cell_of_row wr _ 0 _ _ _ B0.out).trans (show _ = some (Value.slice sa ss.length sc) from rfl)
          have p_B0_1 := (cell_of_row wr _ 1 _ _ _ B0.out).trans (show _ = some (Value.int .i64 now) from rfl)
          have p_B0_2 := (cell_of_row wr _ 2 _ _ _ B0.out).trans (show _ = some (Value.int .i64 cu) from rfl)
          have p_B0_3 := (cell_of_row wr _ 3 _ _ _ B0.out).trans (show _ = some (Value.slice oa os.length oc) from rfl)
          have p_B0_4 := (cell_of_row wr _ 4 _ _ _ B0.out).trans (show _ = some (Value.slice aa qs.length ac) from rfl)
          have p_B0_5 := (cell_of_row wr _ 5 _ _ _ B0.out).trans (show _ = some (Value.slice (some ⟨b, off, none⟩) ds.length dc) from rfl)
          have p_B0_6 := (cell_of_row wr _ 6 _ _ _ B0.out).trans (show _ = some (Value.slice la ls.length lc) from rfl)
          have p_B0_7 := (cell_of_row wr _ 7 _ _ _ B0.out).trans (show _ = some (Value.int .i64 st) from rfl)
          have cal : Below wr.heap.size wr (wr.alloc (.cells #[.int .i64 a0, .int .i64 a1, .slice p2 x2.length c2, .slice p3 x3.length c3, .int .i64 a4, .int .i64 a5, .slice p6 x6.length c6] 90)) := (Below.refl _ _).alloc (Nat.le_refl _) _
          have B1 : Hid ((wr.alloc (.cells #[.int .i64 a0, .int .i64 a1, .slice p2 x2.length c2, .slice p3 x3.length c3, .int .i64 a4, .int .i64 a5, .slice p6 x6.length c6] 90)).heap[wr.heap.size]? = some (.cells #[.int .i64 a0, .int .i64 a1, .slice p2 x2.length c2, .slice p3 x3.length c3, .int .i64 a4, .int .i64 a5, .slice p6 x6.length c6] 90 (0, 0))) := Lib.hid (heap_alloc_new wr _)
          go_wp2_with fail
          clear p_B0_0 p_B0_1 p_B0_2 p_B0_3 p_B0_4 p_B0_5 p_B0_6 p_B0_7 e0 e1 e2 e3 e4 e5 e6
          generalize hWq : (wr.alloc (.cells #[.int .i64 a0, .int .i64 a1, .slice p2 x2.length c2, .slice p3 x3.length c3, .int .i64 a4, .int .i64 a5, .slice p6 x6.length c6] 90)) = Wq at *
          clear hWq
          have Z_q := Lib.hid (show wr.heap.size + 1 ≤ Wq.heap.size from Nat.lt_of_lt_of_le (Array.getElem?_eq_some_iff.1 B1.out).1 (Nat.le_refl _))
          have dq := Lib.hid cal
          replace B0 := Lib.hid ((cal.block w.heap.size (Array.getElem?_eq_some_iff.1 B0.out).1).trans B0.out)
          replace d := Lib.hid (d.out.trans (cal.mono d.out.size))
          clear cal
          refine (specIsQuery a0 a1 (.slice p2 x2.length c2) (.slice p3 x3.length c3) x2 x3 Wq (slR_conds (slR_below tCond_law T2.out dq.out)) (zL_len M2.out) (slR_ints (slR_below tInt_law T3.out dq.out)) (zL_len M3.out)).mono ?_
          rintro e Wp ⟨rfl, c⟩
          have dp := Lib.hid (dq.out.trans (c.mono dq.out.size))
          replace B0 := Lib.hid ((c.block w.heap.size (Array.getElem?_eq_some_iff.1 B0.out).1).trans B0.out)
          replace B1 := Lib.hid ((c.block wr.heap.size (Array.getElem?_eq_some_iff.1 B1.out).1).trans B1.out)
          replace d := Lib.hid (d.out.trans (c.mono d.out.size))
          clear c
          rcases Bool.eq_false_or_eq_true (queryB a0 a1 x2 x3) with hq | hq
          rotate_left
          · rw [hq]
            have HF := Lib.hid (HNO.out (fin_no1 (now := now) (d := ((a0, a1, x2, x3), a4, a5, x6)) hq))
            clear hq HNO HST
            have p_B0_0 := (cell_of_row Wp _ 0 _ _ _ B0.out).trans (show _ = some (Value.slice sa ss.length sc) from rfl)
            have p_B0_1 := (cell_of_row Wp _ 1 _ _ _ B0.out).trans (show _ = some (Value.int .i64 now) from rfl)
            have p_B0_2 := (cell_of_row Wp _ 2 _ _ _ B0.out).trans (show _ = some (Value.int .i64 cu) from rfl)
            have p_B0_3 := (cell_of_row Wp _ 3 _ _ _ B0.out).trans (show _ = some (Value.slice oa os.length oc) from rfl)
            have p_B0_4 := (cell_of_row Wp _ 4 _ _ _ B0.out).trans (show _ = some (Value.slice aa qs.length ac) from rfl)
            have p_B0_5 := (cell_of_row Wp _ 5 _ _ _ B0.out).trans (show _ = some (Value.slice (some ⟨b, off, none⟩) ds.length dc) from rfl)
            have p_B0_6 := (cell_of_row Wp _ 6 _ _ _ B0.out).trans (show _ = some (Value.slice la ls.length lc) from rfl)
            have p_B0_7 := (cell_of_row Wp _ 7 _ _ _ B0.out).trans (show _ = some (Value.int .i64 st) from rfl)
            have p_B1_0 := (cell_of_row Wp _ 0 _ _ _ B1.out).trans (show _ = some (Value.int .i64 a0) from rfl)
            have p_B1_1 := (cell_of_row Wp _ 1 _ _ _ B1.out).trans (show _ = some (Value.int .i64 a1) from rfl)
            have p_B1_2 := (cell_of_row Wp _ 2 _ _ _ B1.out).trans (show _ = some (Value.slice p2 x2.length c2) from rfl)
            have p_B1_3 := (cell_of_row Wp _ 3 _ _ _ B1.out).trans (show _ = some (Value.slice p3 x3.length c3) from rfl)
            have p_B1_4 := (cell_of_row Wp _ 4 _ _ _ B1.out).trans (show _ = some (Value.int .i64 a4) from rfl)
            have p_B1_5 := (cell_of_row Wp _ 5 _ _ _ B1.out).trans (show _ = some (Value.int .i64 a5) from rfl)
            have p_B1_6 := (cell_of_row Wp _ 6 _ _ _ B1.out).trans (show _ = some (Value.slice p6 x6.length c6) from rfl)
            go_wp2
            clear p_B0_0 p_B0_1 p_B0_2 p_B0_3 p_B0_4 p_B0_5 p_B0_6 p_B0_7 p_B1_0 p_B1_1 p_B1_2 p_B1_3 p_B1_4 p_B1_5 p_B1_6
            go_ret
            exact ⟨ret_b HF.out.symm, d.out⟩
          rw [hq]
          have HQ := Lib.hid hq
          clear hq
          have p_B0_0 := (cell_of_row Wp _ 0 _ _ _ B0.out).trans (show _ = some (Value.slice sa ss.length sc) from rfl)
          have p_B0_1 := (cell_of_row Wp _ 1 _ _ _ B0.out).trans (show _ = some (Value.int .i64 now) from rfl)
          have p_B0_2 := (cell_of_row Wp _ 2 _ _ _ B0.out).trans (show _ = some (Value.int .i64 cu) from rfl)
          have p_B0_3 := (cell_of_row Wp _ 3 _ _ _ B0.out).trans (show _ = some (Value.slice oa os.length oc) from rfl)
          have p_B0_4 := (cell_of_row Wp _ 4 _ _ _ B0.out).trans (show _ = some (Value.slice aa qs.length ac) from rfl)
          have p_B0_5 := (cell_of_row Wp _ 5 _ _ _ B0.out).trans (show _ = some (Value.slice (some ⟨b, off, none⟩) ds.length dc) from rfl)
          have p_B0_6 := (cell_of_row Wp _ 6 _ _ _ B0.out).trans (show _ = some (Value.slice la ls.length lc) from rfl)
          have p_B0_7 := (cell_of_row Wp _ 7 _ _ _ B0.out).trans (show _ = some (Value.int .i64 st) from rfl)
          have p_B1_0 := (cell_of_row Wp _ 0 _ _ _ B1.out).trans (show _ = some (Value.int .i64 a0) from rfl)
          have p_B1_1 := (cell_of_row Wp _ 1 _ _ _ B1.out).trans (show _ = some (Value.int .i64 a1) from rfl)
          have p_B1_2 := (cell_of_row Wp _ 2 _ _ _ B1.out).trans (show _ = some (Value.slice p2 x2.length c2) from rfl)
          have p_B1_3 := (cell_of_row Wp _ 3 _ _ _ B1.out).trans (show _ = some (Value.slice p3 x3.length c3) from rfl)
          have p_B1_4 := (cell_of_row Wp _ 4 _ _ _ B1.out).trans (show _ = some (Value.int .i64 a4) from rfl)
          have p_B1_5 := (cell_of_row Wp _ 5 _ _ _ B1.out).trans (show _ = some (Value.int .i64 a5) from rfl)
          have p_B1_6 := (cell_of_row Wp _ 6 _ _ _ B1.out).trans (show _ = some (Value.slice p6 x6.length c6) from rfl)
          go_wp2_with fail
          clear p_B0_0 p_B0_1 p_B0_2 p_B0_3 p_B0_4 p_B0_5 p_B0_6 p_B0_7 p_B1_0 p_B1_1 p_B1_2 p_B1_3 p_B1_4 p_B1_5 p_B1_6
          refine (in_any a4 0 now _).mono ?_
          rintro e wx ⟨rfl, hwx⟩
          obtain rfl := hwx.symm
          rcases Bool.eq_false_or_eq_true (decide (0 ≤ a4 ∧ a4 ≤ now)) with ht1 | ht1
          rotate_left
          · rw [ht1]
            have HF := Lib.hid (HNO.out (fin_no2 (now := now) (d := ((a0, a1, x2, x3), a4, a5, x6)) (fun g => of_decide_eq_false ht1 g.1)))
            clear ht1 HNO HST
            have p_B0_0 := (cell_of_row Wp _ 0 _ _ _ B0.out).trans (show _ = some (Value.slice sa ss.length sc) from rfl)
            have p_B0_1 := (cell_of_row Wp _ 1 _ _ _ B0.out).trans (show _ = some (Value.int .i64 now) from rfl)
            have p_B0_2 := (cell_of_row Wp _ 2 _ _ _ B0.out).trans (show _ = some (Value.int .i64 cu) from rfl)
            have p_B0_3 := (cell_of_row Wp _ 3 _ _ _ B0.out).trans (show _ = some (Value.slice oa os.length oc) from rfl)
            have p_B0_4 := (cell_of_row Wp _ 4 _ _ _ B0.out).trans (show _ = some (Value.slice aa qs.length ac) from rfl)
            have p_B0_5 := (cell_of_row Wp _ 5 _ _ _ B0.out).trans (show _ = some (Value.slice (some ⟨b, off, none⟩) ds.length dc) from rfl)
            have p_B0_6 := (cell_of_row Wp _ 6 _ _ _ B0.out).trans (show _ = some (Value.slice la ls.length lc) from rfl)
            have p_B0_7 := (cell_of_row Wp _ 7 _ _ _ B0.out).trans (show _ = some (Value.int .i64 st) from rfl)
            have p_B1_0 := (cell_of_row Wp _ 0 _ _ _ B1.out).trans (show _ = some (Value.int .i64 a0) from rfl)
            have p_B1_1 := (cell_of_row Wp _ 1 _ _ _ B1.out).trans (show _ = some (Value.int .i64 a1) from rfl)
            have p_B1_2 := (cell_of_row Wp _ 2 _ _ _ B1.out).trans (show _ = some (Value.slice p2 x2.length c2) from rfl)
            have p_B1_3 := (cell_of_row Wp _ 3 _ _ _ B1.out).trans (show _ = some (Value.slice p3 x3.length c3) from rfl)
            have p_B1_4 := (cell_of_row Wp _ 4 _ _ _ B1.out).trans (show _ = some (Value.int .i64 a4) from rfl)
            have p_B1_5 := (cell_of_row Wp _ 5 _ _ _ B1.out).trans (show _ = some (Value.int .i64 a5) from rfl)
            have p_B1_6 := (cell_of_row Wp _ 6 _ _ _ B1.out).trans (show _ = some (Value.slice p6 x6.length c6) from rfl)
            go_wp2
            clear p_B0_0 p_B0_1 p_B0_2 p_B0_3 p_B0_4 p_B0_5 p_B0_6 p_B0_7 p_B1_0 p_B1_1 p_B1_2 p_B1_3 p_B1_4 p_B1_5 p_B1_6
            go_ret
            exact ⟨ret_b HF.out.symm, d.out⟩
          rw [ht1]
          have HT1 := Lib.hid ht1
          clear ht1
          have p_B0_0 := (cell_of_row Wp _ 0 _ _ _ B0.out).trans (show _ = some (Value.slice sa ss.length sc) from rfl)
          have p_B0_1 := (cell_of_row Wp _ 1 _ _ _ B0.out).trans (show _ = some (Value.int .i64 now) from rfl)
          have p_B0_2 := (cell_of_row Wp _ 2 _ _ _ B0.out).trans (show _ = some (Value.int .i64 cu) from rfl)
          have p_B0_3 := (cell_of_row Wp _ 3 _ _ _ B0.out).trans (show _ = some (Value.slice oa os.length oc) from rfl)
          have p_B0_4 := (cell_of_row Wp _ 4 _ _ _ B0.out).trans (show _ = some (Value.slice aa qs.length ac) from rfl)
          have p_B0_5 := (cell_of_row Wp _ 5 _ _ _ B0.out).trans (show _ = some (Value.slice (some ⟨b, off, none⟩) ds.length dc) from rfl)
          have p_B0_6 := (cell_of_row Wp _ 6 _ _ _ B0.out).trans (show _ = some (Value.slice la ls.length lc) from rfl)
          have p_B0_7 := (cell_of_row Wp _ 7 _ _ _ B0.out).trans (show _ = some (Value.int .i64 st) from rfl)
          have p_B1_0 := (cell_of_row Wp _ 0 _ _ _ B1.out).trans (show _ = some (Value.int .i64 a0) from rfl)
          have p_B1_1 := (cell_of_row Wp _ 1 _ _ _ B1.out).trans (show _ = some (Value.int .i64 a1) from rfl)
          have p_B1_2 := (cell_of_row Wp _ 2 _ _ _ B1.out).trans (show _ = some (Value.slice p2 x2.length c2) from rfl)
          have p_B1_3 := (cell_of_row Wp _ 3 _ _ _ B1.out).trans (show _ = some (Value.slice p3 x3.length c3) from rfl)
          have p_B1_4 := (cell_of_row Wp _ 4 _ _ _ B1.out).trans (show _ = some (Value.int .i64 a4) from rfl)
          have p_B1_5 := (cell_of_row Wp _ 5 _ _ _ B1.out).trans (show _ = some (Value.int .i64 a5) from rfl)
          have p_B1_6 := (cell_of_row Wp _ 6 _ _ _ B1.out).trans (show _ = some (Value.slice p6 x6.length c6) from rfl)
          go_wp2_with fail
          clear p_B0_0 p_B0_1 p_B0_2 p_B0_3 p_B0_4 p_B0_5 p_B0_6 p_B0_7 p_B1_0 p_B1_1 p_B1_2 p_B1_3 p_B1_4 p_B1_5 p_B1_6
          refine (in_any a5 0 100000 _).mono ?_
          rintro e wx ⟨rfl, hwx⟩
          obtain rfl := hwx.symm
          rcases Bool.eq_false_or_eq_true (decide (0 ≤ a5 ∧ a5 ≤ 100000)) with ht2 | ht2
          rotate_left
          · rw [ht2]
            have HF := Lib.hid (HNO.out (fin_no2 (now := now) (d := ((a0, a1, x2, x3), a4, a5, x6)) (fun g => of_decide_eq_false ht2 g.2)))
            clear ht2 HNO HST
            have p_B0_0 := (cell_of_row Wp _ 0 _ _ _ B0.out).trans (show _ = some (Value.slice sa ss.length sc) from rfl)
            have p_B0_1 := (cell_of_row Wp _ 1 _ _ _ B0.out).trans (show _ = some (Value.int .i64 now) from rfl)
            have p_B0_2 := (cell_of_row Wp _ 2 _ _ _ B0.out).trans (show _ = some (Value.int .i64 cu) from rfl)
            have p_B0_3 := (cell_of_row Wp _ 3 _ _ _ B0.out).trans (show _ = some (Value.slice oa os.length oc) from rfl)
            have p_B0_4 := (cell_of_row Wp _ 4 _ _ _ B0.out).trans (show _ = some (Value.slice aa qs.length ac) from rfl)
            have p_B0_5 := (cell_of_row Wp _ 5 _ _ _ B0.out).trans (show _ = some (Value.slice (some ⟨b, off, none⟩) ds.length dc) from rfl)
            have p_B0_6 := (cell_of_row Wp _ 6 _ _ _ B0.out).trans (show _ = some (Value.slice la ls.length lc) from rfl)
            have p_B0_7 := (cell_of_row Wp _ 7 _ _ _ B0.out).trans (show _ = some (Value.int .i64 st) from rfl)
            have p_B1_0 := (cell_of_row Wp _ 0 _ _ _ B1.out).trans (show _ = some (Value.int .i64 a0) from rfl)
            have p_B1_1 := (cell_of_row Wp _ 1 _ _ _ B1.out).trans (show _ = some (Value.int .i64 a1) from rfl)
            have p_B1_2 := (cell_of_row Wp _ 2 _ _ _ B1.out).trans (show _ = some (Value.slice p2 x2.length c2) from rfl)
            have p_B1_3 := (cell_of_row Wp _ 3 _ _ _ B1.out).trans (show _ = some (Value.slice p3 x3.length c3) from rfl)
            have p_B1_4 := (cell_of_row Wp _ 4 _ _ _ B1.out).trans (show _ = some (Value.int .i64 a4) from rfl)
            have p_B1_5 := (cell_of_row Wp _ 5 _ _ _ B1.out).trans (show _ = some (Value.int .i64 a5) from rfl)
            have p_B1_6 := (cell_of_row Wp _ 6 _ _ _ B1.out).trans (show _ = some (Value.slice p6 x6.length c6) from rfl)
            go_wp2
            clear p_B0_0 p_B0_1 p_B0_2 p_B0_3 p_B0_4 p_B0_5 p_B0_6 p_B0_7 p_B1_0 p_B1_1 p_B1_2 p_B1_3 p_B1_4 p_B1_5 p_B1_6
            go_ret
            exact ⟨ret_b HF.out.symm, d.out⟩
          rw [ht2]
          have HT2 := Lib.hid ht2
          clear ht2
          have p_B0_0 := (cell_of_row Wp _ 0 _ _ _ B0.out).trans (show _ = some (Value.slice sa ss.length sc) from rfl)
          have p_B0_1 := (cell_of_row Wp _ 1 _ _ _ B0.out).trans (show _ = some (Value.int .i64 now) from rfl)
          have p_B0_2 := (cell_of_row Wp _ 2 _ _ _ B0.out).trans (show _ = some (Value.int .i64 cu) from rfl)
          have p_B0_3 := (cell_of_row Wp _ 3 _ _ _ B0.out).trans (show _ = some (Value.slice oa os.length oc) from rfl)
          have p_B0_4 := (cell_of_row Wp _ 4 _ _ _ B0.out).trans (show _ = some (Value.slice aa qs.length ac) from rfl)
          have p_B0_5 := (cell_of_row Wp _ 5 _ _ _ B0.out).trans (show _ = some (Value.slice (some ⟨b, off, none⟩) ds.length dc) from rfl)
          have p_B0_6 := (cell_of_row Wp _ 6 _ _ _ B0.out).trans (show _ = some (Value.slice la ls.length lc) from rfl)
          have p_B0_7 := (cell_of_row Wp _ 7 _ _ _ B0.out).trans (show _ = some (Value.int .i64 st) from rfl)
          have p_B1_0 := (cell_of_row Wp _ 0 _ _ _ B1.out).trans (show _ = some (Value.int .i64 a0) from rfl)
          have p_B1_1 := (cell_of_row Wp _ 1 _ _ _ B1.out).trans (show _ = some (Value.int .i64 a1) from rfl)
          have p_B1_2 := (cell_of_row Wp _ 2 _ _ _ B1.out).trans (show _ = some (Value.slice p2 x2.length c2) from rfl)
          have p_B1_3 := (cell_of_row Wp _ 3 _ _ _ B1.out).trans (show _ = some (Value.slice p3 x3.length c3) from rfl)
          have p_B1_4 := (cell_of_row Wp _ 4 _ _ _ B1.out).trans (show _ = some (Value.int .i64 a4) from rfl)
          have p_B1_5 := (cell_of_row Wp _ 5 _ _ _ B1.out).trans (show _ = some (Value.int .i64 a5) from rfl)
          have p_B1_6 := (cell_of_row Wp _ 6 _ _ _ B1.out).trans (show _ = some (Value.slice p6 x6.length c6) from rfl)
          go_wp2_with fail
          clear p_B0_0 p_B0_1 p_B0_2 p_B0_3 p_B0_4 p_B0_5 p_B0_6 p_B0_7 p_B1_0 p_B1_1 p_B1_2 p_B1_3 p_B1_4 p_B1_5 p_B1_6
          refine (specL9List (.slice p6 x6.length c6) x6 Wp (slR_below tRow_law T6.out dp.out) M6.out).mono ?_
          rintro e Wl ⟨rfl, c⟩
          have dl := Lib.hid (dp.out.trans (c.mono dp.out.size))
          replace B0 := Lib.hid ((c.block w.heap.size (Array.getElem?_eq_some_iff.1 B0.out).1).trans B0.out)
          replace B1 := Lib.hid ((c.block wr.heap.size (Array.getElem?_eq_some_iff.1 B1.out).1).trans B1.out)
          replace d := Lib.hid (d.out.trans (c.mono d.out.size))
          clear c
          rcases Bool.eq_false_or_eq_true (listB x6) with hl | hl
          rotate_left
          · rw [hl]
            have HF := Lib.hid (HNO.out (fin_no3 (now := now) (d := ((a0, a1, x2, x3), a4, a5, x6)) hl))
            clear hl HNO HST
            have p_B0_0 := (cell_of_row Wl _ 0 _ _ _ B0.out).trans (show _ = some (Value.slice sa ss.length sc) from rfl)
            have p_B0_1 := (cell_of_row Wl _ 1 _ _ _ B0.out).trans (show _ = some (Value.int .i64 now) from rfl)
            have p_B0_2 := (cell_of_row Wl _ 2 _ _ _ B0.out).trans (show _ = some (Value.int .i64 cu) from rfl)
            have p_B0_3 := (cell_of_row Wl _ 3 _ _ _ B0.out).trans (show _ = some (Value.slice oa os.length oc) from rfl)
            have p_B0_4 := (cell_of_row Wl _ 4 _ _ _ B0.out).trans (show _ = some (Value.slice aa qs.length ac) from rfl)
            have p_B0_5 := (cell_of_row Wl _ 5 _ _ _ B0.out).trans (show _ = some (Value.slice (some ⟨b, off, none⟩) ds.length dc) from rfl)
            have p_B0_6 := (cell_of_row Wl _ 6 _ _ _ B0.out).trans (show _ = some (Value.slice la ls.length lc) from rfl)
            have p_B0_7 := (cell_of_row Wl _ 7 _ _ _ B0.out).trans (show _ = some (Value.int .i64 st) from rfl)
            have p_B1_0 := (cell_of_row Wl _ 0 _ _ _ B1.out).trans (show _ = some (Value.int .i64 a0) from rfl)
            have p_B1_1 := (cell_of_row Wl _ 1 _ _ _ B1.out).trans (show _ = some (Value.int .i64 a1) from rfl)
            have p_B1_2 := (cell_of_row Wl _ 2 _ _ _ B1.out).trans (show _ = some (Value.slice p2 x2.length c2) from rfl)
            have p_B1_3 := (cell_of_row Wl _ 3 _ _ _ B1.out).trans (show _ = some (Value.slice p3 x3.length c3) from rfl)
            have p_B1_4 := (cell_of_row Wl _ 4 _ _ _ B1.out).trans (show _ = some (Value.int .i64 a4) from rfl)
            have p_B1_5 := (cell_of_row Wl _ 5 _ _ _ B1.out).trans (show _ = some (Value.int .i64 a5) from rfl)
            have p_B1_6 := (cell_of_row Wl _ 6 _ _ _ B1.out).trans (show _ = some (Value.slice p6 x6.length c6) from rfl)
            go_wp2
            clear p_B0_0 p_B0_1 p_B0_2 p_B0_3 p_B0_4 p_B0_5 p_B0_6 p_B0_7 p_B1_0 p_B1_1 p_B1_2 p_B1_3 p_B1_4 p_B1_5 p_B1_6
            go_ret
            exact ⟨ret_b HF.out.symm, d.out⟩
          rw [hl]
          have HL := Lib.hid hl
          clear hl
          have HT := Lib.hid (HST.out (fin_yes (now := now) (d := ((a0, a1, x2, x3), a4, a5, x6)) HQ.out ⟨of_decide_eq_true HT1.out, of_decide_eq_true HT2.out⟩ HL.out))
          clear HNO HST
          have p_B0_0 := (cell_of_row Wl _ 0 _ _ _ B0.out).trans (show _ = some (Value.slice sa ss.length sc) from rfl)
          have p_B0_1 := (cell_of_row Wl _ 1 _ _ _ B0.out).trans (show _ = some (Value.int .i64 now) from rfl)
          have p_B0_2 := (cell_of_row Wl _ 2 _ _ _ B0.out).trans (show _ = some (Value.int .i64 cu) from rfl)
          have p_B0_3 := (cell_of_row Wl _ 3 _ _ _ B0.out).trans (show _ = some (Value.slice oa os.length oc) from rfl)
          have p_B0_4 := (cell_of_row Wl _ 4 _ _ _ B0.out).trans (show _ = some (Value.slice aa qs.length ac) from rfl)
          have p_B0_5 := (cell_of_row Wl _ 5 _ _ _ B0.out).trans (show _ = some (Value.slice (some ⟨b, off, none⟩) ds.length dc) from rfl)
          have p_B0_6 := (cell_of_row Wl _ 6 _ _ _ B0.out).trans (show _ = some (Value.slice la ls.length lc) from rfl)
          have p_B0_7 := (cell_of_row Wl _ 7 _ _ _ B0.out).trans (show _ = some (Value.int .i64 st) from rfl)
          have p_B1_0 := (cell_of_row Wl _ 0 _ _ _ B1.out).trans (show _ = some (Value.int .i64 a0) from rfl)
          have p_B1_1 := (cell_of_row Wl _ 1 _ _ _ B1.out).trans (show _ = some (Value.int .i64 a1) from rfl)
          have p_B1_2 := (cell_of_row Wl _ 2 _ _ _ B1.out).trans (show _ = some (Value.slice p2 x2.length c2) from rfl)
          have p_B1_3 := (cell_of_row Wl _ 3 _ _ _ B1.out).trans (show _ = some (Value.slice p3 x3.length c3) from rfl)
          have p_B1_4 := (cell_of_row Wl _ 4 _ _ _ B1.out).trans (show _ = some (Value.int .i64 a4) from rfl)
          have p_B1_5 := (cell_of_row Wl _ 5 _ _ _ B1.out).trans (show _ = some (Value.int .i64 a5) from rfl)
          have p_B1_6 := (cell_of_row Wl _ 6 _ _ _ B1.out).trans (show _ = some (Value.slice p6 x6.length c6) from rfl)
          go_wp2
          clear p_B0_0 p_B0_1 p_B0_2 p_B0_3 p_B0_4 p_B0_5 p_B0_6 p_B0_7 p_B1_0 p_B1_1 p_B1_2 p_B1_3 p_B1_4 p_B1_5 p_B1_6
          go_roundw
          case rel => exact ⟨k + 1, by omega, by go_num, HT, cw.out.trans (dl.out.mono cw.out.size)⟩
          case measure => simp [intOf]; omega
        · obtain rfl : k = ds.length := by omega
          have HDN := Lib.hid (allB_yes (p := finB now) f0D hno.out)
          clear hno
          have p_B0_0 := (cell_of_row wr _ 0 _ _ _ B0.out).trans (show _ = some (Value.slice sa ss.length sc) from rfl)
          have p_B0_1 := (cell_of_row wr _ 1 _ _ _ B0.out).trans (show _ = some (Value.int .i64 now) from rfl)
          have p_B0_2 := (cell_of_row wr _ 2 _ _ _ B0.out).trans (show _ = some (Value.int .i64 cu) from rfl)
          have p_B0_3 := (cell_of_row wr _ 3 _ _ _ B0.out).trans (show _ = some (Value.slice oa os.length oc) from rfl)
          have p_B0_4 := (cell_of_row wr _ 4 _ _ _ B0.out).trans (show _ = some (Value.slice aa qs.length ac) from rfl)
          have p_B0_5 := (cell_of_row wr _ 5 _ _ _ B0.out).trans (show _ = some (Value.slice da ds.length dc) from rfl)
          have p_B0_6 := (cell_of_row wr _ 6 _ _ _ B0.out).trans (show _ = some (Value.slice la ls.length lc) from rfl)
          have p_B0_7 := (cell_of_row wr _ 7 _ _ _ B0.out).trans (show _ = some (Value.int .i64 st) from rfl)
          go_wp2
          clear p_B0_0 p_B0_1 p_B0_2 p_B0_3 p_B0_4 p_B0_5 p_B0_6 p_B0_7
          generalize wr = Wb at *
          go_loopw [6] (fun i wr => ∃ k : Nat, k ≤ ls.length ∧ i = .int .i64 k ∧ Hid (AllTo chargeB x0D ls k) ∧ Below Wb.heap.size Wb wr) (fun i _ => ls.length - (intOf i).toNat)
          case atStart => exact ⟨0, Nat.zero_le _, rfl, Lib.hid (allTo_zero _ _ _), Below.refl _ _⟩
          case round =>
            obtain ⟨k, hk, rfl, hno, c⟩ := hrel
            have cw := Lib.hid c
            replace B0 := Lib.hid ((c.block w.heap.size (Array.getElem?_eq_some_iff.1 B0.out).1).trans B0.out)
            replace d := Lib.hid (d.out.trans (c.mono d.out.size))
            clear c
            by_cases hlt : k < ls.length
            · have i1 : (0 : Int) ≤ (k : Int) := by omega
              have i2 : (k : Int) < (ls.length : Int) := by omega
              have hz := zL_at S6.out hlt
              obtain ⟨b, off, cap', p2, c2, p3, c3, p4, c4, hv, hbl, e0, e1, e2, e3, e4, s2, s3, s4⟩ := chg_at (slR_below tCharge_law H6.out d.out) hlt
              simp only [Value.slice.injEq] at hv
              obtain ⟨rfl, _, rfl⟩ := hv
              change tCharge.sz (ls.getD k x0D) ≤ 1048576 at hz
              have HNO : Hid (chargeB (ls.getD k x0D) = false → engB ((ss, now), cu, os, qs, ds, ls, st) = false) := Lib.hid (fun g => eng_no6 (e := ((ss, now), cu, os, qs, ds, ls, st)) (allB_no x0D hlt g))
              have HST : Hid (chargeB (ls.getD k x0D) = true → AllTo chargeB x0D ls (k + 1)) := Lib.hid (fun g => allTo_step hno.out g)
              clear hno hbl
              obtain ⟨x, hx⟩ : ∃ x, x = ls.getD k x0D := ⟨_, rfl⟩
              rw [← hx] at hz HNO HST e0 e1 e2 e3 e4 s2 s3 s4
              clear hx
              obtain ⟨sg, ba, x2, x3, x4⟩ := x
              rw [tCharge_sz] at hz
              dsimp only at *
              have HC := Lib.hid (specIsCharge sg ba (.slice p2 x2.length c2) (.slice p3 x3.length c3) (.slice p4 x4.length c4) x2 x3 x4 wr s2 s3 s4 (zL_len (show zL tInt x2 ≤ 1048576 by omega)) (zL_len (show zL tInt x3 ≤ 1048576 by omega)) (zL_len (show zL tInt x4 ≤ 1048576 by omega)))
              clear s2 s3 s4 hz
              have p_B0_0 := (cell_of_row wr _ 0 _ _ _ B0.out).trans (show _ = some (Value.slice sa ss.length sc) from rfl)
              have p_B0_1 := (cell_of_row wr _ 1 _ _ _ B0.out).trans (show _ = some (Value.int .i64 now) from rfl)
              have p_B0_2 := (cell_of_row wr _ 2 _ _ _ B0.out).trans (show _ = some (Value.int .i64 cu) from rfl)
              have p_B0_3 := (cell_of_row wr _ 3 _ _ _ B0.out).trans (show _ = some (Value.slice oa os.length oc) from rfl)
              have p_B0_4 := (cell_of_row wr _ 4 _ _ _ B0.out).trans (show _ = some (Value.slice aa qs.length ac) from rfl)
              have p_B0_5 := (cell_of_row wr _ 5 _ _ _ B0.out).trans (show _ = some (Value.slice da ds.length dc) from rfl)
              have p_B0_6 := (cell_of_row wr _ 6 _ _ _ B0.out).trans (show _ = some (Value.slice (some ⟨b, off, none⟩) ls.length lc) from rfl)
              have p_B0_7 := (cell_of_row wr _ 7 _ _ _ B0.out).trans (show _ = some (Value.int .i64 st) from rfl)
              go_wp2_with fail
              clear p_B0_0 p_B0_1 p_B0_2 p_B0_3 p_B0_4 p_B0_5 p_B0_6 p_B0_7 e0 e1 e2 e3 e4
              refine HC.out.mono ?_
              rintro e Wq ⟨rfl, c⟩
              have dq := Lib.hid c
              replace B0 := Lib.hid ((c.block w.heap.size (Array.getElem?_eq_some_iff.1 B0.out).1).trans B0.out)
              replace d := Lib.hid (d.out.trans (c.mono d.out.size))
              clear c HC
              rcases Bool.eq_false_or_eq_true (chargeB (sg, ba, x2, x3, x4)) with hl | hl
              rotate_left
              · rw [hl]
                have HF := Lib.hid (HNO.out (hl))
                clear hl HNO HST
                have p_B0_0 := (cell_of_row Wq _ 0 _ _ _ B0.out).trans (show _ = some (Value.slice sa ss.length sc) from rfl)
                have p_B0_1 := (cell_of_row Wq _ 1 _ _ _ B0.out).trans (show _ = some (Value.int .i64 now) from rfl)
                have p_B0_2 := (cell_of_row Wq _ 2 _ _ _ B0.out).trans (show _ = some (Value.int .i64 cu) from rfl)
                have p_B0_3 := (cell_of_row Wq _ 3 _ _ _ B0.out).trans (show _ = some (Value.slice oa os.length oc) from rfl)
                have p_B0_4 := (cell_of_row Wq _ 4 _ _ _ B0.out).trans (show _ = some (Value.slice aa qs.length ac) from rfl)
                have p_B0_5 := (cell_of_row Wq _ 5 _ _ _ B0.out).trans (show _ = some (Value.slice da ds.length dc) from rfl)
                have p_B0_6 := (cell_of_row Wq _ 6 _ _ _ B0.out).trans (show _ = some (Value.slice (some ⟨b, off, none⟩) ls.length lc) from rfl)
                have p_B0_7 := (cell_of_row Wq _ 7 _ _ _ B0.out).trans (show _ = some (Value.int .i64 st) from rfl)
                go_wp2
                clear p_B0_0 p_B0_1 p_B0_2 p_B0_3 p_B0_4 p_B0_5 p_B0_6 p_B0_7
                go_ret
                exact ⟨ret_b HF.out.symm, d.out⟩
              rw [hl]
              have HL := Lib.hid hl
              clear hl
              have HT := Lib.hid (HST.out HL.out)
              clear HNO HST
              have p_B0_0 := (cell_of_row Wq _ 0 _ _ _ B0.out).trans (show _ = some (Value.slice sa ss.length sc) from rfl)
              have p_B0_1 := (cell_of_row Wq _ 1 _ _ _ B0.out).trans (show _ = some (Value.int .i64 now) from rfl)
              have p_B0_2 := (cell_of_row Wq _ 2 _ _ _ B0.out).trans (show _ = some (Value.int .i64 cu) from rfl)
              have p_B0_3 := (cell_of_row Wq _ 3 _ _ _ B0.out).trans (show _ = some (Value.slice oa os.length oc) from rfl)
              have p_B0_4 := (cell_of_row Wq _ 4 _ _ _ B0.out).trans (show _ = some (Value.slice aa qs.length ac) from rfl)
              have p_B0_5 := (cell_of_row Wq _ 5 _ _ _ B0.out).trans (show _ = some (Value.slice da ds.length dc) from rfl)
              have p_B0_6 := (cell_of_row Wq _ 6 _ _ _ B0.out).trans (show _ = some (Value.slice (some ⟨b, off, none⟩) ls.length lc) from rfl)
              have p_B0_7 := (cell_of_row Wq _ 7 _ _ _ B0.out).trans (show _ = some (Value.int .i64 st) from rfl)
              go_wp2
              clear p_B0_0 p_B0_1 p_B0_2 p_B0_3 p_B0_4 p_B0_5 p_B0_6 p_B0_7
              go_roundw
              case rel => exact ⟨k + 1, by omega, by go_num, HT, cw.out.trans (dq.out.mono cw.out.size)⟩
              case measure => simp [intOf]; omega
            · obtain rfl : k = ls.length := by omega
              have HLG := Lib.hid (allB_yes (p := chargeB) x0D hno.out)
              clear hno
              have HT : Hid (engB ((ss, now), cu, os, qs, ds, ls, st) = true) := Lib.hid (eng_yes HST.out HH.out HOR.out HACT.out HDN.out HLG.out)
              have p_B0_0 := (cell_of_row wr _ 0 _ _ _ B0.out).trans (show _ = some (Value.slice sa ss.length sc) from rfl)
              have p_B0_1 := (cell_of_row wr _ 1 _ _ _ B0.out).trans (show _ = some (Value.int .i64 now) from rfl)
              have p_B0_2 := (cell_of_row wr _ 2 _ _ _ B0.out).trans (show _ = some (Value.int .i64 cu) from rfl)
              have p_B0_3 := (cell_of_row wr _ 3 _ _ _ B0.out).trans (show _ = some (Value.slice oa os.length oc) from rfl)
              have p_B0_4 := (cell_of_row wr _ 4 _ _ _ B0.out).trans (show _ = some (Value.slice aa qs.length ac) from rfl)
              have p_B0_5 := (cell_of_row wr _ 5 _ _ _ B0.out).trans (show _ = some (Value.slice da ds.length dc) from rfl)
              have p_B0_6 := (cell_of_row wr _ 6 _ _ _ B0.out).trans (show _ = some (Value.slice la ls.length lc) from rfl)
              have p_B0_7 := (cell_of_row wr _ 7 _ _ _ B0.out).trans (show _ = some (Value.int .i64 st) from rfl)
              go_wp2
              clear p_B0_0 p_B0_1 p_B0_2 p_B0_3 p_B0_4 p_B0_5 p_B0_6 p_B0_7
              go_ret
              exact ⟨ret_b HT.out.symm, d.out⟩
end Go.Proofs.YtdhglmoanpkeoaaGreatDoor
namespace Go.Proofs.YtdhglmoanpkeoaaGreatDoor
open Go.RowKit
set_option linter.unusedVariables false
set_option linter.unusedSimpArgs false
/-- The record of a row. -/
def recV (id : Int) (xs : List Int) : Value := .agg #[.int .i64 id, .int .i64 xs.length, .int .i64 (xs.getD 0 0), .int .i64 (xs.getD 1 0), .int .i64 (xs.getD 2 0)]
theorem info_size {P : Program} {e : TypeId} {z : Option Value} {n b : Nat} (h : (P.info? e).map (fun i => (i.zero, i.size, i.bytes)) = some (z, n, b)) : (P.info? e).map (·.size) = some n := by
  cases hq : P.info? e with
  | none => rw [hq] at h; simp at h
  | some i => rw [hq] at h; simp at h; simp [h.2.1]
theorem copy_src {w : World} {a : Option Addr} {cap g : Nat} {xs : List Int} (h : Ints w (.slice a xs.length cap) xs) : 0 < ((xs.take 3).map (Value.int .i64)).length → (some ⟨g, 2, none⟩ : Option Addr) = some ⟨g, 2, none⟩ ∧ ∃ ad, a = some ad ∧ ∀ j v, ((xs.take 3).map (Value.int .i64))[j]? = some v → w.cell? (ad.add j) = some v := by
  intro h0
  refine ⟨rfl, ?_⟩
  rcases h with ⟨rfl, _⟩ | ⟨b, off, cap', e, _, _, hc⟩
  · simp at h0
  · simp only [Value.slice.injEq] at e
    obtain ⟨rfl, _, _⟩ := e
    refine ⟨_, rfl, fun j v hj => ?_⟩
    rw [Go.WideShapes.add_plain]
    rw [List.getElem?_map, List.getElem?_take] at hj
    by_cases hlt : j < 3
    · rw [if_pos hlt] at hj
      by_cases hl : j < xs.length
      · rw [hc j hl]
        rw [List.getElem?_eq_getElem hl] at hj
        simpa [List.getD, hl] using hj
      · rw [List.getElem?_eq_none (by omega)] at hj
        simp at hj
    · rw [if_neg hlt] at hj
      simp at hj
theorem splice_rec (a b : Value) (xs : List Int) : splice [a, b, .int .i64 0, .int .i64 0, .int .i64 0] 2 ((xs.take 3).map (Value.int .i64)) = [a, b, .int .i64 (xs.getD 0 0), .int .i64 (xs.getD 1 0), .int .i64 (xs.getD 2 0)] := by
  match xs with
  | [] => rfl
  | [x] => rfl
  | [x, y] => rfl
  | x :: y :: z :: r => rfl
set_option maxHeartbeats 4000000 in
set_option maxRecDepth 100000 in
theorem recordOf_any (id : Int) (vv : Value) (xs : List Int) (w : World) (h : Ints w vv xs) (hn : xs.length ≤ 1048576) :
    Calls Tryz.prog 192 #[.agg #[.int .i64 id, vv]] w fun e w' => e = .returned (recV id xs) ∧ Below w.heap.size w w' := by
  have H := Lib.hid h
  have HN := Lib.hid hn
  obtain ⟨va, vcap, rfl⟩ := ints_len h
  clear h hn
  go_enter Tryz.func192, Tryz.ntmps192
  go_wp2
  have hh : Below w.heap.size w (((w.alloc (.cells #[.int .i64 id, .slice va xs.length vcap] 66)).alloc (.cells #[.int .i64 0, .int .i64 0, .int .i64 0, .int .i64 0, .int .i64 0] 237)).alloc (.cells #[.int .i64 id, .int .i64 xs.length, .int .i64 0, .int .i64 0, .int .i64 0] 237)) := (((Below.refl _ w).alloc (Nat.le_refl _) _).alloc (by simp) _).alloc (by simp; omega) _
  have g2 : (((w.alloc (.cells #[.int .i64 id, .slice va xs.length vcap] 66)).alloc (.cells #[.int .i64 0, .int .i64 0, .int .i64 0, .int .i64 0, .int .i64 0] 237)).alloc (.cells #[.int .i64 id, .int .i64 xs.length, .int .i64 0, .int .i64 0, .int .i64 0] 237)).heap[w.heap.size + 2]? = some (.cells #[.int .i64 id, .int .i64 xs.length, .int .i64 0, .int .i64 0, .int .i64 0] 237 (0, 0)) := by
    have := heap_alloc_new ((w.alloc (.cells #[.int .i64 id, .slice va xs.length vcap] 66)).alloc (.cells #[.int .i64 0, .int .i64 0, .int .i64 0, .int .i64 0, .int .i64 0] 237)) (.cells #[.int .i64 id, .int .i64 xs.length, .int .i64 0, .int .i64 0, .int .i64 0] 237)
    simpa only [World.size_alloc] using this
  have g1 : (((w.alloc (.cells #[.int .i64 id, .slice va xs.length vcap] 66)).alloc (.cells #[.int .i64 0, .int .i64 0, .int .i64 0, .int .i64 0, .int .i64 0] 237)).alloc (.cells #[.int .i64 id, .int .i64 xs.length, .int .i64 0, .int .i64 0, .int .i64 0] 237)).heap[w.heap.size + 1]? = some (.cells #[.int .i64 0, .int .i64 0, .int .i64 0, .int .i64 0, .int .i64 0] 237 (0, 0)) := by
    rw [Below.heap_alloc _ _ _ (by simp)]
    have := heap_alloc_new (w.alloc (.cells #[.int .i64 id, .slice va xs.length vcap] 66)) (.cells #[.int .i64 0, .int .i64 0, .int .i64 0, .int .i64 0, .int .i64 0] 237)
    simpa only [World.size_alloc] using this
  have g0 : (((w.alloc (.cells #[.int .i64 id, .slice va xs.length vcap] 66)).alloc (.cells #[.int .i64 0, .int .i64 0, .int .i64 0, .int .i64 0, .int .i64 0] 237)).alloc (.cells #[.int .i64 id, .int .i64 xs.length, .int .i64 0, .int .i64 0, .int .i64 0] 237)).heap[w.heap.size]? = some (.cells #[.int .i64 id, .slice va xs.length vcap] 66 (0, 0)) := by
    rw [Below.heap_alloc _ _ _ (by simp; omega), Below.heap_alloc _ _ _ (by simp)]
    exact heap_alloc_new w _
  have hs : (((w.alloc (.cells #[.int .i64 id, .slice va xs.length vcap] 66)).alloc (.cells #[.int .i64 0, .int .i64 0, .int .i64 0, .int .i64 0, .int .i64 0] 237)).alloc (.cells #[.int .i64 id, .int .i64 xs.length, .int .i64 0, .int .i64 0, .int .i64 0] 237)).heap.size = w.heap.size + 3 := by simp [World.size_alloc]
  generalize (((w.alloc (.cells #[.int .i64 id, .slice va xs.length vcap] 66)).alloc (.cells #[.int .i64 0, .int .i64 0, .int .i64 0, .int .i64 0, .int .i64 0] 237)).alloc (.cells #[.int .i64 id, .int .i64 xs.length, .int .i64 0, .int .i64 0, .int .i64 0] 237)) = W at *
  have b0 := cell_of_row W _ 1 _ _ _ g0
  simp at b0
  have I2 := ints_below H.out hh
  refine wp_region_held_drew (S := fun w' => w'.cell? ⟨w.heap.size, 1, none⟩ = some (.slice va xs.length vcap)) (by kernel_rfl) b0 (fun hHeld => ?_)
  refine take_runs (i := 0) (v := ?_) (by simp only [List.getElem?_toArray, List.getElem?_cons_succ, List.getElem?_cons_zero]; rfl) (by kernel_rfl) (by kernel_rfl) (by kernel_rfl) rfl (by exact fun _ _ _ h => h) (by rfl) ?_ (by assumption) ?_
  rotate_left
  · intro w hSw; (try dsimp only at hSw); go_simp; try (with_reducible rfl)
  try simp only [Act.put, List.setIfInBounds_toArray, List.set_cons_zero, List.set_cons_succ]
  refine take_runs (i := 1) (v := ?_) (by simp only [List.getElem?_toArray, List.getElem?_cons_succ, List.getElem?_cons_zero]; rfl) (by kernel_rfl) (by kernel_rfl) (by kernel_rfl) rfl (by exact fun _ _ _ h => h) (by rfl) ?_ (by assumption) ?_
  rotate_left
  · intro w hSw; (try dsimp only at hSw); go_simp; try (with_reducible rfl)
  try simp only [Act.put, List.setIfInBounds_toArray, List.set_cons_zero, List.set_cons_succ]
  refine take_runs (i := 2) (v := ?_) (by simp only [List.getElem?_toArray, List.getElem?_cons_succ, List.getElem?_cons_zero]; rfl) (by kernel_rfl) (by kernel_rfl) (by kernel_rfl) rfl (by exact fun _ _ _ h => h) (by rfl) ?_ (by assumption) ?_
  rotate_left
  · intro w hSw; (try dsimp only at hSw); go_simp; try (with_reducible rfl)
  try simp only [Act.put, List.setIfInBounds_toArray, List.set_cons_zero, List.set_cons_succ]
  refine take_runs (i := 3) (v := ?_) (by simp only [List.getElem?_toArray, List.getElem?_cons_succ, List.getElem?_cons_zero]; rfl) (by kernel_rfl) (by kernel_rfl) (by kernel_rfl) rfl (by exact fun _ _ _ h => h) (by rfl) ?_ (by assumption) ?_
  rotate_left
  · intro w hSw; (try dsimp only at hSw); go_simp; try (with_reducible rfl)
  try simp only [Act.put, List.setIfInBounds_toArray, List.set_cons_zero, List.set_cons_succ]
  refine wpAnyH_ready (rs := [4]) (by kernel_rfl) (by simp) ?_
  refine AllReadyH.cons (o := _) (by simp only [List.getElem?_toArray, List.getElem?_cons_succ, List.getElem?_cons_zero]; rfl) (fun K hK => ?_) AllReadyH.nil
  refine step_copy_splice rfl (.tmp 11) (.tmp 13) 25 25 rfl 3 Tryz.underlying25 (info_size Tryz.infoI64) _ _ _ _ _ _ rfl rfl (w.heap.size + 2) 2 [.int .i64 id, .int .i64 xs.length, .int .i64 0, .int .i64 0, .int .i64 0] _ g2 ((xs.take 3).map (Value.int .i64)) (by simp [Nat.min_comm]) (copy_src I2) (by simp; omega) (fun u hu => by obtain ⟨y, _, rfl⟩ := List.mem_map.1 hu; rfl) (w.heap.size + 2) W (below_drew (Below.refl _ W)) (Nat.le_refl _) ?_
  intro W2 G2 bA
  rw [splice_rec] at G2
  have k0 := (bA.block w.heap.size (by omega)).trans g0
  have b1 := cell_of_row W2 _ 1 _ _ _ k0
  simp at b1
  refine hK.out _ _ b1 (fun hHeld2 => ?_)
  clear hK K hHeld
  try simp only [Act.put, List.setIfInBounds_toArray, List.set_cons_zero, List.set_cons_succ]
  refine wpAnyH_done (by kernel_rfl) ?_ _
  have k1 := (bA.block (w.heap.size + 1) (by omega)).trans g1
  have k2 := G2.out
  have hbb := hh.trans (bA.mono (by omega))
  clear G2 bA g0 g1 g2 I2 hHeld2 b0 b1 k0 hh hs
  obtain ⟨n, hn2⟩ : ∃ n : Nat, n = xs.length := ⟨_, rfl⟩
  have c0 := cell_of_row W2 _ 0 _ _ _ k2
  have d0 := cell_of_row W2 _ 0 _ _ _ k1
  have f0 := frozen_of_row W2 _ 0 _ _ k1
  have c1 := cell_of_row W2 _ 1 _ _ _ k2
  have d1 := cell_of_row W2 _ 1 _ _ _ k1
  have f1 := frozen_of_row W2 _ 1 _ _ k1
  have c2 := cell_of_row W2 _ 2 _ _ _ k2
  have d2 := cell_of_row W2 _ 2 _ _ _ k1
  have f2 := frozen_of_row W2 _ 2 _ _ k1
  have c3 := cell_of_row W2 _ 3 _ _ _ k2
  have d3 := cell_of_row W2 _ 3 _ _ _ k1
  have f3 := frozen_of_row W2 _ 3 _ _ k1
  have c4 := cell_of_row W2 _ 4 _ _ _ k2
  have d4 := cell_of_row W2 _ 4 _ _ _ k1
  have f4 := frozen_of_row W2 _ 4 _ _ k1
  simp at c0 c1 c2 c3 c4 d0 d1 d2 d3 d4
  clear k2 hn2
  generalize hx0 : xs[0]?.getD 0 = x0 at c2
  generalize hx1 : xs[1]?.getD 0 = x1 at c3
  generalize hx2 : xs[2]?.getD 0 = x2 at c4
  have HX := Lib.hid (And.intro hx0 (And.intro hx1 hx2))
  clear hx0 hx1 hx2
  go_wp2
  have r0 := heap_setCell_same W2 (w.heap.size + 1) 0 _ _ (.int .i64 id) k1
  have r1 := heap_setCell_same _ (w.heap.size + 1) 1 _ _ (.int .i64 xs.length) r0
  have r2 := heap_setCell_same _ (w.heap.size + 1) 2 _ _ (.int .i64 x0) r1
  have r3 := heap_setCell_same _ (w.heap.size + 1) 3 _ _ (.int .i64 x1) r2
  have r4 := heap_setCell_same _ (w.heap.size + 1) 4 _ _ (.int .i64 x2) r3
  have B4 := (((((hbb.setCell (p := ⟨w.heap.size + 1, 0, none⟩) (by simp) (.int .i64 id)).setCell (p := ⟨w.heap.size + 1, 1, none⟩) (by simp) (.int .i64 xs.length)).setCell (p := ⟨w.heap.size + 1, 2, none⟩) (by simp) (.int .i64 x0)).setCell (p := ⟨w.heap.size + 1, 3, none⟩) (by simp) (.int .i64 x1)).setCell (p := ⟨w.heap.size + 1, 4, none⟩) (by simp) (.int .i64 x2))
  clear r0 r1 r2 r3 k1
  have e0 := cell_of_row _ _ 0 _ _ _ r4
  have e1 := cell_of_row _ _ 1 _ _ _ r4
  have e2 := cell_of_row _ _ 2 _ _ _ r4
  have e3 := cell_of_row _ _ 3 _ _ _ r4
  have e4 := cell_of_row _ _ 4 _ _ _ r4
  simp at e0 e1 e2 e3 e4
  clear r4
  refine bodyPost_ret (v := .agg #[.int .i64 id, .int .i64 xs.length, .int .i64 x0, .int .i64 x1, .int .i64 x2]) ?_ rfl ?_
  · simp [results, Tryz.f192, go_sem, e0, e1, e2, e3, e4]
  · obtain ⟨rfl, rfl, rfl⟩ := HX.out
    exact ⟨by simp [recV], B4⟩
end Go.Proofs.YtdhglmoanpkeoaaGreatDoor
namespace Go.Proofs.YtdhglmoanpkeoaaGreatDoor
open Go.RowKit
set_option linter.unusedVariables false
set_option linter.unusedSimpArgs false
/-- A value moved into the range. -/
def limI (x : Int) : Int := min (max x 0) 99
theorem idx0 (a b c : Int) (w : World) : Sem.run Tryz.prog (Instr.index 235 (.agg #[.int .i64 a, .int .i64 b, .int .i64 c]) (.int .i64 0)) w = .ok (.int .i64 a) w := by
  have u := Tryz.underlying235
  have z := Tryz.sizeOf3
  have g := Tryz.isAgg3
  unfold Instr.index
  go_simp
theorem idx1 (a b c : Int) (w : World) : Sem.run Tryz.prog (Instr.index 235 (.agg #[.int .i64 a, .int .i64 b, .int .i64 c]) (.int .i64 1)) w = .ok (.int .i64 b) w := by
  have u := Tryz.underlying235
  have z := Tryz.sizeOf3
  have g := Tryz.isAgg3
  unfold Instr.index
  go_simp
theorem idx2 (a b c : Int) (w : World) : Sem.run Tryz.prog (Instr.index 235 (.agg #[.int .i64 a, .int .i64 b, .int .i64 c]) (.int .i64 2)) w = .ok (.int .i64 c) w := by
  have u := Tryz.underlying235
  have z := Tryz.sizeOf3
  have g := Tryz.isAgg3
  unfold Instr.index
  go_simp
set_option maxHeartbeats 4000000 in
set_option maxRecDepth 100000 in
theorem limited_any (a b c : Int) (w : World) :
    Calls Tryz.prog 204 #[.agg #[.int .i64 a, .int .i64 b, .int .i64 c]] w fun e w' => e = .returned (.agg #[.int .i64 (limI a), .int .i64 (limI b), .int .i64 (limI c)]) ∧ Below w.heap.size w w' := by
  have i0 := idx0 a b c
  have i1 := idx1 a b c
  have i2 := idx2 a b c
  go_enter Tryz.func204, Tryz.ntmps204
  go_wp2
  refine wp_loop_rounds 4 ?_
  rw [rounds_succ]
  go_wp2
  rw [rounds_succ]
  go_wp2
  rw [rounds_succ]
  go_wp2
  rw [rounds_succ]
  go_wp2
  refine bodyPost_ret (v := .agg #[.int .i64 (limI a), .int .i64 (limI b), .int .i64 (limI c)]) ?_ rfl ?_
  · simp [results, Tryz.f204, go_sem, limI]
  refine ⟨rfl, ?_⟩
  exact ((Below.refl _ w).alloc (Nat.le_refl _) _).alloc (by simp) _
end Go.Proofs.YtdhglmoanpkeoaaGreatDoor
namespace Go.Proofs.YtdhglmoanpkeoaaGreatDoor
open Go.RowKit
set_option linter.unusedVariables false
set_option linter.unusedSimpArgs false
theorem eqIn_arr (d : Nat) (a b c x y z : Int) (w : World) : (Op.equalIn (d + 2) 235 (.agg #[.int .i64 a, .int .i64 b, .int .i64 c]) (.agg #[.int .i64 x, .int .i64 y, .int .i64 z])).run Tryz.prog w = .ok (a == x && b == y && c == z) w := by
  have u := Tryz.underlying235
  have u3 := Tryz.underlying3
  have z3 := Tryz.sizeOf3
  have g := Tryz.isAgg3
  rw [Op.equalIn]
  simp only [Sem.run_bind, run_underlying u, Result.andThen_ok, z3]
  simp only [Std.Legacy.Range.forIn_eq_forIn_range', Std.Legacy.Range.size]
  simp [List.range', g, z3, go_sem, run_equalIn_int (P := Tryz.prog) _ d _ _ _ _ _ u3]
  by_cases h1 : a = x <;> by_cases h2 : b = y <;> by_cases h3 : c = z <;> simp [h1, h2, h3]
theorem eql_arr (a b c x y z : Int) (w : World) : Sem.run Tryz.prog (binOp .eql 235 (.agg #[.int .i64 a, .int .i64 b, .int .i64 c]) (.agg #[.int .i64 x, .int .i64 y, .int .i64 z])) w = .ok (.bool (a == x && b == y && c == z)) w := by
  rw [run_eql_struct, show (10000 : Nat) = 9998 + 2 from rfl, eqIn_arr]
  rfl
theorem guard_arr (o1 o2 : Operand) (xs ys : Array Value) (w : World) : Sem.run Tryz.prog (eqGuard .eql 235 o1 o2 (.agg xs) (.agg ys)) w = .ok () w := run_eqGuard_agg w _ _ _ _ _ _ (by kernel_rfl)
end Go.Proofs.YtdhglmoanpkeoaaGreatDoor
