/-
  Texts of the proof, merged: Ints, LawInts, RowVal, SetMath, SetSpec, RowSpec, RowSl, RowOwn, RowLaw1, RowLaws, RowEq, Take, RowAre, RowLess, AppInts, RowCopy, RowMark, RowMarkW, RowIns, VerMath, UpdMath, Ty, TyInt, TRow, TUpdate, UpdSpec1, Rec, RecLim, RecEq, RowIsP.
-/
import Derived.Test.YthiiaiholcfhhaaRows
import Derived.WalkKit
import Derived.Below
import Derived.Lib.Hide
import Derived.OwnWalk
import Derived.BigQuiet
import Derived.Deep.QuietTactic
import Derived.WalkSpells
import Derived.Deep.RegionHeld3
import Derived.IntWalk
import Derived.Deep.Upon
import Derived.Maps.AppendAt
import Derived.Laws.OwnMore
import Derived.Laws.MakeOwn
import Derived.Laws.CopyOwn
import Derived.Lib.MinMax
import Derived.Laws.StructEq
namespace Go.Proofs.Ythiiaiholcfhhaa
open Go.RowKit
set_option linter.unusedVariables false
theorem Try.infoI64 : (Try.prog.info? 3).map (fun i => (i.zero, i.size, i.bytes)) = some (some (.int .i64 0), 1, 8) := by kernel_rfl
/-- The slice v reads as the numbers xs. -/
def Ints (w : World) (v : Value) (xs : List Int) : Prop :=
  (xs = [] ∧ ∃ a cap, v = .slice a 0 cap) ∨ ∃ b off cap, v = .slice (some ⟨b, off, none⟩) xs.length cap ∧ xs.length ≤ cap ∧ b < w.heap.size ∧ ∀ j, j < xs.length → w.cell? ⟨b, off + j, none⟩ = some (.int .i64 (xs.getD j 0))
/-- The slice v owns the numbers xs, in a block from B on. -/
def OwnsN (w : World) (B : Nat) (v : Value) (xs : List Int) : Prop := w.ownsRow B 3 1 v xs.length (xs.map (Value.int .i64))
theorem below_same {B : Nat} {a w w' : World} (h : Below B a w) (h1 : w'.heap = w.heap) (h2 : w'.os = w.os) (h3 : w'.tape = w.tape) (h4 : w'.output = w.output) : Below B a w' :=
  ⟨h2.trans h.os, h3.trans h.tape, h4.trans h.output, by rw [h1]; exact h.size, fun k hk => by rw [h1]; exact h.block k hk⟩
theorem ints_len {w : World} {v : Value} {xs : List Int} (h : Ints w v xs) : ∃ a cap, v = .slice a xs.length cap := by
  rcases h with ⟨rfl, a, cap, rfl⟩ | ⟨b, off, cap, rfl, _⟩
  · exact ⟨a, cap, rfl⟩
  · exact ⟨_, cap, rfl⟩
theorem ints_below {W w : World} {v : Value} {xs : List Int} (h : Ints W v xs) (hb : Below W.heap.size W w) : Ints w v xs := by
  rcases h with h | ⟨b, off, cap, h1, h2, h3, h4⟩
  · exact Or.inl h
  · exact Or.inr ⟨b, off, cap, h1, h2, Nat.lt_of_lt_of_le h3 hb.size, fun j hj => (hb.cell (p := ⟨b, off + j, none⟩) h3).trans (h4 j hj)⟩
/-- What 'make([]int, n)' owns. -/
theorem ownsN_made {w : World} {B g n : Nat} (h : w.ownsRow B 3 1 (.slice (some ⟨g, 0, none⟩) n n) n (madeCells #[Value.int .i64 0] n).toList) : OwnsN w B (.slice (some ⟨g, 0, none⟩) n n) (List.replicate n 0) := by
  have e : (madeCells #[Value.int .i64 0] n).toList = List.replicate n (.int .i64 0) := toList_madeCells_one (.int .i64 0) n
  rw [e] at h
  unfold OwnsN
  simpa using h
theorem ownsN_len {w : World} {B : Nat} {a : Option Addr} {n cap : Nat} {xs : List Int} (h : OwnsN w B (.slice a n cap) xs) : n = xs.length := by
  rcases h.2 with ⟨h', h0⟩ | ⟨_, _, _, h', _⟩
  · simp only [Value.slice.injEq] at h'; omega
  · simp only [Value.slice.injEq] at h'; exact h'.2.1
theorem ownsN_cell {w : World} {B g n cap j : Nat} {xs : List Int} {x : Int} (h : OwnsN w B (.slice (some ⟨g, 0, none⟩) n cap) xs) (hx : xs[j]? = some x) : w.cell? ⟨g, j, none⟩ = some (.int .i64 x) := by
  have := World.ownsRow.cells h (g := g) rfl j (.int .i64 x) (by simp [hx])
  have e : (⟨g, 0, none⟩ : Addr).add j = ⟨g, j, none⟩ := by unfold Addr.add; split <;> simp_all
  rwa [e] at this
theorem ownsN_frozen {w : World} {B g n cap : Nat} {xs : List Int} (h : OwnsN w B (.slice (some ⟨g, 0, none⟩) n cap) xs) (j : Nat) : w.frozen? ⟨g, j, none⟩ = false := by
  obtain rfl := ownsN_len h
  exact World.ownsRow.frozenAt h j
theorem ownsN_store {w : World} {B g n cap : Nat} {xs : List Int} (h : OwnsN w B (.slice (some ⟨g, 0, none⟩) n cap) xs) (j : Nat) (x : Int) : OwnsN (w.setCell ⟨g, j, none⟩ (.int .i64 x)) B (.slice (some ⟨g, 0, none⟩) n cap) (xs.set j x) := by
  obtain rfl := ownsN_len h
  have := (World.ownsRow.stored h j (.int .i64 x)).1
  unfold OwnsN
  rw [List.length_set, List.map_set]
  exact this
end Go.Proofs.Ythiiaiholcfhhaa
namespace Go.Proofs.Ythiiaiholcfhhaa
open Go.RowKit
set_option linter.unusedVariables false
/-- A slice in new memory that holds the numbers xs. -/
def Fresh (w : World) (xs : List Int) (e : Ending) (w' : World) : Prop := ∃ v', e = .returned v' ∧ OwnsN w' w.heap.size v' xs ∧ Below w.heap.size w w'
theorem ints_cell {w : World} {v : Value} {xs : List Int} (h : Ints w v xs) (hp : 0 < xs.length) : ∃ b off cap, v = .slice (some ⟨b, off, none⟩) xs.length cap ∧ b < w.heap.size ∧ ∀ j, j < xs.length → w.cell? ⟨b, off + j, none⟩ = some (.int .i64 (xs.getD j 0)) := by
  rcases h with ⟨rfl, _⟩ | ⟨b, off, cap, h1, h2, h3, h4⟩
  · simp at hp
  · exact ⟨b, off, cap, h1, h3, h4⟩
theorem copy_step (xs : List Int) (k : Nat) (h : k < xs.length) : (xs.take k ++ List.replicate (xs.length - k) 0).set k (xs.getD k 0) = xs.take (k + 1) ++ List.replicate (xs.length - (k + 1)) 0 := by
  have hk : (xs.take k).length = k := by rw [List.length_take]; omega
  rw [List.set_append_right _ _ (by omega), hk, Nat.sub_self, show xs.length - k = (xs.length - (k + 1)) + 1 by omega, List.replicate_succ, List.set_cons_zero, List.take_succ_eq_append_getElem h, List.append_assoc]
  simp [List.getD, h]
theorem copy_at (xs : List Int) (k : Nat) (h : k < xs.length) : (xs.take k ++ List.replicate (xs.length - k) 0)[k]? = some 0 := by
  have hk : (xs.take k).length = k := by rw [List.length_take]; omega
  rw [List.getElem?_append_right (by omega), hk, Nat.sub_self, List.getElem?_replicate, if_pos (by omega)]
set_option maxRecDepth 100000 in
theorem toIntS_any (v : Value) (xs : List Int) (w : World) (h : Ints w v xs) (hn : xs.length ≤ 1048576) :
    Calls Try.prog 29 #[v] w (Fresh w xs) := by
  obtain ⟨i0, hi, hz0, hz1, hz2⟩ := info_parts Try.infoI64
  have HI := Lib.hid hi; have HZ0 := Lib.hid hz0; have HZ1 := Lib.hid hz1; have HZ2 := Lib.hid hz2
  clear hi hz0 hz1 hz2
  have H := Lib.hid h
  obtain ⟨a, cap, rfl⟩ := ints_len h
  clear h
  go_enter Try.func29, Try.ntmps29
  go_wp2_with (at_make; refine wpList_make_full _ rfl (.tmp 6) (.tmp 6) 22 rfl w.heap.size 3 i0 (.int .i64 0) 1 Try.underlying22 HI.out HZ0.out HZ1.out _ _ _ _ xs.length rfl rfl rfl rfl (by rw [HZ2.out]; omega) (by unfold maxLen; omega) (Nat.le_refl _) ?_)
  intro w1 hown0 hg0
  have hown1 := ownsN_made hown0
  have hbel1 := (Below.refl w.heap.size w).grown hg0 (Nat.le_refl _) (fun k hk => by cases hk)
  clear hown0 hg0
  go_wp2
  go_loopw [4] (fun i wr => ∃ k : Nat, k ≤ xs.length ∧ i = .int .i64 k ∧ OwnsN wr w.heap.size (.slice (some ⟨w.heap.size, 0, none⟩) xs.length xs.length) (xs.take k ++ List.replicate (xs.length - k) 0) ∧ Below w.heap.size w wr) (fun i _ => xs.length - (intOf i).toNat)
  case atStart => exact ⟨0, Nat.zero_le _, rfl, by simpa using hown1, hbel1⟩
  case round =>
    obtain ⟨k, hk, rfl, hown, hbel⟩ := hrel
    by_cases hlt : k < xs.length
    · obtain ⟨b, off, cap', hv, hbl, hc⟩ := ints_cell H.out (by omega)
      simp only [Value.slice.injEq] at hv
      obtain ⟨rfl, _, rfl⟩ := hv
      have hcell := (hbel.cell (p := ⟨b, off + k, none⟩) hbl).trans (hc k hlt)
      have hset := copy_step xs k hlt
      have i1 : (0 : Int) ≤ (k : Int) := by omega
      have i2 : (k : Int) < (xs.length : Int) := by omega
      have c1 := ownsN_cell hown (copy_at xs k hlt)
      have f1 := ownsN_frozen hown k
      have hst := ownsN_store hown k (xs.getD k 0)
      rw [hset] at hst
      have hb2 := hbel.setCell (p := ⟨w.heap.size, k, none⟩) (Nat.le_refl _) (.int .i64 (xs.getD k 0))
      have HST := Lib.hid hst
      clear hst hset hc hown hbel hown1 hbel1
      generalize xs.getD k 0 = y at *
      go_wp2
      go_roundw
      case rel => exact ⟨k + 1, by omega, by go_num, HST.out, hb2⟩
      case measure => simp [intOf]; omega
    · obtain rfl : k = xs.length := by omega
      rw [List.take_of_length_le (Nat.le_refl _), Nat.sub_self, List.replicate_zero, List.append_nil] at hown
      go_wp2
      go_ret
      exact ⟨_, rfl, hown, hbel⟩
set_option maxRecDepth 100000 in
theorem eqIntS_same (v u : Value) (xs : List Int) (w : World) (h : Ints w v xs) (g : Ints w u xs) (hn : xs.length ≤ 1048576) :
    Calls Try.prog 31 #[v, u] w fun e w' => e = .returned (.bool true) ∧ Below w.heap.size w w' := by
  have H := Lib.hid h
  have G := Lib.hid g
  obtain ⟨a, cap, rfl⟩ := ints_len h
  obtain ⟨a2, cap2, rfl⟩ := ints_len g
  clear h g
  go_enter Try.func31, Try.ntmps31
  go_wp2
  go_loopw [5] (fun i wr => ∃ k : Nat, k ≤ xs.length ∧ i = .int .i64 k ∧ Below w.heap.size w wr) (fun i _ => xs.length - (intOf i).toNat)
  case atStart => exact ⟨0, Nat.zero_le _, rfl, Below.refl _ _⟩
  case round =>
    obtain ⟨k, hk, rfl, hbel⟩ := hrel
    by_cases hlt : k < xs.length
    · obtain ⟨b, off, cap', hv, hbl, hc⟩ := ints_cell H.out (by omega)
      obtain ⟨b2, off2, cap2', hv2, hbl2, hc2⟩ := ints_cell G.out (by omega)
      simp only [Value.slice.injEq] at hv hv2
      obtain ⟨rfl, _, rfl⟩ := hv
      obtain ⟨rfl, _, rfl⟩ := hv2
      have hcell := (hbel.cell (p := ⟨b, off + k, none⟩) hbl).trans (hc k hlt)
      have hcell2 := (hbel.cell (p := ⟨b2, off2 + k, none⟩) hbl2).trans (hc2 k hlt)
      have i1 : (0 : Int) ≤ (k : Int) := by omega
      have i2 : (k : Int) < (xs.length : Int) := by omega
      clear hc hc2
      generalize xs.getD k 0 = y at *
      go_wp2
      go_quiet (fail)
      go_wp2
      go_roundw
      case rel => exact ⟨k + 1, by omega, by go_num, below_same hbel rfl rfl rfl rfl⟩
      case measure => simp [intOf]; omega
    · obtain rfl : k = xs.length := by omega
      go_wp2
      go_ret
      exact ⟨rfl, hbel⟩
/-- The numbers k, k + 1, ... -/
def marks (k : Int) (n : Nat) : List Int := (List.range n).map fun i : Nat => k + (i : Int)
end Go.Proofs.Ythiiaiholcfhhaa
namespace Go.Proofs.Ythiiaiholcfhhaa
open Go.RowKit
set_option linter.unusedVariables false
/-- A row: its number and its values. -/
abbrev RowD := Int × List Int
theorem szInt_yes (a : Option Addr) (cap n : Nat) (k : Int) (w : World) (h : (n : Int) ≤ k) (hk : k ≤ 1048576) :
    Calls Try.prog 73 #[.slice a n cap, .int .i64 k] w fun e w' => e = .returned (.int .i64 (k - (n : Int))) ∧ w' = w := by
  have h0 : ¬ k - (n : Int) < 0 := by omega
  go_enter Try.func73, Try.ntmps73
  go_wp2
  go_ret
  exact ⟨rfl, rfl⟩
theorem szInt_no (a : Option Addr) (cap n : Nat) (k : Int) (w : World) (h : k < (n : Int)) (hk : 0 ≤ k) (hn : (n : Int) ≤ 9223372036854775807) :
    Calls Try.prog 73 #[.slice a n cap, .int .i64 k] w fun e w' => e = .returned (.int .i64 (-1)) ∧ w' = w := by
  have h0 : k - (n : Int) < 0 := by omega
  go_enter Try.func73, Try.ntmps73
  go_wp2
  go_ret
  exact ⟨rfl, rfl⟩
end Go.Proofs.Ythiiaiholcfhhaa
namespace Go.Proofs.Ythiiaiholcfhhaa
end Go.Proofs.Ythiiaiholcfhhaa
namespace Go.Proofs.Ythiiaiholcfhhaa
open Go.RowKit
set_option linter.unusedVariables false
theorem ret_b {b c : Bool} (h : b = c) : Ending.returned (.bool b) = .returned (.bool c) := by rw [h]
theorem in_yes (a l h : Int) (w : World) (h1 : l ≤ a) (h2 : a ≤ h) : Calls Try.prog 43 #[.int .i64 a, .int .i64 l, .int .i64 h] w fun e w' => e = .returned (.bool true) ∧ w' = w := by
  go_enter Try.func43, Try.ntmps43
  go_wp2
  go_ret
  exact ⟨rfl, rfl⟩
theorem in_no (a l h : Int) (w : World) (hh : ¬ (l ≤ a ∧ a ≤ h)) : Calls Try.prog 43 #[.int .i64 a, .int .i64 l, .int .i64 h] w fun e w' => e = .returned (.bool false) ∧ w' = w := by
  by_cases h1 : l ≤ a
  · have h2 : ¬ a ≤ h := by omega
    clear hh
    go_enter Try.func43, Try.ntmps43
    go_wp2
    go_ret
    exact ⟨rfl, rfl⟩
  · clear hh
    go_enter Try.func43, Try.ntmps43
    go_wp2
    go_ret
    exact ⟨rfl, rfl⟩
/-! ### HasMember -/
/-! ### IsSet -/
end Go.Proofs.Ythiiaiholcfhhaa
namespace Go.Proofs.Ythiiaiholcfhhaa
open Go.RowKit
set_option linter.unusedVariables false
/-- Is it a row? -/
def rowB (r : RowD) : Bool := decide (0 ≤ r.1 ∧ r.1 ≤ 999) && (r.2.all (fun x => decide (0 ≤ x ∧ x ≤ 99)) && decide (r.2.length = 3))
theorem rowB_bad {id : Int} {xs : List Int} {k : Nat} (hk : k < xs.length) (h : ¬ (0 ≤ xs.getD k 0 ∧ xs.getD k 0 ≤ 99)) : rowB (id, xs) = false := by
  have e : xs.getD k 0 = xs[k] := by simp [List.getD, hk]
  rw [e] at h
  have : (xs.all fun x => decide (0 ≤ x ∧ x ≤ 99)) = false := by
    rw [Bool.eq_false_iff]
    intro g
    rw [List.all_eq_true] at g
    exact h (of_decide_eq_true (g _ (List.getElem_mem hk)))
  unfold rowB
  simp only [this]
  simp
theorem rowB_all {id : Int} {xs : List Int} (h : ∀ k, k < xs.length → 0 ≤ xs.getD k 0 ∧ xs.getD k 0 ≤ 99) : rowB (id, xs) = (decide (0 ≤ id ∧ id ≤ 999) && decide (xs.length = 3)) := by
  have : (xs.all fun x => decide (0 ≤ x ∧ x ≤ 99)) = true := by
    rw [List.all_eq_true]
    intro x hx
    obtain ⟨k, hk, rfl⟩ := List.getElem_of_mem hx
    have := h k hk
    have e : xs.getD k 0 = xs[k] := by simp [List.getD, hk]
    rw [e] at this
    exact decide_eq_true this
  unfold rowB
  simp only [this, Bool.true_and]
set_option maxHeartbeats 2000000 in
set_option maxRecDepth 100000 in
theorem specIsRow (id : Int) (vv : Value) (xs : List Int) (w : World) (h : Ints w vv xs) (hn : xs.length ≤ 1048576) :
    Calls Try.prog 42 #[.agg #[.int .i64 id, vv]] w fun e w' => e = .returned (.bool (rowB (id, xs))) ∧ Below w.heap.size w w' := by
  have H := Lib.hid h
  obtain ⟨a, cap, rfl⟩ := ints_len h
  clear h
  go_enter Try.func42, Try.ntmps42
  go_wp2
  have hb0 : Below w.heap.size w (w.alloc (.cells #[.int .i64 id, .slice a xs.length cap] 29)) := (Below.refl _ w).alloc (Nat.le_refl _) _
  have hc0 : (w.alloc (.cells #[.int .i64 id, .slice a xs.length cap] 29)).heap[w.heap.size]? = some (.cells #[.int .i64 id, .slice a xs.length cap] 29 (0, 0)) := heap_alloc_new w _
  have d0 := (cell_of_row _ _ 0 _ _ _ hc0).trans (show _ = some (Value.int .i64 id) from rfl)
  have d1 := (cell_of_row _ _ 1 _ _ _ hc0).trans (show _ = some (Value.slice a xs.length cap) from rfl)
  have H1 := Lib.hid (ints_below H.out hb0)
  have hlt1 : w.heap.size < (w.alloc (.cells #[.int .i64 id, .slice a xs.length cap] 29)).heap.size := by simp [World.size_alloc]
  generalize w.alloc (.cells #[.int .i64 id, .slice a xs.length cap] 29) = W at *
  clear hc0
  go_loopw [3] (fun i wr => ∃ k : Nat, k ≤ xs.length ∧ i = .int .i64 k ∧ Hid (∀ j, j < k → 0 ≤ xs.getD j 0 ∧ xs.getD j 0 ≤ 99) ∧ Below W.heap.size W wr) (fun i _ => xs.length - (intOf i).toNat)
  case atStart => exact ⟨0, Nat.zero_le _, rfl, Lib.hid (fun j hj => by omega), Below.refl _ _⟩
  case round =>
    obtain ⟨k, hk, rfl, hall, hbel⟩ := hrel
    have c0 := (hbel.cell (p := ⟨w.heap.size, 0, none⟩) hlt1).trans d0
    have c1 := (hbel.cell (p := ⟨w.heap.size, 1, none⟩) hlt1).trans d1
    by_cases hlt : k < xs.length
    · obtain ⟨b, off, cap', hv, hbl, hc⟩ := ints_cell H1.out (by omega)
      simp only [Value.slice.injEq] at hv
      obtain ⟨rfl, _, rfl⟩ := hv
      have hcell := (hbel.cell (p := ⟨b, off + k, none⟩) hbl).trans (hc k hlt)
      have i1 : (0 : Int) ≤ (k : Int) := by omega
      have i2 : (k : Int) < (xs.length : Int) := by omega
      clear hc
      by_cases hr : 0 ≤ xs.getD k 0 ∧ xs.getD k 0 ≤ 99
      · have HA : Hid (∀ j, j < k + 1 → 0 ≤ xs.getD j 0 ∧ xs.getD j 0 ≤ 99) := Lib.hid (fun j hj => by
          by_cases e : j = k
          · exact e ▸ hr
          · exact hall.out j (by omega))
        have HI := Lib.hid (fun w => in_yes (xs.getD k 0) 0 99 w hr.1 hr.2)
        clear hr hall
        generalize xs.getD k 0 = y at *
        go_wp2_with fail
        refine (HI.out _).mono ?_
        rintro e wx ⟨rfl, rfl⟩
        go_wp2
        go_roundw
        case rel => exact ⟨k + 1, by omega, by go_num, HA, hbel⟩
        case measure => simp [intOf]; omega
      · have HF := Lib.hid (rowB_bad (id := id) hlt hr)
        have HI := Lib.hid (fun w => in_no (xs.getD k 0) 0 99 w hr)
        clear hr hall
        generalize xs.getD k 0 = y at *
        go_wp2_with fail
        refine (HI.out _).mono ?_
        rintro e wx ⟨rfl, rfl⟩
        go_wp2
        go_ret
        exact ⟨ret_b HF.out.symm, hb0.trans (hbel.mono hb0.size)⟩
    · obtain rfl : k = xs.length := by omega
      have HF := Lib.hid (rowB_all (id := id) hall.out)
      clear hall
      by_cases hr : 0 ≤ id ∧ id ≤ 999
      · have HI := Lib.hid (fun w => in_yes id 0 999 w hr.1 hr.2)
        have HD := Lib.hid (decide_eq_true hr)
        rw [HD.out] at HF
        clear hr HD
        go_wp2_with fail
        refine (HI.out _).mono ?_
        rintro e wx ⟨rfl, rfl⟩
        by_cases h3 : xs.length = 3
        · have h3' : ((xs.length : Int) == 3) = true := by rw [beq_iff_eq]; omega
          have HE : Hid (rowB (id, xs) = true) := Lib.hid (by rw [HF.out, decide_eq_true h3]; rfl)
          clear h3
          go_wp2
          go_ret
          exact ⟨ret_b HE.out.symm, hb0.trans (hbel.mono hb0.size)⟩
        · have h3' : ((xs.length : Int) == 3) = false := by rw [beq_eq_false_iff_ne]; omega
          have HE : Hid (rowB (id, xs) = false) := Lib.hid (by rw [HF.out, decide_eq_false h3]; rfl)
          clear h3
          go_wp2
          go_ret
          exact ⟨ret_b HE.out.symm, hb0.trans (hbel.mono hb0.size)⟩
      · have HI := Lib.hid (fun w => in_no id 0 999 w hr)
        have HE : Hid (rowB (id, xs) = false) := Lib.hid (by rw [HF.out, decide_eq_false hr]; rfl)
        clear hr HF
        go_wp2_with fail
        refine (HI.out _).mono ?_
        rintro e wx ⟨rfl, rfl⟩
        go_wp2
        go_ret
        exact ⟨ret_b HE.out.symm, hb0.trans (hbel.mono hb0.size)⟩
end Go.Proofs.Ythiiaiholcfhhaa
namespace Go.Proofs.Ythiiaiholcfhhaa
open Go.RowKit
set_option linter.unusedVariables false
end Go.Proofs.Ythiiaiholcfhhaa
namespace Go.Proofs.Ythiiaiholcfhhaa
open Go.RowKit
set_option linter.unusedVariables false
end Go.Proofs.Ythiiaiholcfhhaa
namespace Go.Proofs.Ythiiaiholcfhhaa
open Go.RowKit
set_option linter.unusedVariables false
theorem below_drew {B : Nat} {a w : World} (h : Below B a w) : Below B a w.drew := ⟨h.os, h.tape, h.output, h.size, h.block⟩
end Go.Proofs.Ythiiaiholcfhhaa
namespace Go.Proofs.Ythiiaiholcfhhaa
open Go.RowKit
set_option linter.unusedVariables false
end Go.Proofs.Ythiiaiholcfhhaa
namespace Go.Proofs.Ythiiaiholcfhhaa
open Go.RowKit
set_option linter.unusedVariables false
theorem below_dn {B : Nat} {a w : World} (h : Below B a w) (q : Nat) : Below B a (w.drewN q) := ⟨h.os, h.tape, h.output, h.size, h.block⟩
theorem list_ne_at {xs ys : List Int} {k : Nat} (hx : k < xs.length) (h : ¬ xs.getD k 0 = ys.getD k 0) : ¬ xs = ys := fun e => h (by rw [e])
theorem list_eq_all {xs ys : List Int} (hl : xs.length = ys.length) (h : ∀ j, j < xs.length → xs.getD j 0 = ys.getD j 0) : xs = ys := by
  apply List.ext_getElem hl
  intro i h1 h2
  have := h i h1
  simpa [List.getD, h1, h2] using this
end Go.Proofs.Ythiiaiholcfhhaa
namespace Go.Proofs.Ythiiaiholcfhhaa
open Go.RowKit
set_option linter.unusedVariables false
theorem take_runs {P : Program} {ops : Array Oper} {Q : Exit → Act → World → Prop} {md : Region.Mode} {S : World → Prop} {i : Nat} {oi : Oper} {d : Option Tmp} {v : Value} {fuel : Nat} {listed : Array Bool} {a : Act} {w : World} (hi : ops[i]? = some oi)
    (hs : Region.noSelect ops = true) (hf : Region.free md ops listed i = true) (hr : (Region.ready md ops listed).contains i = true) (hd : oi.dst = d)
    (hQ : ∀ c a w, Q (.panic c) (a.put oi.dst v) w → Q (.panic c) a w) (hw : Region.wanted oi (yielded ops a.tmps) = true) (hy : ∀ w, S w → (execOp a.eval oi).run P w = .ok (.value v) w) (hS : S w)
    (h : wpAnyH P md ops Q S fuel (listed.setIfInBounds i true) (a.put d v) w) : wpAnyH P md ops Q S (fuel + 1) listed a w := by
  subst hd
  exact wpAnyH_take hi hs hf hr hQ (Or.inl ⟨hw, hy⟩) hS h
theorem take_over {P : Program} {ops : Array Oper} {Q : Exit → Act → World → Prop} {md : Region.Mode} {S : World → Prop} {i : Nat} {oi : Oper} {d : Option Tmp} {fuel : Nat} {listed : Array Bool} {a : Act} {w : World} (hi : ops[i]? = some oi)
    (hs : Region.noSelect ops = true) (hf : Region.free md ops listed i = true) (hr : (Region.ready md ops listed).contains i = true) (hd : oi.dst = d)
    (hQ : ∀ c a w, Q (.panic c) (a.put oi.dst undef) w → Q (.panic c) a w) (hw : Region.wanted oi (yielded ops a.tmps) = false) (hS : S w)
    (h : wpAnyH P md ops Q S fuel (listed.setIfInBounds i true) (a.put d undef) w) : wpAnyH P md ops Q S (fuel + 1) listed a w := by
  subst hd
  exact wpAnyH_take hi hs hf hr hQ (Or.inr ⟨hw, rfl⟩) hS h
end Go.Proofs.Ythiiaiholcfhhaa
namespace Go.Proofs.Ythiiaiholcfhhaa
open Go.RowKit
set_option linter.unusedVariables false
set_option linter.unusedSimpArgs false
end Go.Proofs.Ythiiaiholcfhhaa
namespace Go.Proofs.Ythiiaiholcfhhaa
open Go.RowKit
set_option linter.unusedVariables false
set_option linter.unusedSimpArgs false
end Go.Proofs.Ythiiaiholcfhhaa
namespace Go.Proofs.Ythiiaiholcfhhaa
open Go.RowKit
set_option linter.unusedVariables false
end Go.Proofs.Ythiiaiholcfhhaa
namespace Go.Proofs.Ythiiaiholcfhhaa
open Go.RowKit
set_option linter.unusedVariables false
set_option linter.unusedSimpArgs false
end Go.Proofs.Ythiiaiholcfhhaa
namespace Go.Proofs.Ythiiaiholcfhhaa
open Go.RowKit
set_option linter.unusedVariables false
/-- Only blocks from B up to hi have turned. -/
structure Only (B hi : Nat) (w w' : World) : Prop where
  os : w'.os = w.os
  tape : w'.tape = w.tape
  output : w'.output = w.output
  size : w.heap.size ≤ w'.heap.size
  block : ∀ k, k < w.heap.size → (k < B ∨ hi ≤ k) → w'.heap[k]? = w.heap[k]?
theorem Only.refl (B hi : Nat) (w : World) : Only B hi w w := ⟨rfl, rfl, rfl, Nat.le_refl _, fun _ _ _ => rfl⟩
theorem Only.trans {B hi : Nat} {a b c : World} (h : Only B hi a b) (k : Only B hi b c) : Only B hi a c :=
  ⟨k.os.trans h.os, k.tape.trans h.tape, k.output.trans h.output, Nat.le_trans h.size k.size, fun i hi' hn => (k.block i (Nat.lt_of_lt_of_le hi' h.size) hn).trans (h.block i hi' hn)⟩
end Go.Proofs.Ythiiaiholcfhhaa
namespace Go.Proofs.Ythiiaiholcfhhaa
open Go.RowKit
set_option linter.unusedVariables false
end Go.Proofs.Ythiiaiholcfhhaa
namespace Go.Proofs.Ythiiaiholcfhhaa
open Go.RowKit
set_option linter.unusedVariables false
end Go.Proofs.Ythiiaiholcfhhaa
namespace Go.Proofs.Ythiiaiholcfhhaa
open Go.RowKit
set_option linter.unusedVariables false
set_option linter.unusedSimpArgs false
/-- A version: its number, values, birth and death. -/
abbrev VerD := Int × List Int × Int × Int
def v0D : VerD := (0, [], 0, 0)
def visP (born died t : Int) : Prop := born ≤ t ∧ (died = -1 ∨ t < died)
instance (a b c : Int) : Decidable (visP a b c) := by unfold visP; infer_instance
def lifeP (born died now : Int) : Prop := 0 ≤ born ∧ born ≤ now ∧ (died = -1 ∨ born < died ∧ died ≤ now)
instance (a b c : Int) : Decidable (lifeP a b c) := by unfold lifeP; infer_instance
def verB (v : VerD) (now : Int) : Bool := rowB (v.1, v.2.1) && decide (lifeP v.2.2.1 v.2.2.2 now)
def apartP (i1 b1 d1 i2 b2 d2 : Int) : Prop := i1 ≠ i2 ∨ (d1 ≠ -1 ∧ d1 ≤ b2) ∨ (d2 ≠ -1 ∧ d2 ≤ b1)
instance (a b c d e f : Int) : Decidable (apartP a b c d e f) := by unfold apartP; infer_instance
def apartB (a b : VerD) : Bool := decide (apartP a.1 a.2.2.1 a.2.2.2 b.1 b.2.2.1 b.2.2.2)
/-- Two valid versions are apart iff they are not seen together when the later one is born. -/
def seenP (i1 b1 d1 i2 b2 d2 : Int) : Prop := i1 = i2 ∧ visP b1 d1 (max b1 b2) ∧ visP b2 d2 (max b1 b2)
instance (a b c d e f : Int) : Decidable (seenP a b c d e f) := by unfold seenP; infer_instance
/-- The first n versions are valid and apart. -/
def VersP (l : List VerD) (now : Int) (n : Nat) : Prop := ∀ i, i < n → verB (l.getD i v0D) now = true ∧ ∀ k, k < i → apartB (l.getD i v0D) (l.getD k v0D) = true
instance (l : List VerD) (now : Int) (n : Nat) : Decidable (VersP l now n) := by unfold VersP; infer_instance
def ShortP (ss : List (List VerD)) (n : Nat) : Prop := ∀ i, i < n → (ss.getD i []).length ≤ 4
instance (ss : List (List VerD)) (n : Nat) : Decidable (ShortP ss n) := by unfold ShortP; infer_instance
def storeP (ss : List (List VerD)) (now : Int) : Prop := ((1 ≤ ss.length ∧ ss.length ≤ 8) ∧ (0 ≤ now ∧ now ≤ 100000)) ∧ ShortP ss ss.length ∧ VersP ss.flatten now ss.flatten.length
instance (ss : List (List VerD)) (now : Int) : Decidable (storeP ss now) := by unfold storeP; infer_instance
def storeB (ss : List (List VerD)) (now : Int) : Bool := decide (storeP ss now)
end Go.Proofs.Ythiiaiholcfhhaa
namespace Go.Proofs.Ythiiaiholcfhhaa
open Go.RowKit
set_option linter.unusedVariables false
set_option linter.unusedSimpArgs false
/-- An update: its kind, row, field and value. -/
abbrev UpdD := Int × (Int × List Int) × Int × Int
def insP (u : UpdD) : Prop := u.1 = 1 ∧ rowB u.2.1 = true ∧ u.2.2.1 = 0 ∧ u.2.2.2 = 0
def delP (u : UpdD) : Prop := u.1 = 2 ∧ (0 ≤ u.2.1.1 ∧ u.2.1.1 ≤ 999) ∧ u.2.1.2.length = 0 ∧ u.2.2.1 = 0 ∧ u.2.2.2 = 0
def setP (u : UpdD) : Prop := u.1 = 3 ∧ (0 ≤ u.2.1.1 ∧ u.2.1.1 ≤ 999) ∧ u.2.1.2.length = 0 ∧ (0 ≤ u.2.2.1 ∧ u.2.2.1 ≤ 2) ∧ (0 ≤ u.2.2.2 ∧ u.2.2.2 ≤ 99)
instance (u : UpdD) : Decidable (insP u) := by unfold insP; infer_instance
instance (u : UpdD) : Decidable (delP u) := by unfold delP; infer_instance
instance (u : UpdD) : Decidable (setP u) := by unfold setP; infer_instance
def updB (u : UpdD) : Bool := decide (insP u) || (decide (delP u) || decide (setP u))
theorem upd_ins {u : UpdD} (h : insP u) : updB u = true := by unfold updB; rw [decide_eq_true h]; rfl
theorem upd_del {u : UpdD} (h : delP u) : updB u = true := by unfold updB; rw [decide_eq_true h]; simp
theorem upd_set {u : UpdD} (h : setP u) : updB u = true := by unfold updB; rw [decide_eq_true h]; simp
theorem upd_no {u : UpdD} (h1 : ¬ insP u) (h2 : ¬ delP u) (h3 : ¬ setP u) : updB u = false := by unfold updB; rw [decide_eq_false h1, decide_eq_false h2, decide_eq_false h3]; rfl
/- Where the living version of a row lies, and where there is room. -/
def aliveB (id : Int) (v : VerD) : Bool := decide (v.1 = id ∧ v.2.2.2 = -1)
def hasB (id : Int) (l : List VerD) : Bool := l.any (aliveB id)
def segI (ss : List (List VerD)) (id : Int) : Nat := ss.findIdx (hasB id)
def freeB (l : List VerD) : Bool := decide (l.length < 4)
def roomI (ss : List (List VerD)) : Nat := ss.findIdx freeB
/- What an update makes. -/
def okP (ss : List (List VerD)) (now : Int) (u : UpdD) : Prop := storeB ss now = true ∧ updB u = true ∧ now < 100000 ∧ (u.1 = 1 ↔ ¬ segI ss u.2.1.1 < ss.length) ∧ (u.1 ≠ 2 → roomI ss < ss.length)
instance (ss : List (List VerD)) (now : Int) (u : UpdD) : Decidable (okP ss now u) := by unfold okP; infer_instance
/- A store stays valid. -/
/- Reclaiming. -/
end Go.Proofs.Ythiiaiholcfhhaa
namespace Go.Proofs.Ythiiaiholcfhhaa
open Go.RowKit
set_option linter.unusedVariables false
set_option linter.unusedSimpArgs false
/-- Only blocks in G, of those that were there, have turned. -/
structure Turn (G : Nat → Prop) (w w' : World) : Prop where
  os : w'.os = w.os
  tape : w'.tape = w.tape
  output : w'.output = w.output
  size : w.heap.size ≤ w'.heap.size
  block : ∀ k, k < w.heap.size → ¬ G k → w'.heap[k]? = w.heap[k]?
theorem Turn.refl (G : Nat → Prop) (w : World) : Turn G w w := ⟨rfl, rfl, rfl, Nat.le_refl _, fun _ _ _ => rfl⟩
theorem Turn.trans {G : Nat → Prop} {a b c : World} (h : Turn G a b) (k : Turn G b c) : Turn G a c :=
  ⟨k.os.trans h.os, k.tape.trans h.tape, k.output.trans h.output, Nat.le_trans h.size k.size, fun i hi hn => (k.block i (Nat.lt_of_lt_of_le hi h.size) hn).trans (h.block i hi hn)⟩
theorem Turn.mono {G G' : Nat → Prop} {a b : World} (h : Turn G a b) (hg : ∀ k, G k → G' k) : Turn G' a b :=
  ⟨h.os, h.tape, h.output, h.size, fun i hi hn => h.block i hi (fun g => hn (hg i g))⟩
theorem turn_below {G : Nat → Prop} {w w' : World} (h : Below w.heap.size w w') : Turn G w w' := ⟨h.os, h.tape, h.output, h.size, fun k hk _ => h.block k hk⟩
theorem turn_set {G : Nat → Prop} {w : World} {g j : Nat} {u : Value} (h : G g) : Turn G w (w.setCell ⟨g, j, none⟩ u) :=
  ⟨rfl, rfl, rfl, by simp [World.setCell], fun k hk hn => Below.heap_setCell w _ u k (fun e => hn (by rw [e]; exact h))⟩
theorem below_turn {B : Nat} {G : Nat → Prop} {a w w' : World} (h : Below B a w) (k : Turn G w w') (hG : ∀ b, G b → B ≤ b) (hs : B ≤ w.heap.size) : Below B a w' :=
  h.trans ⟨k.os, k.tape, k.output, k.size, fun i hi => k.block i (by omega) (fun g => by have := hG i g; omega)⟩
theorem row_turn {w w' : World} {G : Nat → Prop} {B : Nat} {e : TypeId} {size : Nat} {u : Value} {n : Nat} {xs : List Value} (h : w.ownsRow B e size u n xs) (k : Turn G w w') (hd : ∀ b, u.ownBlock = some b → ¬ G b) : w'.ownsRow B e size u n xs := by
  refine ⟨h.1, ?_⟩
  rcases h.2 with hn | ⟨g, cap, cur, rfl, hb', hg, rest⟩
  · exact .inl hn
  · refine .inr ⟨g, cap, cur, rfl, hb', ?_, rest⟩
    rw [k.block g (Array.getElem?_eq_some_iff.1 hg).1 (hd g rfl)]
    exact hg
theorem row_low {w : World} {B C : Nat} {e : TypeId} {size : Nat} {v : Value} {n : Nat} {xs : List Value} (h : w.ownsRow C e size v n xs) (hb : B ≤ C) : w.ownsRow B e size v n xs := by
  refine ⟨h.1, ?_⟩
  rcases h.2 with hn | ⟨g, cap, cur, e, hb', rest⟩
  · exact .inl hn
  · exact .inr ⟨g, cap, cur, e, Nat.le_trans hb hb', rest⟩
theorem row_form {w : World} {B : Nat} {e : TypeId} {size : Nat} {v : Value} {n : Nat} {xs : List Value} (h : w.ownsRow B e size v n xs) : (v = .slice none 0 0 ∧ n = 0) ∨ ∃ g cap, v = .slice (some ⟨g, 0, none⟩) n cap ∧ g < w.heap.size := by
  rcases h.2 with h' | ⟨g, cap, cur, rfl, hb, hg, _⟩
  · exact .inl h'
  · exact .inr ⟨g, cap, rfl, (Array.getElem?_eq_some_iff.1 hg).1⟩
/-- A kind of data: how many cells; what is read; what is owned, in blocks of the set; size; marks (nd, md: in memory, numbers too; nv, mv: by value); lengths that a slice can have; how many numbers lie in the cells. -/
structure Ty (α : Type) where
  n : Nat
  d : α
  R : World → List Value → α → Prop
  O : World → (Nat → Prop) → List Value → α → Prop
  sz : α → Nat
  nd : α → Nat
  nv : α → Nat
  md : α → Int → α
  mv : α → Int → α
  ok : α → Prop
  s : Nat
structure Ty.Law {α : Type} (T : Ty α) : Prop where
  pos : 0 < T.n
  len : ∀ {w cs x}, T.R w cs x → cs.length = T.n
  below : ∀ {W w cs x}, T.R W cs x → Below W.heap.size W w → T.R w cs x
  reads : ∀ {w F cs x}, T.O w F cs x → T.R w cs x
  turn : ∀ {w w' F G cs x}, T.O w F cs x → Turn G w w' → (∀ b, F b → ¬ G b) → T.O w' F cs x
  mono : ∀ {w F F' cs x}, T.O w F cs x → (∀ b, F b → F' b) → T.O w F' cs x
  lt : ∀ {w F cs x}, T.O w F cs x → T.O w (fun b => F b ∧ b < w.heap.size) cs x
  nd_le : ∀ x, T.nd x ≤ 16 * T.sz x + T.s
  nv_le : ∀ x, T.nv x ≤ 16 * T.sz x
/- Numbers. -/
def tInt : Ty Int := { n := 1, d := 0, R := fun _ cs x => cs = [.int .i64 x], O := fun _ _ cs x => cs = [.int .i64 x], sz := fun _ => 0, nd := fun _ => 1, nv := fun _ => 0, md := fun _ k => k, mv := fun x _ => x, ok := fun _ => True, s := 1 }
theorem tInt_law : tInt.Law := ⟨by decide, fun h => by cases h; rfl, fun h _ => h, fun h => h, fun h _ _ => h, fun h _ => h, fun h => h, fun x => Nat.le_refl _, fun x => Nat.le_refl _⟩
/- Pairs. -/
def tPair {α β : Type} (a : Ty α) (b : Ty β) : Ty (α × β) where
  n := a.n + b.n
  d := (a.d, b.d)
  R := fun w cs p => ∃ c1 c2, cs = c1 ++ c2 ∧ a.R w c1 p.1 ∧ b.R w c2 p.2
  O := fun w F cs p => ∃ c1 c2 F1 F2, cs = c1 ++ c2 ∧ a.O w F1 c1 p.1 ∧ b.O w F2 c2 p.2 ∧ (∀ k, F1 k → F k) ∧ (∀ k, F2 k → F k) ∧ ∀ k, F1 k → ¬ F2 k
  sz := fun p => a.sz p.1 + b.sz p.2
  nd := fun p => a.nd p.1 + b.nd p.2
  nv := fun p => a.nv p.1 + b.nv p.2
  md := fun p k => (a.md p.1 k, b.md p.2 (k + (a.nd p.1 : Int)))
  mv := fun p k => (a.mv p.1 k, b.mv p.2 (k + (a.nv p.1 : Int)))
  ok := fun p => a.ok p.1 ∧ b.ok p.2
  s := a.s + b.s
theorem tPair_law {α β : Type} {a : Ty α} {b : Ty β} (A : a.Law) (B : b.Law) : (tPair a b).Law where
  pos := by have := A.pos; show 0 < a.n + b.n; omega
  len := fun {w cs x} h => by
    obtain ⟨c1, c2, rfl, h1, h2⟩ := h
    rw [List.length_append, A.len h1, B.len h2]; rfl
  below := fun {W w cs x} h hb => by
    obtain ⟨c1, c2, e, h1, h2⟩ := h
    exact ⟨c1, c2, e, A.below h1 hb, B.below h2 hb⟩
  reads := fun {w F cs x} h => by
    obtain ⟨c1, c2, F1, F2, e, h1, h2, _⟩ := h
    exact ⟨c1, c2, e, A.reads h1, B.reads h2⟩
  turn := fun {w w' F G cs x} h k hd => by
    obtain ⟨c1, c2, F1, F2, e, h1, h2, h3, h4, h5⟩ := h
    exact ⟨c1, c2, F1, F2, e, A.turn h1 k (fun b g => hd b (h3 b g)), B.turn h2 k (fun b g => hd b (h4 b g)), h3, h4, h5⟩
  mono := fun {w F F' cs x} h hf => by
    obtain ⟨c1, c2, F1, F2, e, h1, h2, h3, h4, h5⟩ := h
    exact ⟨c1, c2, F1, F2, e, h1, h2, fun k g => hf k (h3 k g), fun k g => hf k (h4 k g), h5⟩
  lt := fun {w F cs x} h => by
    obtain ⟨c1, c2, F1, F2, e, h1, h2, h3, h4, h5⟩ := h
    exact ⟨c1, c2, _, _, e, A.lt h1, B.lt h2, fun k g => ⟨h3 k g.1, g.2⟩, fun k g => ⟨h4 k g.1, g.2⟩, fun k g g' => h5 k g.1 g'.1⟩
  nd_le := fun x => by
    have h1 := A.nd_le x.1; have h2 := B.nd_le x.2
    show a.nd x.1 + b.nd x.2 ≤ 16 * (a.sz x.1 + b.sz x.2) + (a.s + b.s); omega
  nv_le := fun x => by
    have h1 := A.nv_le x.1; have h2 := B.nv_le x.2
    show a.nv x.1 + b.nv x.2 ≤ 16 * (a.sz x.1 + b.sz x.2); omega
/- Slices. -/
section
variable {α : Type}
def SlR (T : Ty α) (w : World) (v : Value) (xs : List α) : Prop :=
  (xs = [] ∧ ∃ a cap, v = .slice a 0 cap) ∨ ∃ (b off cap : Nat) (us : Nat → List Value), v = .slice (some ⟨b, off, none⟩) xs.length cap ∧ xs.length ≤ cap ∧ b < w.heap.size ∧
    ∀ j, j < xs.length → (∀ i, i < T.n → w.cell? ⟨b, off + j * T.n + i, none⟩ = (us j)[i]?) ∧ T.R w (us j) (xs.getD j T.d)
def SlO (e : TypeId) (T : Ty α) (w : World) (F : Nat → Prop) (v : Value) (xs : List α) : Prop :=
  ∃ (L : List Value) (us : Nat → List Value) (Fs : Nat → Nat → Prop), w.ownsRow 0 e T.n v xs.length L ∧ (∀ b, v.ownBlock = some b → F b) ∧
    (∀ j, j < xs.length → (∀ i, i < T.n → L[j * T.n + i]? = (us j)[i]?) ∧ T.O w (Fs j) (us j) (xs.getD j T.d) ∧ ∀ b, Fs j b → F b ∧ v.ownBlock ≠ some b) ∧
    ∀ i j, i < xs.length → j < xs.length → i ≠ j → ∀ b, Fs i b → ¬ Fs j b
def sumN (f : α → Nat) (xs : List α) (k : Nat) : Nat := ((xs.take k).map f).sum
theorem sumN_zero (f : α → Nat) (xs : List α) : sumN f xs 0 = 0 := by simp [sumN]
theorem sumN_le (f : α → Nat) {xs : List α} {k : Nat} (hk : k ≤ xs.length) : sumN f xs k ≤ sumN f xs xs.length := by
  unfold sumN
  have e : xs.take xs.length = xs.take k ++ xs.drop k := by rw [List.take_length, List.take_append_drop]
  rw [e, List.map_append, List.sum_append]
  omega
theorem sum_map_le {f g : α → Nat} {c s : Nat} (h : ∀ x, f x ≤ c * g x + s) : ∀ xs : List α, (xs.map f).sum ≤ c * (xs.map g).sum + s * xs.length
  | [] => by simp
  | x :: xs => by
    have h1 := h x
    have h2 := sum_map_le h xs
    simp only [List.map_cons, List.sum_cons, List.length_cons, Nat.mul_add, Nat.mul_one]
    omega
/-- The mark with which element j begins. -/
def kAt (T : Ty α) (xs : List α) (k : Int) (j : Nat) : Int := k + (sumN T.nd xs j : Int)
def mAt (T : Ty α) (xs : List α) (k : Int) (j : Nat) : α := T.md (xs.getD j T.d) (kAt T xs k j)
def mAll (T : Ty α) (xs : List α) (k : Int) : List α := (List.range xs.length).map (mAt T xs k)
def zTo (T : Ty α) (xs : List α) (k : Nat) : Nat := xs.length + sumN T.sz xs k
def zL (T : Ty α) (xs : List α) : Nat := zTo T xs xs.length
def ndL (T : Ty α) (xs : List α) : Nat := sumN T.nd xs xs.length
def tSl (e : TypeId) (T : Ty α) : Ty (List α) where
  n := 1
  d := []
  R := fun w cs xs => ∃ v, cs = [v] ∧ SlR T w v xs
  O := fun w F cs xs => ∃ v, cs = [v] ∧ SlO e T w F v xs
  sz := zL T
  nd := ndL T
  nv := ndL T
  md := mAll T
  mv := mAll T
  ok := fun xs => (xs.length : Int) ≤ 9223372036854775807 ∧ ∀ j, j < xs.length → T.ok (xs.getD j T.d)
  s := 0
theorem slR_len {T : Ty α} {w : World} {v : Value} {xs : List α} (h : SlR T w v xs) : ∃ a cap, v = .slice a xs.length cap := by
  rcases h with ⟨rfl, a, cap, rfl⟩ | ⟨b, off, cap, us, rfl, _⟩
  · exact ⟨a, cap, rfl⟩
  · exact ⟨_, cap, rfl⟩
theorem slR_below {T : Ty α} (A : T.Law) {W w : World} {v : Value} {xs : List α} (h : SlR T W v xs) (hb : Below W.heap.size W w) : SlR T w v xs := by
  rcases h with h | ⟨b, off, cap, us, h1, h2, h3, h4⟩
  · exact Or.inl h
  · exact Or.inr ⟨b, off, cap, us, h1, h2, Nat.lt_of_lt_of_le h3 hb.size, fun j hj => ⟨fun i hi => (hb.cell (p := ⟨b, off + j * T.n + i, none⟩) h3).trans ((h4 j hj).1 i hi), A.below (h4 j hj).2 hb⟩⟩
theorem slO_reads {e : TypeId} {T : Ty α} (A : T.Law) {w : World} {F : Nat → Prop} {v : Value} {xs : List α} (h : SlO e T w F v xs) : SlR T w v xs := by
  obtain ⟨L, us, Fs, h1, _, h2, _⟩ := h
  have h1' := h1
  rcases h1.2 with ⟨rfl, hn⟩ | ⟨g, cap, cur, rfl, hb, hg, hn, hm, hcs, htake⟩
  · exact Or.inl ⟨List.eq_nil_of_length_eq_zero hn, none, 0, rfl⟩
  · refine Or.inr ⟨g, 0, cap, us, rfl, hn, (Array.getElem?_eq_some_iff.1 hg).1, fun j hj => ⟨fun i hi => ?_, A.reads (h2 j hj).2.1⟩⟩
    have hlt : j * T.n + i < xs.length * T.n := by
      have : (j + 1) * T.n ≤ xs.length * T.n := Nat.mul_le_mul_right _ hj
      rw [Nat.add_mul, Nat.one_mul] at this; omega
    rw [Nat.zero_add, World.ownsRow.cellAt h1' _ hlt]
    exact (h2 j hj).1 i hi
theorem slO_turn {e : TypeId} {T : Ty α} (A : T.Law) {w w' : World} {F G : Nat → Prop} {v : Value} {xs : List α} (h : SlO e T w F v xs) (k : Turn G w w') (hd : ∀ b, F b → ¬ G b) : SlO e T w' F v xs := by
  obtain ⟨L, us, Fs, h1, h2, h3, h4⟩ := h
  exact ⟨L, us, Fs, row_turn h1 k (fun b hb => hd b (h2 b hb)), h2, fun j hj => ⟨(h3 j hj).1, A.turn (h3 j hj).2.1 k (fun b hb => hd b ((h3 j hj).2.2 b hb).1), (h3 j hj).2.2⟩, h4⟩
theorem slO_mono {e : TypeId} {T : Ty α} {w : World} {F F' : Nat → Prop} {v : Value} {xs : List α} (h : SlO e T w F v xs) (hf : ∀ b, F b → F' b) : SlO e T w F' v xs := by
  obtain ⟨L, us, Fs, h1, h2, h3, h4⟩ := h
  exact ⟨L, us, Fs, h1, fun b hb => hf b (h2 b hb), fun j hj => ⟨(h3 j hj).1, (h3 j hj).2.1, fun b hb => ⟨hf b ((h3 j hj).2.2 b hb).1, ((h3 j hj).2.2 b hb).2⟩⟩, h4⟩
theorem slO_lt {e : TypeId} {T : Ty α} (A : T.Law) {w : World} {F : Nat → Prop} {v : Value} {xs : List α} (h : SlO e T w F v xs) : SlO e T w (fun b => F b ∧ b < w.heap.size) v xs := by
  obtain ⟨L, us, Fs, h1, h2, h3, h4⟩ := h
  exact ⟨L, us, fun j b => Fs j b ∧ b < w.heap.size, h1, fun b hb => ⟨h2 b hb, (h1.lt b hb).2⟩, fun j hj => ⟨(h3 j hj).1, A.lt (h3 j hj).2.1, fun b hb => ⟨⟨((h3 j hj).2.2 b hb.1).1, hb.2⟩, ((h3 j hj).2.2 b hb.1).2⟩⟩, fun i j hi hj hij b hb hc => h4 i j hi hj hij b hb.1 hc.1⟩
theorem slO_fresh {e : TypeId} {T : Ty α} (A : T.Law) {w w' : World} {F : Nat → Prop} {v : Value} {xs : List α} (h : SlO e T w F v xs) (hb : Below w.heap.size w w') : SlO e T w' F v xs :=
  slO_turn (G := fun _ => False) A h (turn_below hb) (fun _ _ => not_false)
theorem slO_form {e : TypeId} {T : Ty α} {w : World} {F : Nat → Prop} {v : Value} {xs : List α} (h : SlO e T w F v xs) : (v = .slice none 0 0 ∧ xs = []) ∨ ∃ g cap, v = .slice (some ⟨g, 0, none⟩) xs.length cap ∧ F g ∧ g < w.heap.size := by
  obtain ⟨L, us, Fs, h1, h2, _⟩ := h
  rcases row_form h1 with ⟨e, h0⟩ | ⟨g, cap, e, hg⟩
  · exact Or.inl ⟨e, List.eq_nil_of_length_eq_zero h0⟩
  · exact Or.inr ⟨g, cap, e, h2 g (by rw [e]; rfl), hg⟩
theorem slO_len {e : TypeId} {T : Ty α} {w : World} {F : Nat → Prop} {v : Value} {xs : List α} (h : SlO e T w F v xs) : ∃ a cap, v = .slice a xs.length cap := by
  rcases slO_form h with ⟨e, e'⟩ | ⟨g, cap, e, _⟩
  · exact ⟨none, 0, by rw [e, e']; rfl⟩
  · exact ⟨_, cap, e⟩
theorem zTo_zero (T : Ty α) (xs : List α) : zTo T xs 0 = xs.length := by simp [zTo, sumN_zero]
theorem zTo_le {T : Ty α} {xs : List α} {k : Nat} (hk : k ≤ xs.length) : zTo T xs k ≤ zL T xs := by
  unfold zL zTo; have := sumN_le T.sz hk; omega
theorem zL_len {T : Ty α} {xs : List α} {M : Nat} (hs : zL T xs ≤ M) : xs.length ≤ M := by
  have := zTo_le (T := T) (xs := xs) (Nat.zero_le _); rw [zTo_zero] at this; omega
theorem ndL_le {T : Ty α} (A : T.Law) (hs : T.s ≤ 16) (xs : List α) : ndL T xs ≤ 16 * zL T xs := by
  have := sum_map_le A.nd_le xs
  have h2 : T.s * xs.length ≤ 16 * xs.length := Nat.mul_le_mul_right _ hs
  unfold ndL zL zTo sumN
  rw [List.take_length]
  omega
theorem tSl_law {e : TypeId} {T : Ty α} (A : T.Law) (hs : T.s ≤ 16) : (tSl e T).Law where
  pos := Nat.one_pos
  len := fun {w cs x} h => by obtain ⟨v, rfl, _⟩ := h; rfl
  below := fun {W w cs x} h hb => by obtain ⟨v, e, h⟩ := h; exact ⟨v, e, slR_below A h hb⟩
  reads := fun {w F cs x} h => by obtain ⟨v, e, h⟩ := h; exact ⟨v, e, slO_reads A h⟩
  turn := fun {w w' F G cs x} h k hd => by obtain ⟨v, e, h⟩ := h; exact ⟨v, e, slO_turn A h k hd⟩
  mono := fun {w F F' cs x} h hf => by obtain ⟨v, e, h⟩ := h; exact ⟨v, e, slO_mono h hf⟩
  lt := fun {w F cs x} h => by obtain ⟨v, e, h⟩ := h; exact ⟨v, e, slO_lt A h⟩
  nd_le := fun x => ndL_le A hs x
  nv_le := fun x => ndL_le A hs x
end
/-- New blocks: those since w. -/
def since (w : World) : Nat → Prop := fun b => w.heap.size ≤ b
/-- A value in new memory is answered. -/
def FreshT {α : Type} (T : Ty α) (mk : List Value → Value) (w : World) (x : α) (e : Ending) (w' : World) : Prop := ∃ cs, e = .returned (mk cs) ∧ T.O w' (since w) cs x ∧ Below w.heap.size w w'
def FreshS {α : Type} (t : TypeId) (T : Ty α) (w : World) (xs : List α) (e : Ending) (w' : World) : Prop := ∃ v, e = .returned v ∧ SlO t T w' (since w) v xs ∧ Below w.heap.size w w'
end Go.Proofs.Ythiiaiholcfhhaa
namespace Go.Proofs.Ythiiaiholcfhhaa
open Go.RowKit
set_option linter.unusedVariables false
set_option linter.unusedSimpArgs false
abbrev tIntS : Ty (List Int) := tSl 3 tInt
theorem tIntS_law : tIntS.Law := tSl_law tInt_law (by decide)
theorem slR_ints {w : World} {v : Value} {xs : List Int} (h : SlR tInt w v xs) : Ints w v xs := by
  rcases h with h | ⟨b, off, cap, us, h1, h2, h3, h4⟩
  · exact Or.inl h
  · refine Or.inr ⟨b, off, cap, h1, h2, h3, fun j hj => ?_⟩
    have h5 := (h4 j hj).1 0 (by decide)
    have h6 : us j = [.int .i64 (xs.getD j 0)] := (h4 j hj).2
    have e : off + j * tInt.n + 0 = off + j := by show off + j * 1 + 0 = _; omega
    rw [e, h6] at h5
    exact h5
theorem zL_flat {α : Type} {T : Ty α} (h : ∀ x, T.sz x = 0) (xs : List α) : zL T xs = xs.length := by
  unfold zL zTo sumN
  have : ∀ l : List α, (l.map T.sz).sum = 0 := fun l => by
    induction l with
    | nil => rfl
    | cons x l ih => rw [List.map_cons, List.sum_cons, h x, ih]
  rw [this]; rfl
theorem zL_ints (xs : List Int) : zL tInt xs = xs.length := zL_flat (fun _ => rfl) xs
theorem own_slO {w : World} {F : Nat → Prop} {v : Value} {xs : List Int} {B : Nat} (h : OwnsN w B v xs) (hF : ∀ b, v.ownBlock = some b → F b) : SlO 3 tInt w F v xs := by
  refine ⟨_, fun j => [.int .i64 (xs.getD j 0)], fun _ _ => False, row_low h (Nat.zero_le _), hF, fun j hj => ⟨fun i hi => ?_, rfl, fun b hb => False.elim hb⟩, fun i j _ _ _ b hb => False.elim hb⟩
  have hi0 : i < 1 := hi
  obtain rfl : i = 0 := by omega
  have e : j * tInt.n + 0 = j := by show j * 1 + 0 = _; omega
  rw [e]
  simp [List.getD, hj]
/-- Numbers in new memory, either way. -/
theorem fresh_ints {w w' : World} {v : Value} {xs : List Int} (h : OwnsN w' w.heap.size v xs) : SlO 3 tInt w' (since w) v xs := own_slO h (fun b hb => (h.lt b hb).1)
theorem szIntS_Y (v : Value) (xs : List Int) (k0 : Int) (w : World) (h : SlR tInt w v xs) (hs : ((zL tInt xs : Nat) : Int) ≤ k0) (hk : k0 ≤ 1048576) :
    Calls Try.prog 73 #[v, .int .i64 k0] w fun e w' => e = .returned (.int .i64 (k0 - ((zL tInt xs : Nat) : Int))) ∧ Below w.heap.size w w' := by
  rw [zL_ints] at hs ⊢
  obtain ⟨a, cap, rfl⟩ := slR_len h
  exact (szInt_yes a cap xs.length k0 w hs hk).mono fun e w' g => ⟨g.1, by rw [g.2]; exact Below.refl _ _⟩
theorem szIntS_N (v : Value) (xs : List Int) (k0 : Int) (w : World) (h : SlR tInt w v xs) (hs : k0 < ((zL tInt xs : Nat) : Int)) (hk : k0 ≤ 1048576) (hp : 0 ≤ k0) (ho : tIntS.ok xs) :
    Calls Try.prog 73 #[v, .int .i64 k0] w fun e w' => e = .returned (.int .i64 (-1)) ∧ Below w.heap.size w w' := by
  rw [zL_ints] at hs
  obtain ⟨a, cap, rfl⟩ := slR_len h
  exact (szInt_no a cap xs.length k0 w hs hp ho.1).mono fun e w' g => ⟨g.1, by rw [g.2]; exact Below.refl _ _⟩
theorem toIntS_S (v : Value) (xs : List Int) (w : World) (h : SlR tInt w v xs) (hs : zL tInt xs ≤ 1048576) :
    Calls Try.prog 29 #[v] w (FreshS 3 tInt w xs) := by
  rw [zL_ints] at hs
  refine (toIntS_any v xs w (slR_ints h) hs).mono ?_
  rintro e w' ⟨u, rfl, o, b⟩
  exact ⟨u, rfl, fresh_ints o, b⟩
theorem eqIntS_S (v u : Value) (xs : List Int) (w : World) (h : SlR tInt w v xs) (g : SlR tInt w u xs) (hs : zL tInt xs ≤ 1048576) :
    Calls Try.prog 31 #[v, u] w fun e w' => e = .returned (.bool true) ∧ Below w.heap.size w w' := by
  rw [zL_ints] at hs
  exact eqIntS_same v u xs w (slR_ints h) (slR_ints g) hs
end Go.Proofs.Ythiiaiholcfhhaa
namespace Go.Proofs.Ythiiaiholcfhhaa
open Go.RowKit
set_option linter.unusedVariables false
set_option linter.unusedSimpArgs false
def tRow : Ty (Int × List Int) := tPair tInt tIntS
theorem tRow_law : tRow.Law := tPair_law tInt_law tIntS_law
theorem tRow_O {w : World} {F : Nat → Prop} {cs : List Value} {a0 : Int} {x1 : List Int} (h : tRow.O w F cs (a0, x1)) : ∃ v1, ∃ F1 : Nat → Prop, cs = [.int .i64 a0, v1] ∧ SlO 3 tInt w F1 v1 x1 ∧ (∀ b, F1 b → F b) := by
  obtain ⟨_, _, F0_1, F0_2, rfl, rfl, ⟨v1, rfl, h1⟩, s0_1, s0_2, d0⟩ := h
  exact ⟨v1, F0_2, rfl, h1, fun b h => (s0_2 b h)⟩
theorem tRow_mkO {w : World} {F : Nat → Prop} {a0 : Int} {x1 : List Int} {v1 : Value} {F1 : Nat → Prop} (h1 : SlO 3 tInt w F1 v1 x1) (s1 : ∀ b, F1 b → F b)  : tRow.O w F [.int .i64 a0, v1] (a0, x1) := ⟨[.int .i64 a0], [v1], fun _ => False, F1, rfl, rfl, ⟨_, rfl, h1⟩, (fun b h => (False.elim h)), (fun b h => s1 b h), (fun b h g => (False.elim h))⟩
set_option maxHeartbeats 8000000 in
set_option maxRecDepth 100000 in
theorem szRow_Y (a0 : Int) (v1 : Value) (x1 : List Int) (k0 : Int) (w : World) (h1 : SlR tInt w v1 x1) (hs : ((zL tInt x1 : Nat) : Int) ≤ k0) (hk : k0 ≤ 1048576) :
    Calls Try.prog 41 #[.agg #[.int .i64 a0, v1], .int .i64 k0] w fun e w' => e = .returned (.int .i64 (k0 - ((zL tInt x1 : Nat) : Int))) ∧ Below w.heap.size w w' := by
  have H1 := Lib.hid h1
  clear h1
  have HZ1 : Hid (((zL tInt x1 : Nat) : Int) ≤ k0) := Lib.hid (by omega)
  have HK1 : Hid (k0 ≤ 1048576) := Lib.hid (by omega)
  have hn1 : ¬ k0 - ((zL tInt x1 : Nat) : Int) < 0 := by omega
  clear hs hk
  have hb : Below w.heap.size w (w.alloc (.cells #[.int .i64 a0, v1] 24)) := (Below.refl _ w).alloc (Nat.le_refl _) _
  have g0 : (w.alloc (.cells #[.int .i64 a0, v1] 24)).heap[w.heap.size]? = some (.cells #[.int .i64 a0, v1] 24 (0, 0)) := heap_alloc_new w _
  have hz0 : w.heap.size < (w.alloc (.cells #[.int .i64 a0, v1] 24)).heap.size := by simp
  go_enter Try.func41, Try.ntmps41
  go_wp2_with fail
  generalize (w.alloc (.cells #[.int .i64 a0, v1] 24)) = W at *
  refine (szIntS_Y v1 x1 (k0) W (slR_below tInt_law H1.out hb) HZ1.out HK1.out).mono ?_
  rintro e W1 ⟨rfl, b1⟩
  replace g0 := (b1.block w.heap.size hz0).trans g0
  replace hz0 := Nat.lt_of_lt_of_le hz0 b1.size
  replace hb := hb.trans (b1.mono hb.size)
  clear b1
  go_wp2
  go_ret
  exact ⟨rfl, hb⟩
set_option maxHeartbeats 8000000 in
set_option maxRecDepth 100000 in
theorem szRow_N (a0 : Int) (v1 : Value) (x1 : List Int) (k0 : Int) (w : World) (h1 : SlR tInt w v1 x1) (hs : k0 < ((zL tInt x1 : Nat) : Int)) (hk : k0 ≤ 1048576) (hp : 0 ≤ k0) (o1 : tIntS.ok x1) :
    Calls Try.prog 41 #[.agg #[.int .i64 a0, v1], .int .i64 k0] w fun e w' => e = .returned (.int .i64 (-1)) ∧ Below w.heap.size w w' := by
  have H1 := Lib.hid h1
  clear h1
  have HO1 := Lib.hid o1
  clear o1
  have HZ1 : Hid (k0 < ((zL tInt x1 : Nat) : Int)) := Lib.hid (by omega)
  have HP1 : Hid (0 ≤ k0) := Lib.hid (by omega)
  have HK1 : Hid (k0 ≤ 1048576) := Lib.hid (by omega)
  clear hs hk
  clear hp
  have hb : Below w.heap.size w (w.alloc (.cells #[.int .i64 a0, v1] 24)) := (Below.refl _ w).alloc (Nat.le_refl _) _
  have g0 : (w.alloc (.cells #[.int .i64 a0, v1] 24)).heap[w.heap.size]? = some (.cells #[.int .i64 a0, v1] 24 (0, 0)) := heap_alloc_new w _
  have hz0 : w.heap.size < (w.alloc (.cells #[.int .i64 a0, v1] 24)).heap.size := by simp
  go_enter Try.func41, Try.ntmps41
  go_wp2_with fail
  generalize (w.alloc (.cells #[.int .i64 a0, v1] 24)) = W at *
  refine (szIntS_N v1 x1 (k0) W (slR_below tInt_law H1.out hb) HZ1.out HK1.out HP1.out HO1.out).mono ?_
  rintro e W1 ⟨rfl, b1⟩
  replace g0 := (b1.block w.heap.size hz0).trans g0
  replace hz0 := Nat.lt_of_lt_of_le hz0 b1.size
  replace hb := hb.trans (b1.mono hb.size)
  clear b1
  go_wp2
  go_ret
  exact ⟨rfl, hb⟩
set_option maxHeartbeats 8000000 in
set_option maxRecDepth 100000 in
theorem toRow_T (a0 : Int) (v1 : Value) (x1 : List Int) (w : World) (h1 : SlR tInt w v1 x1) (s1 : zL tInt x1 ≤ 1048576) :
    Calls Try.prog 44 #[.agg #[.int .i64 a0, v1]] w (FreshT tRow (fun cs => .agg cs.toArray) w (a0, x1)) := by
  have H1 := Lib.hid h1
  clear h1
  have S1 := Lib.hid s1
  clear s1
  go_enter Try.func44, Try.ntmps44
  go_wp2_with fail
  have hb : Below w.heap.size w (((w.alloc (.cells #[.int .i64 a0, v1] 24)).alloc (.cells #[.int .i64 0, .slice none 0 0] 29)).alloc (.cells #[.int .i64 a0, .slice none 0 0] 29)) := (((Below.refl _ w).alloc (Nat.le_refl _) _).alloc (by simp) _).alloc (by simp; omega) _
  have g2 : (((w.alloc (.cells #[.int .i64 a0, v1] 24)).alloc (.cells #[.int .i64 0, .slice none 0 0] 29)).alloc (.cells #[.int .i64 a0, .slice none 0 0] 29)).heap[w.heap.size + 1 + 1]? = some (.cells #[.int .i64 a0, .slice none 0 0] 29 (0, 0)) := by
    have := heap_alloc_new ((w.alloc (.cells #[.int .i64 a0, v1] 24)).alloc (.cells #[.int .i64 0, .slice none 0 0] 29)) (.cells #[.int .i64 a0, .slice none 0 0] 29)
    simpa only [World.size_alloc] using this
  have g1 : (((w.alloc (.cells #[.int .i64 a0, v1] 24)).alloc (.cells #[.int .i64 0, .slice none 0 0] 29)).alloc (.cells #[.int .i64 a0, .slice none 0 0] 29)).heap[w.heap.size + 1]? = some (.cells #[.int .i64 0, .slice none 0 0] 29 (0, 0)) := by
    have := heap_alloc_new (w.alloc (.cells #[.int .i64 a0, v1] 24)) (.cells #[.int .i64 0, .slice none 0 0] 29)
    rw [Below.heap_alloc _ _ _ (by simp)]
    simpa only [World.size_alloc] using this
  have g0 : (((w.alloc (.cells #[.int .i64 a0, v1] 24)).alloc (.cells #[.int .i64 0, .slice none 0 0] 29)).alloc (.cells #[.int .i64 a0, .slice none 0 0] 29)).heap[w.heap.size]? = some (.cells #[.int .i64 a0, v1] 24 (0, 0)) := by
    rw [Below.heap_alloc _ _ _ (by simp; omega), Below.heap_alloc _ _ _ (by simp)]
    exact heap_alloc_new w _
  have hz : w.heap.size + 2 < (((w.alloc (.cells #[.int .i64 a0, v1] 24)).alloc (.cells #[.int .i64 0, .slice none 0 0] 29)).alloc (.cells #[.int .i64 a0, .slice none 0 0] 29)).heap.size := by simp [World.size_alloc]
  generalize (((w.alloc (.cells #[.int .i64 a0, v1] 24)).alloc (.cells #[.int .i64 0, .slice none 0 0] 29)).alloc (.cells #[.int .i64 a0, .slice none 0 0] 29)) = W at *
  refine (toIntS_S v1 x1 W (slR_below tInt_law H1.out hb) S1.out).mono ?_
  rintro e w1 ⟨u1, rfl, o1, b1⟩
  obtain ⟨ua1, uc1, rfl⟩ := slO_len o1
  replace o1 := slO_mono (slO_lt tInt_law o1) (F' := fun b => W.heap.size ≤ b ∧ b < w1.heap.size) (fun b h => h)
  replace g0 := (b1.block _ (by omega)).trans g0
  replace g1 := (b1.block _ (by omega)).trans g1
  replace g2 := (b1.block _ (by omega)).trans g2
  have zz1 := b1.size
  replace hb := hb.trans (b1.mono (by omega))
  clear b1
  have c2_0 := (cell_of_row w1 _ 0 _ _ _ g2).trans (show _ = some (Value.int .i64 a0) from rfl)
  have f2_0 := frozen_of_row w1 _ 0 _ _ g2
  have c2_1 := (cell_of_row w1 _ 1 _ _ _ g2).trans (show _ = some (Value.slice none 0 0) from rfl)
  have f2_1 := frozen_of_row w1 _ 1 _ _ g2
  have ne1 : ¬ w.heap.size = w.heap.size + 1 + 1 := by omega
  have ne2 : ¬ w.heap.size + 1 = w.heap.size + 1 + 1 := by omega
  have ne3 : ¬ w.heap.size + 1 + 1 = w.heap.size + 1 := by omega
  have c1_0 := (cell_of_row w1 _ 0 _ _ _ g1).trans (show _ = some (Value.int .i64 0) from rfl)
  have f1_0 := frozen_of_row w1 _ 0 _ _ g1
  have c1_1 := (cell_of_row w1 _ 1 _ _ _ g1).trans (show _ = some (Value.slice none 0 0) from rfl)
  have f1_1 := frozen_of_row w1 _ 1 _ _ g1
  go_wp2
  clear c2_0 f2_0 c2_1 f2_1 ne1 ne2 ne3 c1_0 f1_0 c1_1 f1_1
  have hw : Turn (fun b => b = w.heap.size + 1 ∨ b = w.heap.size + 1 + 1) w1 (((w1.setCell ⟨w.heap.size + 1 + 1, 1, none⟩ (.slice ua1 x1.length uc1)).setCell ⟨w.heap.size + 1, 0, none⟩ (.int .i64 a0)).setCell ⟨w.heap.size + 1, 1, none⟩ (.slice ua1 x1.length uc1)) := by
    first | exact ((((Turn.refl _ _).trans (turn_set (g := w.heap.size + 1 + 1) (j := 1) (u := .slice ua1 x1.length uc1) (Or.inr rfl))).trans (turn_set (g := w.heap.size + 1) (j := 0) (u := .int .i64 a0) (Or.inl rfl))).trans (turn_set (g := w.heap.size + 1) (j := 1) (u := .slice ua1 x1.length uc1) (Or.inl rfl))) | skip
  have r := (heap_setCell_same _ (w.heap.size + 1) 1 _ _ (.slice ua1 x1.length uc1) (heap_setCell_same _ (w.heap.size + 1) 0 _ _ (.int .i64 a0) ((heap_setCell_other _ ⟨w.heap.size + 1 + 1, 1, none⟩ (w.heap.size + 1) (.slice ua1 x1.length uc1) (by simp)).trans g1)))
  have e0 := cell_of_row _ _ 0 _ _ _ r
  have e1 := cell_of_row _ _ 1 _ _ _ r
  simp at e0 e1
  replace o1 := slO_turn tInt_law o1 hw (fun b h1 h2 => by have := h1.1; omega)
  replace hb := below_turn hb hw (fun b h => by omega) (by omega)
  refine bodyPost_ret (v := .agg #[.int .i64 a0, .slice ua1 x1.length uc1]) ?_ rfl ?_
  · simp [results, Try.f44, go_sem, e0, e1]
  · exact ⟨[.int .i64 a0, .slice ua1 x1.length uc1], rfl, tRow_mkO o1 (fun b h => by show w.heap.size ≤ b; have := h.1; omega) , hb⟩
set_option maxHeartbeats 8000000 in
set_option maxRecDepth 100000 in
theorem eqRow_T (a0 : Int) (v1 : Value) (x1 : List Int) (u1 : Value) (w : World) (h1 : SlR tInt w v1 x1) (g1 : SlR tInt w u1 x1) (s1 : zL tInt x1 ≤ 1048576) :
    Calls Try.prog 46 #[.agg #[.int .i64 a0, v1], .agg #[.int .i64 a0, u1]] w fun e w' => e = .returned (.bool true) ∧ Below w.heap.size w w' := by
  have H1 := Lib.hid h1; have G1 := Lib.hid g1; have S1 := Lib.hid s1
  clear h1 g1 s1
  have e0 : (a0 != a0) = false := by simp
  go_enter Try.func46, Try.ntmps46
  go_wp2_with fail
  have hb : Below w.heap.size w ((w.alloc (.cells #[.int .i64 a0, v1] 29)).alloc (.cells #[.int .i64 a0, u1] 29)) := ((Below.refl _ w).alloc (Nat.le_refl _) _).alloc (by simp) _
  have g1 : ((w.alloc (.cells #[.int .i64 a0, v1] 29)).alloc (.cells #[.int .i64 a0, u1] 29)).heap[w.heap.size + 1]? = some (.cells #[.int .i64 a0, u1] 29 (0, 0)) := by
    have := heap_alloc_new (w.alloc (.cells #[.int .i64 a0, v1] 29)) (.cells #[.int .i64 a0, u1] 29)
    simpa only [World.size_alloc] using this
  have g0 : ((w.alloc (.cells #[.int .i64 a0, v1] 29)).alloc (.cells #[.int .i64 a0, u1] 29)).heap[w.heap.size]? = some (.cells #[.int .i64 a0, v1] 29 (0, 0)) := by
    rw [Below.heap_alloc _ _ _ (by simp)]
    exact heap_alloc_new w _
  have hz : w.heap.size + 1 < ((w.alloc (.cells #[.int .i64 a0, v1] 29)).alloc (.cells #[.int .i64 a0, u1] 29)).heap.size := by simp [World.size_alloc]
  generalize ((w.alloc (.cells #[.int .i64 a0, v1] 29)).alloc (.cells #[.int .i64 a0, u1] 29)) = W at *
  refine (eqIntS_S v1 u1 x1 W (slR_below tInt_law H1.out hb) (slR_below tInt_law G1.out hb) S1.out).mono ?_
  rintro e w1 ⟨rfl, b1⟩
  replace g0 := (b1.block _ (by omega)).trans g0
  replace g1 := (b1.block _ (by omega)).trans g1
  have zz0 := b1.size
  replace hb := hb.trans (b1.mono (by omega))
  clear b1
  go_wp2
  go_ret
  exact ⟨rfl, hb⟩
end Go.Proofs.Ythiiaiholcfhhaa
namespace Go.Proofs.Ythiiaiholcfhhaa
open Go.RowKit
set_option linter.unusedVariables false
set_option linter.unusedSimpArgs false
def tUpdate : Ty (Int × (Int × List Int) × Int × Int) := tPair tInt (tPair tRow (tPair tInt tInt))
theorem tUpdate_law : tUpdate.Law := tPair_law tInt_law (tPair_law tRow_law (tPair_law tInt_law tInt_law))
theorem tUpdate_R {w : World} {cs : List Value} {a0 : Int} {a1 : Int} {x2 : List Int} {a3 : Int} {a4 : Int} (h : tUpdate.R w cs (a0, (a1, x2), a3, a4)) : ∃ v2, cs = [.int .i64 a0, .int .i64 a1, v2, .int .i64 a3, .int .i64 a4] ∧ SlR tInt w v2 x2 := by
  obtain ⟨_, _, rfl, rfl, ⟨_, _, rfl, ⟨_, _, rfl, rfl, ⟨v2, rfl, h2⟩⟩, ⟨_, _, rfl, rfl, rfl⟩⟩⟩ := h
  exact ⟨_, rfl, h2⟩
theorem tUpdate_O {w : World} {F : Nat → Prop} {cs : List Value} {a0 : Int} {a1 : Int} {x2 : List Int} {a3 : Int} {a4 : Int} (h : tUpdate.O w F cs (a0, (a1, x2), a3, a4)) : ∃ v2, ∃ F2 : Nat → Prop, cs = [.int .i64 a0, .int .i64 a1, v2, .int .i64 a3, .int .i64 a4] ∧ SlO 3 tInt w F2 v2 x2 ∧ (∀ b, F2 b → F b) := by
  obtain ⟨_, _, F0_1, F0_2, rfl, rfl, ⟨_, _, F1_1, F1_2, rfl, ⟨_, _, F2_1, F2_2, rfl, rfl, ⟨v2, rfl, h2⟩, s2_1, s2_2, d2⟩, ⟨_, _, F3_1, F3_2, rfl, rfl, rfl, s3_1, s3_2, d3⟩, s1_1, s1_2, d1⟩, s0_1, s0_2, d0⟩ := h
  exact ⟨v2, F2_2, rfl, h2, fun b h => (s0_2 b (s1_1 b (s2_2 b h)))⟩
theorem tUpdate_mkO {w : World} {F : Nat → Prop} {a0 : Int} {a1 : Int} {x2 : List Int} {a3 : Int} {a4 : Int} {v2 : Value} {F2 : Nat → Prop} (h2 : SlO 3 tInt w F2 v2 x2) (s2 : ∀ b, F2 b → F b)  : tUpdate.O w F [.int .i64 a0, .int .i64 a1, v2, .int .i64 a3, .int .i64 a4] (a0, (a1, x2), a3, a4) := ⟨[.int .i64 a0], [.int .i64 a1, v2, .int .i64 a3, .int .i64 a4], fun _ => False, F2, rfl, rfl, ⟨[.int .i64 a1, v2], [.int .i64 a3, .int .i64 a4], F2, fun _ => False, rfl, ⟨[.int .i64 a1], [v2], fun _ => False, F2, rfl, rfl, ⟨_, rfl, h2⟩, (fun b h => (False.elim h)), (fun b h => h), (fun b h g => (False.elim h))⟩, ⟨[.int .i64 a3], [.int .i64 a4], fun _ => False, fun _ => False, rfl, rfl, rfl, (fun b h => (False.elim h)), (fun b h => (False.elim h)), (fun b h g => (False.elim h))⟩, (fun b h => h), (fun b h => (False.elim h)), (fun b h g => (False.elim g))⟩, (fun b h => (False.elim h)), (fun b h => s2 b h), (fun b h g => (False.elim h))⟩
set_option maxHeartbeats 8000000 in
set_option maxRecDepth 100000 in
theorem szUpdate_Y (a0 a1 a3 a4 : Int) (v2 : Value) (x2 : List Int) (k0 : Int) (w : World) (h2 : SlR tInt w v2 x2) (hs : ((zL tInt x2 : Nat) : Int) ≤ k0) (hk : k0 ≤ 1048576) :
    Calls Try.prog 9 #[.agg #[.int .i64 a0, .int .i64 a1, v2, .int .i64 a3, .int .i64 a4], .int .i64 k0] w fun e w' => e = .returned (.int .i64 (k0 - ((zL tInt x2 : Nat) : Int))) ∧ Below w.heap.size w w' := by
  have H2 := Lib.hid h2
  clear h2
  have HZ1 : Hid (((zL tInt x2 : Nat) : Int) ≤ k0) := Lib.hid (by omega)
  have HK1 : Hid (k0 ≤ 1048576) := Lib.hid (by omega)
  have hn1 : ¬ k0 - ((zL tInt x2 : Nat) : Int) < 0 := by omega
  clear hs hk
  have hb : Below w.heap.size w (w.alloc (.cells #[.int .i64 a0, .int .i64 a1, v2, .int .i64 a3, .int .i64 a4] 26)) := (Below.refl _ w).alloc (Nat.le_refl _) _
  have g0 : (w.alloc (.cells #[.int .i64 a0, .int .i64 a1, v2, .int .i64 a3, .int .i64 a4] 26)).heap[w.heap.size]? = some (.cells #[.int .i64 a0, .int .i64 a1, v2, .int .i64 a3, .int .i64 a4] 26 (0, 0)) := heap_alloc_new w _
  have hz0 : w.heap.size < (w.alloc (.cells #[.int .i64 a0, .int .i64 a1, v2, .int .i64 a3, .int .i64 a4] 26)).heap.size := by simp
  go_enter Try.func9, Try.ntmps9
  go_wp2_with fail
  generalize (w.alloc (.cells #[.int .i64 a0, .int .i64 a1, v2, .int .i64 a3, .int .i64 a4] 26)) = W at *
  refine (szRow_Y a1 v2 x2 (k0) W (slR_below tInt_law H2.out hb) HZ1.out HK1.out).mono ?_
  rintro e W1 ⟨rfl, b1⟩
  replace g0 := (b1.block w.heap.size hz0).trans g0
  replace hz0 := Nat.lt_of_lt_of_le hz0 b1.size
  replace hb := hb.trans (b1.mono hb.size)
  clear b1
  go_wp2
  go_ret
  exact ⟨rfl, hb⟩
set_option maxHeartbeats 8000000 in
set_option maxRecDepth 100000 in
theorem szUpdate_N (a0 a1 a3 a4 : Int) (v2 : Value) (x2 : List Int) (k0 : Int) (w : World) (h2 : SlR tInt w v2 x2) (hs : k0 < ((zL tInt x2 : Nat) : Int)) (hk : k0 ≤ 1048576) (hp : 0 ≤ k0) (o2 : tIntS.ok x2) :
    Calls Try.prog 9 #[.agg #[.int .i64 a0, .int .i64 a1, v2, .int .i64 a3, .int .i64 a4], .int .i64 k0] w fun e w' => e = .returned (.int .i64 (-1)) ∧ Below w.heap.size w w' := by
  have H2 := Lib.hid h2
  clear h2
  have HO2 := Lib.hid o2
  clear o2
  have HZ1 : Hid (k0 < ((zL tInt x2 : Nat) : Int)) := Lib.hid (by omega)
  have HP1 : Hid (0 ≤ k0) := Lib.hid (by omega)
  have HK1 : Hid (k0 ≤ 1048576) := Lib.hid (by omega)
  clear hs hk
  clear hp
  have hb : Below w.heap.size w (w.alloc (.cells #[.int .i64 a0, .int .i64 a1, v2, .int .i64 a3, .int .i64 a4] 26)) := (Below.refl _ w).alloc (Nat.le_refl _) _
  have g0 : (w.alloc (.cells #[.int .i64 a0, .int .i64 a1, v2, .int .i64 a3, .int .i64 a4] 26)).heap[w.heap.size]? = some (.cells #[.int .i64 a0, .int .i64 a1, v2, .int .i64 a3, .int .i64 a4] 26 (0, 0)) := heap_alloc_new w _
  have hz0 : w.heap.size < (w.alloc (.cells #[.int .i64 a0, .int .i64 a1, v2, .int .i64 a3, .int .i64 a4] 26)).heap.size := by simp
  go_enter Try.func9, Try.ntmps9
  go_wp2_with fail
  generalize (w.alloc (.cells #[.int .i64 a0, .int .i64 a1, v2, .int .i64 a3, .int .i64 a4] 26)) = W at *
  refine (szRow_N a1 v2 x2 (k0) W (slR_below tInt_law H2.out hb) HZ1.out HK1.out HP1.out HO2.out).mono ?_
  rintro e W1 ⟨rfl, b1⟩
  replace g0 := (b1.block w.heap.size hz0).trans g0
  replace hz0 := Nat.lt_of_lt_of_le hz0 b1.size
  replace hb := hb.trans (b1.mono hb.size)
  clear b1
  go_wp2
  go_ret
  exact ⟨rfl, hb⟩
set_option maxHeartbeats 8000000 in
set_option maxRecDepth 100000 in
theorem toUpdate_T (a0 a1 a3 a4 : Int) (v2 : Value) (x2 : List Int) (w : World) (h2 : SlR tInt w v2 x2) (s2 : zL tInt x2 ≤ 1048576) :
    Calls Try.prog 11 #[.agg #[.int .i64 a0, .int .i64 a1, v2, .int .i64 a3, .int .i64 a4]] w (FreshT tUpdate (fun cs => .agg cs.toArray) w (a0, (a1, x2), a3, a4)) := by
  have H2 := Lib.hid h2
  clear h2
  have S2 := Lib.hid s2
  clear s2
  go_enter Try.func11, Try.ntmps11
  go_wp2_with fail
  have hb : Below w.heap.size w (((w.alloc (.cells #[.int .i64 a0, .int .i64 a1, v2, .int .i64 a3, .int .i64 a4] 26)).alloc (.cells #[.int .i64 0, .int .i64 0, .slice none 0 0, .int .i64 0, .int .i64 0] 31)).alloc (.cells #[.int .i64 a0, .int .i64 0, .slice none 0 0, .int .i64 0, .int .i64 0] 31)) := (((Below.refl _ w).alloc (Nat.le_refl _) _).alloc (by simp) _).alloc (by simp; omega) _
  have g2 : (((w.alloc (.cells #[.int .i64 a0, .int .i64 a1, v2, .int .i64 a3, .int .i64 a4] 26)).alloc (.cells #[.int .i64 0, .int .i64 0, .slice none 0 0, .int .i64 0, .int .i64 0] 31)).alloc (.cells #[.int .i64 a0, .int .i64 0, .slice none 0 0, .int .i64 0, .int .i64 0] 31)).heap[w.heap.size + 1 + 1]? = some (.cells #[.int .i64 a0, .int .i64 0, .slice none 0 0, .int .i64 0, .int .i64 0] 31 (0, 0)) := by
    have := heap_alloc_new ((w.alloc (.cells #[.int .i64 a0, .int .i64 a1, v2, .int .i64 a3, .int .i64 a4] 26)).alloc (.cells #[.int .i64 0, .int .i64 0, .slice none 0 0, .int .i64 0, .int .i64 0] 31)) (.cells #[.int .i64 a0, .int .i64 0, .slice none 0 0, .int .i64 0, .int .i64 0] 31)
    simpa only [World.size_alloc] using this
  have g1 : (((w.alloc (.cells #[.int .i64 a0, .int .i64 a1, v2, .int .i64 a3, .int .i64 a4] 26)).alloc (.cells #[.int .i64 0, .int .i64 0, .slice none 0 0, .int .i64 0, .int .i64 0] 31)).alloc (.cells #[.int .i64 a0, .int .i64 0, .slice none 0 0, .int .i64 0, .int .i64 0] 31)).heap[w.heap.size + 1]? = some (.cells #[.int .i64 0, .int .i64 0, .slice none 0 0, .int .i64 0, .int .i64 0] 31 (0, 0)) := by
    have := heap_alloc_new (w.alloc (.cells #[.int .i64 a0, .int .i64 a1, v2, .int .i64 a3, .int .i64 a4] 26)) (.cells #[.int .i64 0, .int .i64 0, .slice none 0 0, .int .i64 0, .int .i64 0] 31)
    rw [Below.heap_alloc _ _ _ (by simp)]
    simpa only [World.size_alloc] using this
  have g0 : (((w.alloc (.cells #[.int .i64 a0, .int .i64 a1, v2, .int .i64 a3, .int .i64 a4] 26)).alloc (.cells #[.int .i64 0, .int .i64 0, .slice none 0 0, .int .i64 0, .int .i64 0] 31)).alloc (.cells #[.int .i64 a0, .int .i64 0, .slice none 0 0, .int .i64 0, .int .i64 0] 31)).heap[w.heap.size]? = some (.cells #[.int .i64 a0, .int .i64 a1, v2, .int .i64 a3, .int .i64 a4] 26 (0, 0)) := by
    rw [Below.heap_alloc _ _ _ (by simp; omega), Below.heap_alloc _ _ _ (by simp)]
    exact heap_alloc_new w _
  have hz : w.heap.size + 2 < (((w.alloc (.cells #[.int .i64 a0, .int .i64 a1, v2, .int .i64 a3, .int .i64 a4] 26)).alloc (.cells #[.int .i64 0, .int .i64 0, .slice none 0 0, .int .i64 0, .int .i64 0] 31)).alloc (.cells #[.int .i64 a0, .int .i64 0, .slice none 0 0, .int .i64 0, .int .i64 0] 31)).heap.size := by simp [World.size_alloc]
  generalize (((w.alloc (.cells #[.int .i64 a0, .int .i64 a1, v2, .int .i64 a3, .int .i64 a4] 26)).alloc (.cells #[.int .i64 0, .int .i64 0, .slice none 0 0, .int .i64 0, .int .i64 0] 31)).alloc (.cells #[.int .i64 a0, .int .i64 0, .slice none 0 0, .int .i64 0, .int .i64 0] 31)) = W at *
  refine (toRow_T a1 v2 x2 W (slR_below tInt_law H2.out hb) S2.out).mono ?_
  rintro e w1 ⟨cs, rfl, ow, b1⟩
  replace ow := tRow_law.mono (tRow_law.lt ow) (F' := fun b => W.heap.size ≤ b ∧ b < w1.heap.size) (fun b h => h)
  obtain ⟨u2, F2, rfl, o2, q2⟩ := tRow_O ow
  obtain ⟨ua2, uc2, rfl⟩ := slO_len o2
  replace g0 := (b1.block _ (by omega)).trans g0
  replace g1 := (b1.block _ (by omega)).trans g1
  replace g2 := (b1.block _ (by omega)).trans g2
  have zz1 := b1.size
  replace hb := hb.trans (b1.mono (by omega))
  clear b1
  have c2_0 := (cell_of_row w1 _ 0 _ _ _ g2).trans (show _ = some (Value.int .i64 a0) from rfl)
  have f2_0 := frozen_of_row w1 _ 0 _ _ g2
  have c2_1 := (cell_of_row w1 _ 1 _ _ _ g2).trans (show _ = some (Value.int .i64 0) from rfl)
  have f2_1 := frozen_of_row w1 _ 1 _ _ g2
  have c2_2 := (cell_of_row w1 _ 2 _ _ _ g2).trans (show _ = some (Value.slice none 0 0) from rfl)
  have f2_2 := frozen_of_row w1 _ 2 _ _ g2
  have c2_3 := (cell_of_row w1 _ 3 _ _ _ g2).trans (show _ = some (Value.int .i64 0) from rfl)
  have f2_3 := frozen_of_row w1 _ 3 _ _ g2
  have c2_4 := (cell_of_row w1 _ 4 _ _ _ g2).trans (show _ = some (Value.int .i64 0) from rfl)
  have f2_4 := frozen_of_row w1 _ 4 _ _ g2
  have ne1 : ¬ w.heap.size = w.heap.size + 1 + 1 := by omega
  have ne2 : ¬ w.heap.size + 1 = w.heap.size + 1 + 1 := by omega
  have ne3 : ¬ w.heap.size + 1 + 1 = w.heap.size + 1 := by omega
  have c0_3 := (cell_of_row w1 _ 3 _ _ _ g0).trans (show _ = some (Value.int .i64 a3) from rfl)
  have c0_4 := (cell_of_row w1 _ 4 _ _ _ g0).trans (show _ = some (Value.int .i64 a4) from rfl)
  have c1_0 := (cell_of_row w1 _ 0 _ _ _ g1).trans (show _ = some (Value.int .i64 0) from rfl)
  have f1_0 := frozen_of_row w1 _ 0 _ _ g1
  have c1_1 := (cell_of_row w1 _ 1 _ _ _ g1).trans (show _ = some (Value.int .i64 0) from rfl)
  have f1_1 := frozen_of_row w1 _ 1 _ _ g1
  have c1_2 := (cell_of_row w1 _ 2 _ _ _ g1).trans (show _ = some (Value.slice none 0 0) from rfl)
  have f1_2 := frozen_of_row w1 _ 2 _ _ g1
  have c1_3 := (cell_of_row w1 _ 3 _ _ _ g1).trans (show _ = some (Value.int .i64 0) from rfl)
  have f1_3 := frozen_of_row w1 _ 3 _ _ g1
  have c1_4 := (cell_of_row w1 _ 4 _ _ _ g1).trans (show _ = some (Value.int .i64 0) from rfl)
  have f1_4 := frozen_of_row w1 _ 4 _ _ g1
  have l0_3 : ((w1.setCell ⟨w.heap.size + 1 + 1, 1, none⟩ (.int .i64 a1)).setCell ⟨w.heap.size + 1 + 1, 2, none⟩ (.slice ua2 x2.length uc2)).cell? ⟨w.heap.size, 3, none⟩ = some (Value.int .i64 a3) := by
    have m : ((w1.setCell ⟨w.heap.size + 1 + 1, 1, none⟩ (.int .i64 a1)).setCell ⟨w.heap.size + 1 + 1, 2, none⟩ (.slice ua2 x2.length uc2)).heap[w.heap.size]? = some (.cells #[.int .i64 a0, .int .i64 a1, v2, .int .i64 a3, .int .i64 a4] 26 (0, 0)) := by
      repeat rw [heap_setCell_other _ _ _ _ (by simp <;> omega)]
      exact g0
    exact (cell_of_row _ _ 3 _ _ _ m).trans rfl
  have l0_4 : (((w1.setCell ⟨w.heap.size + 1 + 1, 1, none⟩ (.int .i64 a1)).setCell ⟨w.heap.size + 1 + 1, 2, none⟩ (.slice ua2 x2.length uc2)).setCell ⟨w.heap.size + 1 + 1, 3, none⟩ (.int .i64 a3)).cell? ⟨w.heap.size, 4, none⟩ = some (Value.int .i64 a4) := by
    have m : (((w1.setCell ⟨w.heap.size + 1 + 1, 1, none⟩ (.int .i64 a1)).setCell ⟨w.heap.size + 1 + 1, 2, none⟩ (.slice ua2 x2.length uc2)).setCell ⟨w.heap.size + 1 + 1, 3, none⟩ (.int .i64 a3)).heap[w.heap.size]? = some (.cells #[.int .i64 a0, .int .i64 a1, v2, .int .i64 a3, .int .i64 a4] 26 (0, 0)) := by
      repeat rw [heap_setCell_other _ _ _ _ (by simp <;> omega)]
      exact g0
    exact (cell_of_row _ _ 4 _ _ _ m).trans rfl
  go_wp2
  clear c2_0 f2_0 c2_1 f2_1 c2_2 f2_2 c2_3 f2_3 c2_4 f2_4 ne1 ne2 ne3 c0_3 c0_4 c1_0 f1_0 c1_1 f1_1 c1_2 f1_2 c1_3 f1_3 c1_4 f1_4 l0_3 l0_4
  have hw : Turn (fun b => b = w.heap.size + 1 ∨ b = w.heap.size + 1 + 1) w1 (((((((((w1.setCell ⟨w.heap.size + 1 + 1, 1, none⟩ (.int .i64 a1)).setCell ⟨w.heap.size + 1 + 1, 2, none⟩ (.slice ua2 x2.length uc2)).setCell ⟨w.heap.size + 1 + 1, 3, none⟩ (.int .i64 a3)).setCell ⟨w.heap.size + 1 + 1, 4, none⟩ (.int .i64 a4)).setCell ⟨w.heap.size + 1, 0, none⟩ (.int .i64 a0)).setCell ⟨w.heap.size + 1, 1, none⟩ (.int .i64 a1)).setCell ⟨w.heap.size + 1, 2, none⟩ (.slice ua2 x2.length uc2)).setCell ⟨w.heap.size + 1, 3, none⟩ (.int .i64 a3)).setCell ⟨w.heap.size + 1, 4, none⟩ (.int .i64 a4)) := by
    first | exact ((((((((((Turn.refl _ _).trans (turn_set (g := w.heap.size + 1 + 1) (j := 1) (u := .int .i64 a1) (Or.inr rfl))).trans (turn_set (g := w.heap.size + 1 + 1) (j := 2) (u := .slice ua2 x2.length uc2) (Or.inr rfl))).trans (turn_set (g := w.heap.size + 1 + 1) (j := 3) (u := .int .i64 a3) (Or.inr rfl))).trans (turn_set (g := w.heap.size + 1 + 1) (j := 4) (u := .int .i64 a4) (Or.inr rfl))).trans (turn_set (g := w.heap.size + 1) (j := 0) (u := .int .i64 a0) (Or.inl rfl))).trans (turn_set (g := w.heap.size + 1) (j := 1) (u := .int .i64 a1) (Or.inl rfl))).trans (turn_set (g := w.heap.size + 1) (j := 2) (u := .slice ua2 x2.length uc2) (Or.inl rfl))).trans (turn_set (g := w.heap.size + 1) (j := 3) (u := .int .i64 a3) (Or.inl rfl))).trans (turn_set (g := w.heap.size + 1) (j := 4) (u := .int .i64 a4) (Or.inl rfl))) | skip
  have r := (heap_setCell_same _ (w.heap.size + 1) 4 _ _ (.int .i64 a4) (heap_setCell_same _ (w.heap.size + 1) 3 _ _ (.int .i64 a3) (heap_setCell_same _ (w.heap.size + 1) 2 _ _ (.slice ua2 x2.length uc2) (heap_setCell_same _ (w.heap.size + 1) 1 _ _ (.int .i64 a1) (heap_setCell_same _ (w.heap.size + 1) 0 _ _ (.int .i64 a0) ((heap_setCell_other _ ⟨w.heap.size + 1 + 1, 4, none⟩ (w.heap.size + 1) (.int .i64 a4) (by simp)).trans ((heap_setCell_other _ ⟨w.heap.size + 1 + 1, 3, none⟩ (w.heap.size + 1) (.int .i64 a3) (by simp)).trans ((heap_setCell_other _ ⟨w.heap.size + 1 + 1, 2, none⟩ (w.heap.size + 1) (.slice ua2 x2.length uc2) (by simp)).trans ((heap_setCell_other _ ⟨w.heap.size + 1 + 1, 1, none⟩ (w.heap.size + 1) (.int .i64 a1) (by simp)).trans g1)))))))))
  have e0 := cell_of_row _ _ 0 _ _ _ r
  have e1 := cell_of_row _ _ 1 _ _ _ r
  have e2 := cell_of_row _ _ 2 _ _ _ r
  have e3 := cell_of_row _ _ 3 _ _ _ r
  have e4 := cell_of_row _ _ 4 _ _ _ r
  simp at e0 e1 e2 e3 e4
  replace o2 := slO_turn tInt_law o2 hw (fun b h1 h2 => by first | (have := h1.1; omega) | (have := q2 b h1; omega))
  replace hb := below_turn hb hw (fun b h => by omega) (by omega)
  refine bodyPost_ret (v := .agg #[.int .i64 a0, .int .i64 a1, .slice ua2 x2.length uc2, .int .i64 a3, .int .i64 a4]) ?_ rfl ?_
  · simp [results, Try.f11, go_sem, e0, e1, e2, e3, e4]
  · exact ⟨[.int .i64 a0, .int .i64 a1, .slice ua2 x2.length uc2, .int .i64 a3, .int .i64 a4], rfl, tUpdate_mkO o2 (fun b h => by show w.heap.size ≤ b; first | (have := h.1; omega) | (have := q2 b h; omega)) , hb⟩
set_option maxHeartbeats 8000000 in
set_option maxRecDepth 100000 in
theorem eqUpdate_T (a0 a1 a3 a4 : Int) (v2 : Value) (x2 : List Int) (u2 : Value) (w : World) (h2 : SlR tInt w v2 x2) (g2 : SlR tInt w u2 x2) (s2 : zL tInt x2 ≤ 1048576) :
    Calls Try.prog 13 #[.agg #[.int .i64 a0, .int .i64 a1, v2, .int .i64 a3, .int .i64 a4], .agg #[.int .i64 a0, .int .i64 a1, u2, .int .i64 a3, .int .i64 a4]] w fun e w' => e = .returned (.bool true) ∧ Below w.heap.size w w' := by
  have H2 := Lib.hid h2; have G2 := Lib.hid g2; have S2 := Lib.hid s2
  clear h2 g2 s2
  have e0 : (a0 != a0) = false := by simp
  have e1 : (a1 != a1) = false := by simp
  have e3 : (a3 != a3) = false := by simp
  have e4 : (a4 != a4) = false := by simp
  go_enter Try.func13, Try.ntmps13
  go_wp2_with fail
  have hb : Below w.heap.size w ((w.alloc (.cells #[.int .i64 a0, .int .i64 a1, v2, .int .i64 a3, .int .i64 a4] 31)).alloc (.cells #[.int .i64 a0, .int .i64 a1, u2, .int .i64 a3, .int .i64 a4] 31)) := ((Below.refl _ w).alloc (Nat.le_refl _) _).alloc (by simp) _
  have g1 : ((w.alloc (.cells #[.int .i64 a0, .int .i64 a1, v2, .int .i64 a3, .int .i64 a4] 31)).alloc (.cells #[.int .i64 a0, .int .i64 a1, u2, .int .i64 a3, .int .i64 a4] 31)).heap[w.heap.size + 1]? = some (.cells #[.int .i64 a0, .int .i64 a1, u2, .int .i64 a3, .int .i64 a4] 31 (0, 0)) := by
    have := heap_alloc_new (w.alloc (.cells #[.int .i64 a0, .int .i64 a1, v2, .int .i64 a3, .int .i64 a4] 31)) (.cells #[.int .i64 a0, .int .i64 a1, u2, .int .i64 a3, .int .i64 a4] 31)
    simpa only [World.size_alloc] using this
  have g0 : ((w.alloc (.cells #[.int .i64 a0, .int .i64 a1, v2, .int .i64 a3, .int .i64 a4] 31)).alloc (.cells #[.int .i64 a0, .int .i64 a1, u2, .int .i64 a3, .int .i64 a4] 31)).heap[w.heap.size]? = some (.cells #[.int .i64 a0, .int .i64 a1, v2, .int .i64 a3, .int .i64 a4] 31 (0, 0)) := by
    rw [Below.heap_alloc _ _ _ (by simp)]
    exact heap_alloc_new w _
  have hz : w.heap.size + 1 < ((w.alloc (.cells #[.int .i64 a0, .int .i64 a1, v2, .int .i64 a3, .int .i64 a4] 31)).alloc (.cells #[.int .i64 a0, .int .i64 a1, u2, .int .i64 a3, .int .i64 a4] 31)).heap.size := by simp [World.size_alloc]
  generalize ((w.alloc (.cells #[.int .i64 a0, .int .i64 a1, v2, .int .i64 a3, .int .i64 a4] 31)).alloc (.cells #[.int .i64 a0, .int .i64 a1, u2, .int .i64 a3, .int .i64 a4] 31)) = W at *
  refine (eqRow_T a1 v2 x2 u2 W (slR_below tInt_law H2.out hb) (slR_below tInt_law G2.out hb) S2.out).mono ?_
  rintro e w1 ⟨rfl, b1⟩
  replace g0 := (b1.block _ (by omega)).trans g0
  replace g1 := (b1.block _ (by omega)).trans g1
  have zz0 := b1.size
  replace hb := hb.trans (b1.mono (by omega))
  clear b1
  have p0_3 := (cell_of_row w1 _ 3 _ _ _ g0).trans (show _ = some (Value.int .i64 a3) from rfl)
  have p1_3 := (cell_of_row w1 _ 3 _ _ _ g1).trans (show _ = some (Value.int .i64 a3) from rfl)
  have p0_4 := (cell_of_row w1 _ 4 _ _ _ g0).trans (show _ = some (Value.int .i64 a4) from rfl)
  have p1_4 := (cell_of_row w1 _ 4 _ _ _ g1).trans (show _ = some (Value.int .i64 a4) from rfl)
  go_wp2
  clear p0_3 p1_3 p0_4 p1_4
  go_ret
  exact ⟨rfl, hb⟩
end Go.Proofs.Ythiiaiholcfhhaa
namespace Go.Proofs.Ythiiaiholcfhhaa
open Go.RowKit
set_option linter.unusedVariables false
set_option linter.unusedSimpArgs false
set_option maxHeartbeats 8000000 in
set_option maxRecDepth 100000 in
theorem specIsUpdate (k id f x : Int) (vv : Value) (xs : List Int) (w : World) (h : Ints w vv xs) (hn : xs.length ≤ 1048576) :
    Calls Try.prog 10 #[.agg #[.int .i64 k, .int .i64 id, vv, .int .i64 f, .int .i64 x]] w fun e w' => e = .returned (.bool (updB (k, (id, xs), f, x))) ∧ Below w.heap.size w w' := by
  have HR := Lib.hid (fun W g => specIsRow id vv xs W g hn)
  have H := Lib.hid h
  obtain ⟨va, vc, rfl⟩ := ints_len h
  clear h
  by_cases h1 : k = 1
  · subst h1
    have d0 := Lib.hid ((Below.refl w.heap.size w).alloc (Nat.le_refl _) (.cells #[.int .i64 1, .int .i64 id, .slice va xs.length vc, .int .i64 f, .int .i64 x] 31))
    have B0 : Hid ((w.alloc (.cells #[.int .i64 1, .int .i64 id, .slice va xs.length vc, .int .i64 f, .int .i64 x] 31)).heap[w.heap.size]? = some (.cells #[.int .i64 1, .int .i64 id, .slice va xs.length vc, .int .i64 f, .int .i64 x] 31 (0, 0))) := Lib.hid (heap_alloc_new w _)
    have Y0 : Hid (w.heap.size < (w.alloc (.cells #[.int .i64 1, .int .i64 id, .slice va xs.length vc, .int .i64 f, .int .i64 x] 31)).heap.size) := Lib.hid (by simp [World.size_alloc])
    cases hr : rowB (id, xs) with
    | false =>
      rw [upd_no (by unfold insP; simp only; rw [hr]; simp) (by unfold delP; simp only; omega) (by unfold setP; simp only; omega)]
      rw [hr] at HR
      clear hr
      go_enter Try.func10, Try.ntmps10
      go_wp2_with fail
      generalize w.alloc (.cells #[.int .i64 1, .int .i64 id, .slice va xs.length vc, .int .i64 f, .int .i64 x] 31) = W at *
      refine (HR.out W (ints_below H.out d0.out)).mono ?_
      rintro e w1 ⟨rfl, b1⟩
      have k0 := (b1.block w.heap.size Y0.out).trans B0.out
      have b2 := d0.out.trans (b1.mono d0.out.size)
      have p0 := (cell_of_row w1 _ 0 _ _ _ k0).trans (show _ = some (Value.int .i64 1) from rfl)
      have p1 := (cell_of_row w1 _ 1 _ _ _ k0).trans (show _ = some (Value.int .i64 id) from rfl)
      have p2 := (cell_of_row w1 _ 2 _ _ _ k0).trans (show _ = some (Value.slice va xs.length vc) from rfl)
      have p3 := (cell_of_row w1 _ 3 _ _ _ k0).trans (show _ = some (Value.int .i64 f) from rfl)
      have p4 := (cell_of_row w1 _ 4 _ _ _ k0).trans (show _ = some (Value.int .i64 x) from rfl)
      clear k0 b1
      go_wp2
      go_ret
      exact ⟨rfl, b2⟩
    | true =>
      rw [hr] at HR
      by_cases hf : f = 0
      rotate_left
      · rw [upd_no (by unfold insP; simp only; omega) (by unfold delP; simp only; omega) (by unfold setP; simp only; omega)]
        have ef : (f == 0) = false := by simp [hf]
        clear hf hr
        go_enter Try.func10, Try.ntmps10
        go_wp2_with fail
        generalize w.alloc (.cells #[.int .i64 1, .int .i64 id, .slice va xs.length vc, .int .i64 f, .int .i64 x] 31) = W at *
        refine (HR.out W (ints_below H.out d0.out)).mono ?_
        rintro e w1 ⟨rfl, b1⟩
        have k0 := (b1.block w.heap.size Y0.out).trans B0.out
        have b2 := d0.out.trans (b1.mono d0.out.size)
        have p0 := (cell_of_row w1 _ 0 _ _ _ k0).trans (show _ = some (Value.int .i64 1) from rfl)
        have p1 := (cell_of_row w1 _ 1 _ _ _ k0).trans (show _ = some (Value.int .i64 id) from rfl)
        have p2 := (cell_of_row w1 _ 2 _ _ _ k0).trans (show _ = some (Value.slice va xs.length vc) from rfl)
        have p3 := (cell_of_row w1 _ 3 _ _ _ k0).trans (show _ = some (Value.int .i64 f) from rfl)
        have p4 := (cell_of_row w1 _ 4 _ _ _ k0).trans (show _ = some (Value.int .i64 x) from rfl)
        clear k0 b1
        go_wp2
        go_ret
        exact ⟨rfl, b2⟩
      have ef : (f == 0) = true := by simp [hf]
      by_cases hx : x = 0
      rotate_left
      · rw [upd_no (by unfold insP; simp only; omega) (by unfold delP; simp only; omega) (by unfold setP; simp only; omega)]
        have ex : (x == 0) = false := by simp [hx]
        clear hx hf hr
        go_enter Try.func10, Try.ntmps10
        go_wp2_with fail
        generalize w.alloc (.cells #[.int .i64 1, .int .i64 id, .slice va xs.length vc, .int .i64 f, .int .i64 x] 31) = W at *
        refine (HR.out W (ints_below H.out d0.out)).mono ?_
        rintro e w1 ⟨rfl, b1⟩
        have k0 := (b1.block w.heap.size Y0.out).trans B0.out
        have b2 := d0.out.trans (b1.mono d0.out.size)
        have p0 := (cell_of_row w1 _ 0 _ _ _ k0).trans (show _ = some (Value.int .i64 1) from rfl)
        have p1 := (cell_of_row w1 _ 1 _ _ _ k0).trans (show _ = some (Value.int .i64 id) from rfl)
        have p2 := (cell_of_row w1 _ 2 _ _ _ k0).trans (show _ = some (Value.slice va xs.length vc) from rfl)
        have p3 := (cell_of_row w1 _ 3 _ _ _ k0).trans (show _ = some (Value.int .i64 f) from rfl)
        have p4 := (cell_of_row w1 _ 4 _ _ _ k0).trans (show _ = some (Value.int .i64 x) from rfl)
        clear k0 b1
        go_wp2
        go_ret
        exact ⟨rfl, b2⟩
      have ex : (x == 0) = true := by simp [hx]
      rw [upd_ins ⟨rfl, hr, hf, hx⟩]
      clear hf hx hr
      go_enter Try.func10, Try.ntmps10
      go_wp2_with fail
      generalize w.alloc (.cells #[.int .i64 1, .int .i64 id, .slice va xs.length vc, .int .i64 f, .int .i64 x] 31) = W at *
      refine (HR.out W (ints_below H.out d0.out)).mono ?_
      rintro e w1 ⟨rfl, b1⟩
      have k0 := (b1.block w.heap.size Y0.out).trans B0.out
      have b2 := d0.out.trans (b1.mono d0.out.size)
      have p0 := (cell_of_row w1 _ 0 _ _ _ k0).trans (show _ = some (Value.int .i64 1) from rfl)
      have p1 := (cell_of_row w1 _ 1 _ _ _ k0).trans (show _ = some (Value.int .i64 id) from rfl)
      have p2 := (cell_of_row w1 _ 2 _ _ _ k0).trans (show _ = some (Value.slice va xs.length vc) from rfl)
      have p3 := (cell_of_row w1 _ 3 _ _ _ k0).trans (show _ = some (Value.int .i64 f) from rfl)
      have p4 := (cell_of_row w1 _ 4 _ _ _ k0).trans (show _ = some (Value.int .i64 x) from rfl)
      clear k0 b1
      go_wp2
      go_ret
      exact ⟨rfl, b2⟩
  by_cases h2 : k = 2
  · subst h2
    clear h1
    have d0 := Lib.hid ((Below.refl w.heap.size w).alloc (Nat.le_refl _) (.cells #[.int .i64 2, .int .i64 id, .slice va xs.length vc, .int .i64 f, .int .i64 x] 31))
    have B0 : Hid ((w.alloc (.cells #[.int .i64 2, .int .i64 id, .slice va xs.length vc, .int .i64 f, .int .i64 x] 31)).heap[w.heap.size]? = some (.cells #[.int .i64 2, .int .i64 id, .slice va xs.length vc, .int .i64 f, .int .i64 x] 31 (0, 0))) := Lib.hid (heap_alloc_new w _)
    have Y0 : Hid (w.heap.size < (w.alloc (.cells #[.int .i64 2, .int .i64 id, .slice va xs.length vc, .int .i64 f, .int .i64 x] 31)).heap.size) := Lib.hid (by simp [World.size_alloc])
    by_cases hi : 0 ≤ id ∧ id ≤ 999
    rotate_left
    · rw [upd_no (by unfold insP; simp only; omega) (by unfold delP; simp only; omega) (by unfold setP; simp only; omega)]
      have Hi := Lib.hid (fun W => in_no id 0 999 W hi)
      clear hi
      go_enter Try.func10, Try.ntmps10
      go_wp2_with fail
      refine (Hi.out _).mono ?_
      rintro e wx ⟨rfl, rfl⟩
      go_wp2
      go_ret
      exact ⟨rfl, d0.out⟩
    have Hi := Lib.hid (fun W => in_yes id 0 999 W hi.1 hi.2)
    by_cases hl : xs.length = 0
    rotate_left
    · rw [upd_no (by unfold insP; simp only; omega) (by unfold delP; simp only; omega) (by unfold setP; simp only; omega)]
      have el : ((xs.length : Int) == 0) = false := by simp [hl]
      clear hl hi
      go_enter Try.func10, Try.ntmps10
      go_wp2_with fail
      refine (Hi.out _).mono ?_
      rintro e wx ⟨rfl, rfl⟩
      go_wp2
      go_ret
      exact ⟨rfl, d0.out⟩
    have el : ((xs.length : Int) == 0) = true := by simp [hl]
    by_cases hf : f = 0
    rotate_left
    · rw [upd_no (by unfold insP; simp only; omega) (by unfold delP; simp only; omega) (by unfold setP; simp only; omega)]
      have ef : (f == 0) = false := by simp [hf]
      clear hf hi hl
      go_enter Try.func10, Try.ntmps10
      go_wp2_with fail
      refine (Hi.out _).mono ?_
      rintro e wx ⟨rfl, rfl⟩
      go_wp2
      go_ret
      exact ⟨rfl, d0.out⟩
    have ef : (f == 0) = true := by simp [hf]
    by_cases hx : x = 0
    rotate_left
    · rw [upd_no (by unfold insP; simp only; omega) (by unfold delP; simp only; omega) (by unfold setP; simp only; omega)]
      have ex : (x == 0) = false := by simp [hx]
      clear hx hf hi hl
      go_enter Try.func10, Try.ntmps10
      go_wp2_with fail
      refine (Hi.out _).mono ?_
      rintro e wx ⟨rfl, rfl⟩
      go_wp2
      go_ret
      exact ⟨rfl, d0.out⟩
    have ex : (x == 0) = true := by simp [hx]
    rw [upd_del ⟨rfl, hi, hl, hf, hx⟩]
    clear hf hx hi hl
    go_enter Try.func10, Try.ntmps10
    go_wp2_with fail
    refine (Hi.out _).mono ?_
    rintro e wx ⟨rfl, rfl⟩
    go_wp2
    go_ret
    exact ⟨rfl, d0.out⟩
  by_cases h3 : k = 3
  · subst h3
    clear h1 h2
    have d0 := Lib.hid ((Below.refl w.heap.size w).alloc (Nat.le_refl _) (.cells #[.int .i64 3, .int .i64 id, .slice va xs.length vc, .int .i64 f, .int .i64 x] 31))
    have B0 : Hid ((w.alloc (.cells #[.int .i64 3, .int .i64 id, .slice va xs.length vc, .int .i64 f, .int .i64 x] 31)).heap[w.heap.size]? = some (.cells #[.int .i64 3, .int .i64 id, .slice va xs.length vc, .int .i64 f, .int .i64 x] 31 (0, 0))) := Lib.hid (heap_alloc_new w _)
    have Y0 : Hid (w.heap.size < (w.alloc (.cells #[.int .i64 3, .int .i64 id, .slice va xs.length vc, .int .i64 f, .int .i64 x] 31)).heap.size) := Lib.hid (by simp [World.size_alloc])
    by_cases hi : 0 ≤ id ∧ id ≤ 999
    rotate_left
    · rw [upd_no (by unfold insP; simp only; omega) (by unfold delP; simp only; omega) (by unfold setP; simp only; omega)]
      have Hi := Lib.hid (fun W => in_no id 0 999 W hi)
      clear hi
      go_enter Try.func10, Try.ntmps10
      go_wp2_with fail
      refine (Hi.out _).mono ?_
      rintro e wx ⟨rfl, rfl⟩
      go_wp2
      go_ret
      exact ⟨rfl, d0.out⟩
    have Hi := Lib.hid (fun W => in_yes id 0 999 W hi.1 hi.2)
    by_cases hl : xs.length = 0
    rotate_left
    · rw [upd_no (by unfold insP; simp only; omega) (by unfold delP; simp only; omega) (by unfold setP; simp only; omega)]
      have el : ((xs.length : Int) == 0) = false := by simp [hl]
      clear hl hi
      go_enter Try.func10, Try.ntmps10
      go_wp2_with fail
      refine (Hi.out _).mono ?_
      rintro e wx ⟨rfl, rfl⟩
      go_wp2
      go_ret
      exact ⟨rfl, d0.out⟩
    have el : ((xs.length : Int) == 0) = true := by simp [hl]
    by_cases hf : 0 ≤ f ∧ f ≤ 2
    rotate_left
    · rw [upd_no (by unfold insP; simp only; omega) (by unfold delP; simp only; omega) (by unfold setP; simp only; omega)]
      have Hf := Lib.hid (fun W => in_no f 0 2 W hf)
      clear hi hl hf
      go_enter Try.func10, Try.ntmps10
      go_wp2_with fail
      refine (Hi.out _).mono ?_
      rintro e wx ⟨rfl, rfl⟩
      go_wp2_with fail
      refine (Hf.out _).mono ?_
      rintro e wx ⟨rfl, rfl⟩
      go_wp2
      go_ret
      exact ⟨rfl, d0.out⟩
    have Hf := Lib.hid (fun W => in_yes f 0 2 W hf.1 hf.2)
    by_cases hx : 0 ≤ x ∧ x ≤ 99
    rotate_left
    · rw [upd_no (by unfold insP; simp only; omega) (by unfold delP; simp only; omega) (by unfold setP; simp only; omega)]
      have Hx := Lib.hid (fun W => in_no x 0 99 W hx)
      clear hi hl hf hx
      go_enter Try.func10, Try.ntmps10
      go_wp2_with fail
      refine (Hi.out _).mono ?_
      rintro e wx ⟨rfl, rfl⟩
      go_wp2_with fail
      refine (Hf.out _).mono ?_
      rintro e wx ⟨rfl, rfl⟩
      go_wp2_with fail
      refine (Hx.out _).mono ?_
      rintro e wx ⟨rfl, rfl⟩
      go_wp2
      go_ret
      exact ⟨rfl, d0.out⟩
    have Hx := Lib.hid (fun W => in_yes x 0 99 W hx.1 hx.2)
    rw [upd_set ⟨rfl, hi, hl, hf, hx⟩]
    clear hf hx hi hl
    go_enter Try.func10, Try.ntmps10
    go_wp2_with fail
    refine (Hi.out _).mono ?_
    rintro e wx ⟨rfl, rfl⟩
    go_wp2_with fail
    refine (Hf.out _).mono ?_
    rintro e wx ⟨rfl, rfl⟩
    go_wp2_with fail
    refine (Hx.out _).mono ?_
    rintro e wx ⟨rfl, rfl⟩
    go_wp2
    go_ret
    exact ⟨rfl, d0.out⟩
  rw [upd_no (by unfold insP; simp only; omega) (by unfold delP; simp only; omega) (by unfold setP; simp only; omega)]
  have e1 : (k == 1) = false := by simp [h1]
  have e2 : (k == 2) = false := by simp [h2]
  have e3 : (k == 3) = false := by simp [h3]
  clear h1 h2 h3
  have d0 := Lib.hid ((Below.refl w.heap.size w).alloc (Nat.le_refl _) (.cells #[.int .i64 k, .int .i64 id, .slice va xs.length vc, .int .i64 f, .int .i64 x] 31))
  have B0 : Hid ((w.alloc (.cells #[.int .i64 k, .int .i64 id, .slice va xs.length vc, .int .i64 f, .int .i64 x] 31)).heap[w.heap.size]? = some (.cells #[.int .i64 k, .int .i64 id, .slice va xs.length vc, .int .i64 f, .int .i64 x] 31 (0, 0))) := Lib.hid (heap_alloc_new w _)
  have Y0 : Hid (w.heap.size < (w.alloc (.cells #[.int .i64 k, .int .i64 id, .slice va xs.length vc, .int .i64 f, .int .i64 x] 31)).heap.size) := Lib.hid (by simp [World.size_alloc])
  go_enter Try.func10, Try.ntmps10
  go_wp2
  go_ret
  exact ⟨rfl, d0.out⟩
end Go.Proofs.Ythiiaiholcfhhaa
namespace Go.Proofs.Ythiiaiholcfhhaa
open Go.RowKit
set_option linter.unusedVariables false
set_option linter.unusedSimpArgs false
/-- The record of a row. -/
def recV (id : Int) (xs : List Int) : Value := .agg #[.int .i64 id, .int .i64 xs.length, .int .i64 (xs.getD 0 0), .int .i64 (xs.getD 1 0), .int .i64 (xs.getD 2 0)]
theorem info_size {P : Program} {e : TypeId} {z : Option Value} {n b : Nat} (h : (P.info? e).map (fun i => (i.zero, i.size, i.bytes)) = some (z, n, b)) : (P.info? e).map (·.size) = some n := by
  cases hq : P.info? e with
  | none => rw [hq] at h; simp at h
  | some i => rw [hq] at h; simp at h; simp [h.2.1]
theorem copy_src {w : World} {a : Option Addr} {cap g : Nat} {xs : List Int} (h : Ints w (.slice a xs.length cap) xs) : 0 < ((xs.take 3).map (Value.int .i64)).length → (some ⟨g, 2, none⟩ : Option Addr) = some ⟨g, 2, none⟩ ∧ ∃ ad, a = some ad ∧ ∀ j v, ((xs.take 3).map (Value.int .i64))[j]? = some v → w.cell? (ad.add j) = some v := by
  intro h0
  refine ⟨rfl, ?_⟩
  rcases h with ⟨rfl, _⟩ | ⟨b, off, cap', e, _, _, hc⟩
  · simp at h0
  · simp only [Value.slice.injEq] at e
    obtain ⟨rfl, _, _⟩ := e
    refine ⟨_, rfl, fun j v hj => ?_⟩
    rw [Go.WideShapes.add_plain]
    rw [List.getElem?_map, List.getElem?_take] at hj
    by_cases hlt : j < 3
    · rw [if_pos hlt] at hj
      by_cases hl : j < xs.length
      · rw [hc j hl]
        rw [List.getElem?_eq_getElem hl] at hj
        simpa [List.getD, hl] using hj
      · rw [List.getElem?_eq_none (by omega)] at hj
        simp at hj
    · rw [if_neg hlt] at hj
      simp at hj
theorem splice_rec (a b : Value) (xs : List Int) : splice [a, b, .int .i64 0, .int .i64 0, .int .i64 0] 2 ((xs.take 3).map (Value.int .i64)) = [a, b, .int .i64 (xs.getD 0 0), .int .i64 (xs.getD 1 0), .int .i64 (xs.getD 2 0)] := by
  match xs with
  | [] => rfl
  | [x] => rfl
  | [x, y] => rfl
  | x :: y :: z :: r => rfl
set_option maxHeartbeats 4000000 in
set_option maxRecDepth 100000 in
theorem recordOf_any (id : Int) (vv : Value) (xs : List Int) (w : World) (h : Ints w vv xs) (hn : xs.length ≤ 1048576) :
    Calls Try.prog 106 #[.agg #[.int .i64 id, vv]] w fun e w' => e = .returned (recV id xs) ∧ Below w.heap.size w w' := by
  have H := Lib.hid h
  have HN := Lib.hid hn
  obtain ⟨va, vcap, rfl⟩ := ints_len h
  clear h hn
  go_enter Try.func106, Try.ntmps106
  go_wp2
  have hh : Below w.heap.size w (((w.alloc (.cells #[.int .i64 id, .slice va xs.length vcap] 29)).alloc (.cells #[.int .i64 0, .int .i64 0, .int .i64 0, .int .i64 0, .int .i64 0] 154)).alloc (.cells #[.int .i64 id, .int .i64 xs.length, .int .i64 0, .int .i64 0, .int .i64 0] 154)) := (((Below.refl _ w).alloc (Nat.le_refl _) _).alloc (by simp) _).alloc (by simp; omega) _
  have g2 : (((w.alloc (.cells #[.int .i64 id, .slice va xs.length vcap] 29)).alloc (.cells #[.int .i64 0, .int .i64 0, .int .i64 0, .int .i64 0, .int .i64 0] 154)).alloc (.cells #[.int .i64 id, .int .i64 xs.length, .int .i64 0, .int .i64 0, .int .i64 0] 154)).heap[w.heap.size + 2]? = some (.cells #[.int .i64 id, .int .i64 xs.length, .int .i64 0, .int .i64 0, .int .i64 0] 154 (0, 0)) := by
    have := heap_alloc_new ((w.alloc (.cells #[.int .i64 id, .slice va xs.length vcap] 29)).alloc (.cells #[.int .i64 0, .int .i64 0, .int .i64 0, .int .i64 0, .int .i64 0] 154)) (.cells #[.int .i64 id, .int .i64 xs.length, .int .i64 0, .int .i64 0, .int .i64 0] 154)
    simpa only [World.size_alloc] using this
  have g1 : (((w.alloc (.cells #[.int .i64 id, .slice va xs.length vcap] 29)).alloc (.cells #[.int .i64 0, .int .i64 0, .int .i64 0, .int .i64 0, .int .i64 0] 154)).alloc (.cells #[.int .i64 id, .int .i64 xs.length, .int .i64 0, .int .i64 0, .int .i64 0] 154)).heap[w.heap.size + 1]? = some (.cells #[.int .i64 0, .int .i64 0, .int .i64 0, .int .i64 0, .int .i64 0] 154 (0, 0)) := by
    rw [Below.heap_alloc _ _ _ (by simp)]
    have := heap_alloc_new (w.alloc (.cells #[.int .i64 id, .slice va xs.length vcap] 29)) (.cells #[.int .i64 0, .int .i64 0, .int .i64 0, .int .i64 0, .int .i64 0] 154)
    simpa only [World.size_alloc] using this
  have g0 : (((w.alloc (.cells #[.int .i64 id, .slice va xs.length vcap] 29)).alloc (.cells #[.int .i64 0, .int .i64 0, .int .i64 0, .int .i64 0, .int .i64 0] 154)).alloc (.cells #[.int .i64 id, .int .i64 xs.length, .int .i64 0, .int .i64 0, .int .i64 0] 154)).heap[w.heap.size]? = some (.cells #[.int .i64 id, .slice va xs.length vcap] 29 (0, 0)) := by
    rw [Below.heap_alloc _ _ _ (by simp; omega), Below.heap_alloc _ _ _ (by simp)]
    exact heap_alloc_new w _
  have hs : (((w.alloc (.cells #[.int .i64 id, .slice va xs.length vcap] 29)).alloc (.cells #[.int .i64 0, .int .i64 0, .int .i64 0, .int .i64 0, .int .i64 0] 154)).alloc (.cells #[.int .i64 id, .int .i64 xs.length, .int .i64 0, .int .i64 0, .int .i64 0] 154)).heap.size = w.heap.size + 3 := by simp [World.size_alloc]
  generalize (((w.alloc (.cells #[.int .i64 id, .slice va xs.length vcap] 29)).alloc (.cells #[.int .i64 0, .int .i64 0, .int .i64 0, .int .i64 0, .int .i64 0] 154)).alloc (.cells #[.int .i64 id, .int .i64 xs.length, .int .i64 0, .int .i64 0, .int .i64 0] 154)) = W at *
  have b0 := cell_of_row W _ 1 _ _ _ g0
  simp at b0
  have I2 := ints_below H.out hh
  refine wp_region_held_drew (S := fun w' => w'.cell? ⟨w.heap.size, 1, none⟩ = some (.slice va xs.length vcap)) (by kernel_rfl) b0 (fun hHeld => ?_)
  refine take_runs (i := 0) (v := ?_) (by simp only [List.getElem?_toArray, List.getElem?_cons_succ, List.getElem?_cons_zero]; rfl) (by kernel_rfl) (by kernel_rfl) (by kernel_rfl) rfl (by exact fun _ _ _ h => h) (by rfl) ?_ (by assumption) ?_
  rotate_left
  · intro w hSw; (try dsimp only at hSw); go_simp; try (with_reducible rfl)
  try simp only [Act.put, List.setIfInBounds_toArray, List.set_cons_zero, List.set_cons_succ]
  refine take_runs (i := 1) (v := ?_) (by simp only [List.getElem?_toArray, List.getElem?_cons_succ, List.getElem?_cons_zero]; rfl) (by kernel_rfl) (by kernel_rfl) (by kernel_rfl) rfl (by exact fun _ _ _ h => h) (by rfl) ?_ (by assumption) ?_
  rotate_left
  · intro w hSw; (try dsimp only at hSw); go_simp; try (with_reducible rfl)
  try simp only [Act.put, List.setIfInBounds_toArray, List.set_cons_zero, List.set_cons_succ]
  refine take_runs (i := 2) (v := ?_) (by simp only [List.getElem?_toArray, List.getElem?_cons_succ, List.getElem?_cons_zero]; rfl) (by kernel_rfl) (by kernel_rfl) (by kernel_rfl) rfl (by exact fun _ _ _ h => h) (by rfl) ?_ (by assumption) ?_
  rotate_left
  · intro w hSw; (try dsimp only at hSw); go_simp; try (with_reducible rfl)
  try simp only [Act.put, List.setIfInBounds_toArray, List.set_cons_zero, List.set_cons_succ]
  refine take_runs (i := 3) (v := ?_) (by simp only [List.getElem?_toArray, List.getElem?_cons_succ, List.getElem?_cons_zero]; rfl) (by kernel_rfl) (by kernel_rfl) (by kernel_rfl) rfl (by exact fun _ _ _ h => h) (by rfl) ?_ (by assumption) ?_
  rotate_left
  · intro w hSw; (try dsimp only at hSw); go_simp; try (with_reducible rfl)
  try simp only [Act.put, List.setIfInBounds_toArray, List.set_cons_zero, List.set_cons_succ]
  refine wpAnyH_ready (rs := [4]) (by kernel_rfl) (by simp) ?_
  refine AllReadyH.cons (o := _) (by simp only [List.getElem?_toArray, List.getElem?_cons_succ, List.getElem?_cons_zero]; rfl) (fun K hK => ?_) AllReadyH.nil
  refine step_copy_splice rfl (.tmp 11) (.tmp 13) 22 22 rfl 3 Try.underlying22 (info_size Try.infoI64) _ _ _ _ _ _ rfl rfl (w.heap.size + 2) 2 [.int .i64 id, .int .i64 xs.length, .int .i64 0, .int .i64 0, .int .i64 0] _ g2 ((xs.take 3).map (Value.int .i64)) (by simp [Nat.min_comm]) (copy_src I2) (by simp; omega) (fun u hu => by obtain ⟨y, _, rfl⟩ := List.mem_map.1 hu; rfl) (w.heap.size + 2) W (below_drew (Below.refl _ W)) (Nat.le_refl _) ?_
  intro W2 G2 bA
  rw [splice_rec] at G2
  have k0 := (bA.block w.heap.size (by omega)).trans g0
  have b1 := cell_of_row W2 _ 1 _ _ _ k0
  simp at b1
  refine hK.out _ _ b1 (fun hHeld2 => ?_)
  clear hK K hHeld
  try simp only [Act.put, List.setIfInBounds_toArray, List.set_cons_zero, List.set_cons_succ]
  refine wpAnyH_done (by kernel_rfl) ?_ _
  have k1 := (bA.block (w.heap.size + 1) (by omega)).trans g1
  have k2 := G2.out
  have hbb := hh.trans (bA.mono (by omega))
  clear G2 bA g0 g1 g2 I2 hHeld2 b0 b1 k0 hh hs
  obtain ⟨n, hn2⟩ : ∃ n : Nat, n = xs.length := ⟨_, rfl⟩
  have c0 := cell_of_row W2 _ 0 _ _ _ k2
  have d0 := cell_of_row W2 _ 0 _ _ _ k1
  have f0 := frozen_of_row W2 _ 0 _ _ k1
  have c1 := cell_of_row W2 _ 1 _ _ _ k2
  have d1 := cell_of_row W2 _ 1 _ _ _ k1
  have f1 := frozen_of_row W2 _ 1 _ _ k1
  have c2 := cell_of_row W2 _ 2 _ _ _ k2
  have d2 := cell_of_row W2 _ 2 _ _ _ k1
  have f2 := frozen_of_row W2 _ 2 _ _ k1
  have c3 := cell_of_row W2 _ 3 _ _ _ k2
  have d3 := cell_of_row W2 _ 3 _ _ _ k1
  have f3 := frozen_of_row W2 _ 3 _ _ k1
  have c4 := cell_of_row W2 _ 4 _ _ _ k2
  have d4 := cell_of_row W2 _ 4 _ _ _ k1
  have f4 := frozen_of_row W2 _ 4 _ _ k1
  simp at c0 c1 c2 c3 c4 d0 d1 d2 d3 d4
  clear k2 hn2
  generalize hx0 : xs[0]?.getD 0 = x0 at c2
  generalize hx1 : xs[1]?.getD 0 = x1 at c3
  generalize hx2 : xs[2]?.getD 0 = x2 at c4
  have HX := Lib.hid (And.intro hx0 (And.intro hx1 hx2))
  clear hx0 hx1 hx2
  go_wp2
  have r0 := heap_setCell_same W2 (w.heap.size + 1) 0 _ _ (.int .i64 id) k1
  have r1 := heap_setCell_same _ (w.heap.size + 1) 1 _ _ (.int .i64 xs.length) r0
  have r2 := heap_setCell_same _ (w.heap.size + 1) 2 _ _ (.int .i64 x0) r1
  have r3 := heap_setCell_same _ (w.heap.size + 1) 3 _ _ (.int .i64 x1) r2
  have r4 := heap_setCell_same _ (w.heap.size + 1) 4 _ _ (.int .i64 x2) r3
  have B4 := (((((hbb.setCell (p := ⟨w.heap.size + 1, 0, none⟩) (by simp) (.int .i64 id)).setCell (p := ⟨w.heap.size + 1, 1, none⟩) (by simp) (.int .i64 xs.length)).setCell (p := ⟨w.heap.size + 1, 2, none⟩) (by simp) (.int .i64 x0)).setCell (p := ⟨w.heap.size + 1, 3, none⟩) (by simp) (.int .i64 x1)).setCell (p := ⟨w.heap.size + 1, 4, none⟩) (by simp) (.int .i64 x2))
  clear r0 r1 r2 r3 k1
  have e0 := cell_of_row _ _ 0 _ _ _ r4
  have e1 := cell_of_row _ _ 1 _ _ _ r4
  have e2 := cell_of_row _ _ 2 _ _ _ r4
  have e3 := cell_of_row _ _ 3 _ _ _ r4
  have e4 := cell_of_row _ _ 4 _ _ _ r4
  simp at e0 e1 e2 e3 e4
  clear r4
  refine bodyPost_ret (v := .agg #[.int .i64 id, .int .i64 xs.length, .int .i64 x0, .int .i64 x1, .int .i64 x2]) ?_ rfl ?_
  · simp [results, Try.f106, go_sem, e0, e1, e2, e3, e4]
  · obtain ⟨rfl, rfl, rfl⟩ := HX.out
    exact ⟨by simp [recV], B4⟩
end Go.Proofs.Ythiiaiholcfhhaa
namespace Go.Proofs.Ythiiaiholcfhhaa
open Go.RowKit
set_option linter.unusedVariables false
set_option linter.unusedSimpArgs false
/-- A value moved into the range. -/
def limI (x : Int) : Int := min (max x 0) 99
theorem idx0 (a b c : Int) (w : World) : Sem.run Try.prog (Instr.index 152 (.agg #[.int .i64 a, .int .i64 b, .int .i64 c]) (.int .i64 0)) w = .ok (.int .i64 a) w := by
  have u := Try.underlying152
  have z := Try.sizeOf3
  have g := Try.isAgg3
  unfold Instr.index
  go_simp
theorem idx1 (a b c : Int) (w : World) : Sem.run Try.prog (Instr.index 152 (.agg #[.int .i64 a, .int .i64 b, .int .i64 c]) (.int .i64 1)) w = .ok (.int .i64 b) w := by
  have u := Try.underlying152
  have z := Try.sizeOf3
  have g := Try.isAgg3
  unfold Instr.index
  go_simp
theorem idx2 (a b c : Int) (w : World) : Sem.run Try.prog (Instr.index 152 (.agg #[.int .i64 a, .int .i64 b, .int .i64 c]) (.int .i64 2)) w = .ok (.int .i64 c) w := by
  have u := Try.underlying152
  have z := Try.sizeOf3
  have g := Try.isAgg3
  unfold Instr.index
  go_simp
set_option maxHeartbeats 4000000 in
set_option maxRecDepth 100000 in
theorem limited_any (a b c : Int) (w : World) :
    Calls Try.prog 117 #[.agg #[.int .i64 a, .int .i64 b, .int .i64 c]] w fun e w' => e = .returned (.agg #[.int .i64 (limI a), .int .i64 (limI b), .int .i64 (limI c)]) ∧ Below w.heap.size w w' := by
  have i0 := idx0 a b c
  have i1 := idx1 a b c
  have i2 := idx2 a b c
  go_enter Try.func117, Try.ntmps117
  go_wp2
  refine wp_loop_rounds 4 ?_
  rw [rounds_succ]
  go_wp2
  rw [rounds_succ]
  go_wp2
  rw [rounds_succ]
  go_wp2
  rw [rounds_succ]
  go_wp2
  refine bodyPost_ret (v := .agg #[.int .i64 (limI a), .int .i64 (limI b), .int .i64 (limI c)]) ?_ rfl ?_
  · simp [results, Try.f117, go_sem, limI]
  refine ⟨rfl, ?_⟩
  exact ((Below.refl _ w).alloc (Nat.le_refl _) _).alloc (by simp) _
end Go.Proofs.Ythiiaiholcfhhaa
namespace Go.Proofs.Ythiiaiholcfhhaa
open Go.RowKit
set_option linter.unusedVariables false
set_option linter.unusedSimpArgs false
theorem eqIn_arr (d : Nat) (a b c x y z : Int) (w : World) : (Op.equalIn (d + 2) 152 (.agg #[.int .i64 a, .int .i64 b, .int .i64 c]) (.agg #[.int .i64 x, .int .i64 y, .int .i64 z])).run Try.prog w = .ok (a == x && b == y && c == z) w := by
  have u := Try.underlying152
  have u3 := Try.underlying3
  have z3 := Try.sizeOf3
  have g := Try.isAgg3
  rw [Op.equalIn]
  simp only [Sem.run_bind, run_underlying u, Result.andThen_ok, z3]
  simp only [Std.Legacy.Range.forIn_eq_forIn_range', Std.Legacy.Range.size]
  simp [List.range', g, z3, go_sem, run_equalIn_int (P := Try.prog) _ d _ _ _ _ _ u3]
  by_cases h1 : a = x <;> by_cases h2 : b = y <;> by_cases h3 : c = z <;> simp [h1, h2, h3]
theorem eql_arr (a b c x y z : Int) (w : World) : Sem.run Try.prog (binOp .eql 152 (.agg #[.int .i64 a, .int .i64 b, .int .i64 c]) (.agg #[.int .i64 x, .int .i64 y, .int .i64 z])) w = .ok (.bool (a == x && b == y && c == z)) w := by
  rw [run_eql_struct, show (10000 : Nat) = 9998 + 2 from rfl, eqIn_arr]
  rfl
theorem guard_arr (o1 o2 : Operand) (xs ys : Array Value) (w : World) : Sem.run Try.prog (eqGuard .eql 152 o1 o2 (.agg xs) (.agg ys)) w = .ok () w := run_eqGuard_agg w _ _ _ _ _ _ (by kernel_rfl)
theorem guard_rec (o1 o2 : Operand) (xs ys : Array Value) (w : World) : Sem.run Try.prog (eqGuard .eql 154 o1 o2 (.agg xs) (.agg ys)) w = .ok () w := run_eqGuard_agg w _ _ _ _ _ _ (by kernel_rfl)
set_option maxHeartbeats 2000000 in
theorem eql_rec (i n a b c j m x y z : Int) (w : World) : Sem.run Try.prog (binOp .eql 154 (.agg #[.int .i64 i, .int .i64 n, .int .i64 a, .int .i64 b, .int .i64 c]) (.agg #[.int .i64 j, .int .i64 m, .int .i64 x, .int .i64 y, .int .i64 z])) w = .ok (.bool (i == j && n == m && (a == x && b == y && c == z))) w := by
  have hS : Try.prog.underlying 154 = some (.struct (Try.prog.fieldsOf 154)) := by kernel_rfl
  have hp : Try.prog.stoodInHeld 154 = false := by kernel_rfl
  have u := Try.underlying3
  have z3 := Try.sizeOf3
  have g := Try.isAgg3
  have ga := Try.isAgg152
  have za := Try.sizeOf152
  rw [run_eql_struct, show (10000 : Nat) = 9999 + 1 from rfl, run_equalIn_agg w 9999 154 _ _ hS hp]
  simp only [Program.fieldsOf, Try.underlying154]
  have hh := fun w => eqIn_arr 9997 a b c x y z w
  simp only [show 9997 + 2 = 9999 from rfl] at hh
  go_simp
  by_cases h1 : i = j <;> by_cases h2 : n = m <;> by_cases h3 : a = x <;> by_cases h4 : b = y <;> by_cases h5 : c = z <;> simp [h1, h2, h3, h4, h5]
end Go.Proofs.Ythiiaiholcfhhaa
namespace Go.Proofs.Ythiiaiholcfhhaa
open Go.RowKit
set_option linter.unusedVariables false
set_option linter.unusedSimpArgs false
theorem isRowId_yes (id : Int) (w : World) (h1 : 0 ≤ id) (h2 : id ≤ 999) : Calls Try.prog 116 #[.int .i64 id] w fun e w' => e = .returned (.bool true) ∧ w' = w := by
  go_enter Try.func116, Try.ntmps116
  go_wp2
  go_ret
  exact ⟨rfl, rfl⟩
theorem isRowId_no (id : Int) (w : World) (h : ¬ (0 ≤ id ∧ id ≤ 999)) : Calls Try.prog 116 #[.int .i64 id] w fun e w' => e = .returned (.bool false) ∧ w' = w := by
  by_cases h1 : 0 ≤ id
  · have h2 : ¬ id ≤ 999 := fun g => h ⟨h1, g⟩
    clear h
    go_enter Try.func116, Try.ntmps116
    go_wp2
    go_ret
    exact ⟨rfl, rfl⟩
  · clear h
    go_enter Try.func116, Try.ntmps116
    go_wp2
    go_ret
    exact ⟨rfl, rfl⟩
/-- Is a record valid? -/
def recB (id n a b c : Int) : Bool := decide (0 ≤ id ∧ id ≤ 999) && (decide (n = 3) && (a == limI a && b == limI b && c == limI c))
theorem lim_in (x : Int) : (x == limI x) = decide (0 ≤ x ∧ x ≤ 99) := by
  unfold limI
  by_cases h : 0 ≤ x ∧ x ≤ 99
  · rw [decide_eq_true h, beq_iff_eq]; omega
  · rw [decide_eq_false h, beq_eq_false_iff_ne]; omega
theorem recB_row (id : Int) (xs : List Int) : recB id xs.length (xs.getD 0 0) (xs.getD 1 0) (xs.getD 2 0) = rowB (id, xs) := by
  unfold recB rowB
  simp only [lim_in]
  match xs with
  | [] => simp
  | [x] => simp
  | [x, y] => simp
  | [x, y, z] => simp [List.all, Bool.and_assoc]
  | x :: y :: z :: u :: r =>
    have : ¬ ((r.length : Int) + 1 + 1 + 1 + 1 = 3) := by omega
    simp [this]
theorem below_from {W w8 w9 : World} (h : w8 = W.drew) (b : Below w8.heap.size w8 w9) : Below W.heap.size W w9 := by subst h; exact ⟨b.os, b.tape, b.output, b.size, b.block⟩
set_option maxHeartbeats 8000000 in
set_option maxRecDepth 100000 in
theorem isValid_id (id n a b c : Int) (w : World) (h : ¬ (0 ≤ id ∧ id ≤ 999)) :
    Calls Try.prog 107 #[.agg #[.int .i64 id, .int .i64 n, .int .i64 a, .int .i64 b, .int .i64 c]] w fun e w' => e = .returned (.bool (false)) ∧ Below w.heap.size w w' := by
  have HI := Lib.hid (fun w => isRowId_no id w h)
  clear h
  go_enter Try.func107, Try.ntmps107
  go_wp2
  have hh : Below w.heap.size w (w.alloc (.cells #[.int .i64 id, .int .i64 n, .int .i64 a, .int .i64 b, .int .i64 c] 154)) := (Below.refl _ w).alloc (Nat.le_refl _) _
  have g0 := heap_alloc_new w (.cells #[.int .i64 id, .int .i64 n, .int .i64 a, .int .i64 b, .int .i64 c] 154)
  have hlt : w.heap.size < (w.alloc (.cells #[.int .i64 id, .int .i64 n, .int .i64 a, .int .i64 b, .int .i64 c] 154)).heap.size := by simp
  generalize w.alloc (.cells #[.int .i64 id, .int .i64 n, .int .i64 a, .int .i64 b, .int .i64 c] 154) = W at *
  have q0 := cell_of_row W _ 0 _ _ _ g0
  have q1 := cell_of_row W _ 1 _ _ _ g0
  have q2 := cell_of_row W _ 2 _ _ _ g0
  have q3 := cell_of_row W _ 3 _ _ _ g0
  have q4 := cell_of_row W _ 4 _ _ _ g0
  simp at q0 q1 q2 q3 q4
  refine wp_region_held_drew (S := fun w' => w'.cell? ⟨w.heap.size, 0, none⟩ = some (.int .i64 id) ∧ w'.cell? ⟨w.heap.size, 1, none⟩ = some (.int .i64 n) ∧ w'.cell? ⟨w.heap.size, 2, none⟩ = some (.int .i64 a) ∧ w'.cell? ⟨w.heap.size, 3, none⟩ = some (.int .i64 b) ∧ w'.cell? ⟨w.heap.size, 4, none⟩ = some (.int .i64 c)) (by kernel_rfl) ⟨q0, q1, q2, q3, q4⟩ (fun hHeld => ?_)
  refine take_runs (i := 0) (v := ?_) (by simp only [List.getElem?_toArray, List.getElem?_cons_succ, List.getElem?_cons_zero]; rfl) (by kernel_rfl) (by kernel_rfl) (by kernel_rfl) rfl (by exact fun _ _ _ h => h) (by rfl) ?_ (by assumption) ?_
  rotate_left
  · intro w hSw; (try dsimp only at hSw); go_simp; try (with_reducible rfl)
  try simp only [Act.put, List.setIfInBounds_toArray, List.set_cons_zero, List.set_cons_succ]
  refine take_runs (i := 1) (v := ?_) (by simp only [List.getElem?_toArray, List.getElem?_cons_succ, List.getElem?_cons_zero]; rfl) (by kernel_rfl) (by kernel_rfl) (by kernel_rfl) rfl (by exact fun _ _ _ h => h) (by rfl) ?_ (by assumption) ?_
  rotate_left
  · intro w hSw; (try dsimp only at hSw); go_simp; try (with_reducible rfl)
  try simp only [Act.put, List.setIfInBounds_toArray, List.set_cons_zero, List.set_cons_succ]
  refine wpAnyH_ready (rs := [2]) (by kernel_rfl) (by simp) ?_
  refine AllReadyH.cons (o := _) (by simp only [List.getElem?_toArray, List.getElem?_cons_succ, List.getElem?_cons_zero]; rfl) (fun K hK => ?_) AllReadyH.nil
  go_simp
  refine (HI.out _).mono ?_
  rintro e w8 ⟨rfl, rfl⟩
  refine hK.out _ _ ⟨q0, q1, q2, q3, q4⟩ (fun hHeld => ?_)
  clear hK K
  try simp only [Act.put, List.setIfInBounds_toArray, List.set_cons_zero, List.set_cons_succ]
  refine take_runs (i := 3) (v := ?_) (by simp only [List.getElem?_toArray, List.getElem?_cons_succ, List.getElem?_cons_zero]; rfl) (by kernel_rfl) (by kernel_rfl) (by kernel_rfl) rfl (by exact fun _ _ _ h => h) (by rfl) ?_ (by assumption) ?_
  rotate_left
  · intro w hSw; (try dsimp only at hSw); go_simp; try (with_reducible rfl)
  try simp only [Act.put, List.setIfInBounds_toArray, List.set_cons_zero, List.set_cons_succ]
  refine take_over (i := 4) (by simp only [List.getElem?_toArray, List.getElem?_cons_succ, List.getElem?_cons_zero]; rfl) (by kernel_rfl) (by kernel_rfl) (by kernel_rfl) rfl (by exact fun _ _ _ h => h) (by rfl) (by assumption) ?_
  try simp only [Act.put, List.setIfInBounds_toArray, List.set_cons_zero, List.set_cons_succ]
  refine take_over (i := 5) (by simp only [List.getElem?_toArray, List.getElem?_cons_succ, List.getElem?_cons_zero]; rfl) (by kernel_rfl) (by kernel_rfl) (by kernel_rfl) rfl (by exact fun _ _ _ h => h) (by rfl) (by assumption) ?_
  try simp only [Act.put, List.setIfInBounds_toArray, List.set_cons_zero, List.set_cons_succ]
  refine take_over (i := 6) (by simp only [List.getElem?_toArray, List.getElem?_cons_succ, List.getElem?_cons_zero]; rfl) (by kernel_rfl) (by kernel_rfl) (by kernel_rfl) rfl (by exact fun _ _ _ h => h) (by rfl) (by assumption) ?_
  try simp only [Act.put, List.setIfInBounds_toArray, List.set_cons_zero, List.set_cons_succ]
  refine take_runs (i := 7) (v := ?_) (by simp only [List.getElem?_toArray, List.getElem?_cons_succ, List.getElem?_cons_zero]; rfl) (by kernel_rfl) (by kernel_rfl) (by kernel_rfl) rfl (by exact fun _ _ _ h => h) (by rfl) ?_ (by assumption) ?_
  rotate_left
  · intro w hSw; (try dsimp only at hSw); go_simp; try (with_reducible rfl)
  try simp only [Act.put, List.setIfInBounds_toArray, List.set_cons_zero, List.set_cons_succ]
  refine take_runs (i := 8) (v := ?_) (by simp only [List.getElem?_toArray, List.getElem?_cons_succ, List.getElem?_cons_zero]; rfl) (by kernel_rfl) (by kernel_rfl) (by kernel_rfl) rfl (by exact fun _ _ _ h => h) (by rfl) ?_ (by assumption) ?_
  rotate_left
  · intro w hSw; (try dsimp only at hSw); go_simp; try (with_reducible rfl)
  try simp only [Act.put, List.setIfInBounds_toArray, List.set_cons_zero, List.set_cons_succ]
  refine take_over (i := 9) (by simp only [List.getElem?_toArray, List.getElem?_cons_succ, List.getElem?_cons_zero]; rfl) (by kernel_rfl) (by kernel_rfl) (by kernel_rfl) rfl (by exact fun _ _ _ h => h) (by rfl) (by assumption) ?_
  try simp only [Act.put, List.setIfInBounds_toArray, List.set_cons_zero, List.set_cons_succ]
  refine take_over (i := 10) (by simp only [List.getElem?_toArray, List.getElem?_cons_succ, List.getElem?_cons_zero]; rfl) (by kernel_rfl) (by kernel_rfl) (by kernel_rfl) rfl (by exact fun _ _ _ h => h) (by rfl) (by assumption) ?_
  try simp only [Act.put, List.setIfInBounds_toArray, List.set_cons_zero, List.set_cons_succ]
  refine take_over (i := 11) (by simp only [List.getElem?_toArray, List.getElem?_cons_succ, List.getElem?_cons_zero]; rfl) (by kernel_rfl) (by kernel_rfl) (by kernel_rfl) rfl (by exact fun _ _ _ h => h) (by rfl) (by assumption) ?_
  try simp only [Act.put, List.setIfInBounds_toArray, List.set_cons_zero, List.set_cons_succ]
  refine take_over (i := 12) (by simp only [List.getElem?_toArray, List.getElem?_cons_succ, List.getElem?_cons_zero]; rfl) (by kernel_rfl) (by kernel_rfl) (by kernel_rfl) rfl (by exact fun _ _ _ h => h) (by rfl) (by assumption) ?_
  try simp only [Act.put, List.setIfInBounds_toArray, List.set_cons_zero, List.set_cons_succ]
  refine take_over (i := 13) (by simp only [List.getElem?_toArray, List.getElem?_cons_succ, List.getElem?_cons_zero]; rfl) (by kernel_rfl) (by kernel_rfl) (by kernel_rfl) rfl (by exact fun _ _ _ h => h) (by rfl) (by assumption) ?_
  try simp only [Act.put, List.setIfInBounds_toArray, List.set_cons_zero, List.set_cons_succ]
  refine take_over (i := 14) (by simp only [List.getElem?_toArray, List.getElem?_cons_succ, List.getElem?_cons_zero]; rfl) (by kernel_rfl) (by kernel_rfl) (by kernel_rfl) rfl (by exact fun _ _ _ h => h) (by rfl) (by assumption) ?_
  try simp only [Act.put, List.setIfInBounds_toArray, List.set_cons_zero, List.set_cons_succ]
  refine take_runs (i := 15) (v := ?_) (by simp only [List.getElem?_toArray, List.getElem?_cons_succ, List.getElem?_cons_zero]; rfl) (by kernel_rfl) (by kernel_rfl) (by kernel_rfl) rfl (by exact fun _ _ _ h => h) (by rfl) ?_ (by assumption) ?_
  rotate_left
  · intro w hSw; (try dsimp only at hSw); go_simp; try (with_reducible rfl)
  try simp only [Act.put, List.setIfInBounds_toArray, List.set_cons_zero, List.set_cons_succ]
  refine take_runs (i := 16) (v := ?_) (by simp only [List.getElem?_toArray, List.getElem?_cons_succ, List.getElem?_cons_zero]; rfl) (by kernel_rfl) (by kernel_rfl) (by kernel_rfl) rfl (by exact fun _ _ _ h => h) (by rfl) ?_ (by assumption) ?_
  rotate_left
  · intro w hSw; (try dsimp only at hSw); go_simp; try (with_reducible rfl)
  try simp only [Act.put, List.setIfInBounds_toArray, List.set_cons_zero, List.set_cons_succ]
  refine wpAnyH_done (by kernel_rfl) ?_ _
  have b11 : Below w.heap.size w W.drew := below_drew hh
  clear hHeld
  go_wp2
  go_ret
  exact ⟨rfl, b11⟩
set_option maxHeartbeats 8000000 in
set_option maxRecDepth 100000 in
theorem isValid_count (id n a b c : Int) (w : World) (h1 : 0 ≤ id) (h2 : id ≤ 999) (h3 : ¬ n = 3) :
    Calls Try.prog 107 #[.agg #[.int .i64 id, .int .i64 n, .int .i64 a, .int .i64 b, .int .i64 c]] w fun e w' => e = .returned (.bool (false)) ∧ Below w.heap.size w w' := by
  have HI := Lib.hid (fun w => isRowId_yes id w h1 h2)
  clear h1 h2
  have hd : (n == 3) = false := by simpa using h3
  clear h3
  go_enter Try.func107, Try.ntmps107
  go_wp2
  have hh : Below w.heap.size w (w.alloc (.cells #[.int .i64 id, .int .i64 n, .int .i64 a, .int .i64 b, .int .i64 c] 154)) := (Below.refl _ w).alloc (Nat.le_refl _) _
  have g0 := heap_alloc_new w (.cells #[.int .i64 id, .int .i64 n, .int .i64 a, .int .i64 b, .int .i64 c] 154)
  have hlt : w.heap.size < (w.alloc (.cells #[.int .i64 id, .int .i64 n, .int .i64 a, .int .i64 b, .int .i64 c] 154)).heap.size := by simp
  generalize w.alloc (.cells #[.int .i64 id, .int .i64 n, .int .i64 a, .int .i64 b, .int .i64 c] 154) = W at *
  have q0 := cell_of_row W _ 0 _ _ _ g0
  have q1 := cell_of_row W _ 1 _ _ _ g0
  have q2 := cell_of_row W _ 2 _ _ _ g0
  have q3 := cell_of_row W _ 3 _ _ _ g0
  have q4 := cell_of_row W _ 4 _ _ _ g0
  simp at q0 q1 q2 q3 q4
  refine wp_region_held_drew (S := fun w' => w'.cell? ⟨w.heap.size, 0, none⟩ = some (.int .i64 id) ∧ w'.cell? ⟨w.heap.size, 1, none⟩ = some (.int .i64 n) ∧ w'.cell? ⟨w.heap.size, 2, none⟩ = some (.int .i64 a) ∧ w'.cell? ⟨w.heap.size, 3, none⟩ = some (.int .i64 b) ∧ w'.cell? ⟨w.heap.size, 4, none⟩ = some (.int .i64 c)) (by kernel_rfl) ⟨q0, q1, q2, q3, q4⟩ (fun hHeld => ?_)
  refine take_runs (i := 0) (v := ?_) (by simp only [List.getElem?_toArray, List.getElem?_cons_succ, List.getElem?_cons_zero]; rfl) (by kernel_rfl) (by kernel_rfl) (by kernel_rfl) rfl (by exact fun _ _ _ h => h) (by rfl) ?_ (by assumption) ?_
  rotate_left
  · intro w hSw; (try dsimp only at hSw); go_simp; try (with_reducible rfl)
  try simp only [Act.put, List.setIfInBounds_toArray, List.set_cons_zero, List.set_cons_succ]
  refine take_runs (i := 1) (v := ?_) (by simp only [List.getElem?_toArray, List.getElem?_cons_succ, List.getElem?_cons_zero]; rfl) (by kernel_rfl) (by kernel_rfl) (by kernel_rfl) rfl (by exact fun _ _ _ h => h) (by rfl) ?_ (by assumption) ?_
  rotate_left
  · intro w hSw; (try dsimp only at hSw); go_simp; try (with_reducible rfl)
  try simp only [Act.put, List.setIfInBounds_toArray, List.set_cons_zero, List.set_cons_succ]
  refine wpAnyH_ready (rs := [2]) (by kernel_rfl) (by simp) ?_
  refine AllReadyH.cons (o := _) (by simp only [List.getElem?_toArray, List.getElem?_cons_succ, List.getElem?_cons_zero]; rfl) (fun K hK => ?_) AllReadyH.nil
  go_simp
  refine (HI.out _).mono ?_
  rintro e w8 ⟨rfl, rfl⟩
  refine hK.out _ _ ⟨q0, q1, q2, q3, q4⟩ (fun hHeld => ?_)
  clear hK K
  try simp only [Act.put, List.setIfInBounds_toArray, List.set_cons_zero, List.set_cons_succ]
  refine take_runs (i := 3) (v := ?_) (by simp only [List.getElem?_toArray, List.getElem?_cons_succ, List.getElem?_cons_zero]; rfl) (by kernel_rfl) (by kernel_rfl) (by kernel_rfl) rfl (by exact fun _ _ _ h => h) (by rfl) ?_ (by assumption) ?_
  rotate_left
  · intro w hSw; (try dsimp only at hSw); go_simp; try (with_reducible rfl)
  try simp only [Act.put, List.setIfInBounds_toArray, List.set_cons_zero, List.set_cons_succ]
  refine take_runs (i := 4) (v := ?_) (by simp only [List.getElem?_toArray, List.getElem?_cons_succ, List.getElem?_cons_zero]; rfl) (by kernel_rfl) (by kernel_rfl) (by kernel_rfl) rfl (by exact fun _ _ _ h => h) (by rfl) ?_ (by assumption) ?_
  rotate_left
  · intro w hSw; (try dsimp only at hSw); go_simp; try (with_reducible rfl)
  try simp only [Act.put, List.setIfInBounds_toArray, List.set_cons_zero, List.set_cons_succ]
  refine take_runs (i := 5) (v := ?_) (by simp only [List.getElem?_toArray, List.getElem?_cons_succ, List.getElem?_cons_zero]; rfl) (by kernel_rfl) (by kernel_rfl) (by kernel_rfl) rfl (by exact fun _ _ _ h => h) (by rfl) ?_ (by assumption) ?_
  rotate_left
  · intro w hSw; (try dsimp only at hSw); go_simp; try (with_reducible rfl)
  try simp only [Act.put, List.setIfInBounds_toArray, List.set_cons_zero, List.set_cons_succ]
  refine take_runs (i := 6) (v := ?_) (by simp only [List.getElem?_toArray, List.getElem?_cons_succ, List.getElem?_cons_zero]; rfl) (by kernel_rfl) (by kernel_rfl) (by kernel_rfl) rfl (by exact fun _ _ _ h => h) (by rfl) ?_ (by assumption) ?_
  rotate_left
  · intro w hSw; (try dsimp only at hSw); go_simp; try (with_reducible rfl)
  try simp only [Act.put, List.setIfInBounds_toArray, List.set_cons_zero, List.set_cons_succ]
  refine take_runs (i := 7) (v := ?_) (by simp only [List.getElem?_toArray, List.getElem?_cons_succ, List.getElem?_cons_zero]; rfl) (by kernel_rfl) (by kernel_rfl) (by kernel_rfl) rfl (by exact fun _ _ _ h => h) (by rfl) ?_ (by assumption) ?_
  rotate_left
  · intro w hSw; (try dsimp only at hSw); go_simp; try (with_reducible rfl)
  try simp only [Act.put, List.setIfInBounds_toArray, List.set_cons_zero, List.set_cons_succ]
  refine take_runs (i := 8) (v := ?_) (by simp only [List.getElem?_toArray, List.getElem?_cons_succ, List.getElem?_cons_zero]; rfl) (by kernel_rfl) (by kernel_rfl) (by kernel_rfl) rfl (by exact fun _ _ _ h => h) (by rfl) ?_ (by assumption) ?_
  rotate_left
  · intro w hSw; (try dsimp only at hSw); go_simp; try (with_reducible rfl)
  try simp only [Act.put, List.setIfInBounds_toArray, List.set_cons_zero, List.set_cons_succ]
  refine take_over (i := 9) (by simp only [List.getElem?_toArray, List.getElem?_cons_succ, List.getElem?_cons_zero]; rfl) (by kernel_rfl) (by kernel_rfl) (by kernel_rfl) rfl (by exact fun _ _ _ h => h) (by rfl) (by assumption) ?_
  try simp only [Act.put, List.setIfInBounds_toArray, List.set_cons_zero, List.set_cons_succ]
  refine take_over (i := 10) (by simp only [List.getElem?_toArray, List.getElem?_cons_succ, List.getElem?_cons_zero]; rfl) (by kernel_rfl) (by kernel_rfl) (by kernel_rfl) rfl (by exact fun _ _ _ h => h) (by rfl) (by assumption) ?_
  try simp only [Act.put, List.setIfInBounds_toArray, List.set_cons_zero, List.set_cons_succ]
  refine take_over (i := 11) (by simp only [List.getElem?_toArray, List.getElem?_cons_succ, List.getElem?_cons_zero]; rfl) (by kernel_rfl) (by kernel_rfl) (by kernel_rfl) rfl (by exact fun _ _ _ h => h) (by rfl) (by assumption) ?_
  try simp only [Act.put, List.setIfInBounds_toArray, List.set_cons_zero, List.set_cons_succ]
  refine take_over (i := 12) (by simp only [List.getElem?_toArray, List.getElem?_cons_succ, List.getElem?_cons_zero]; rfl) (by kernel_rfl) (by kernel_rfl) (by kernel_rfl) rfl (by exact fun _ _ _ h => h) (by rfl) (by assumption) ?_
  try simp only [Act.put, List.setIfInBounds_toArray, List.set_cons_zero, List.set_cons_succ]
  refine take_over (i := 13) (by simp only [List.getElem?_toArray, List.getElem?_cons_succ, List.getElem?_cons_zero]; rfl) (by kernel_rfl) (by kernel_rfl) (by kernel_rfl) rfl (by exact fun _ _ _ h => h) (by rfl) (by assumption) ?_
  try simp only [Act.put, List.setIfInBounds_toArray, List.set_cons_zero, List.set_cons_succ]
  refine take_over (i := 14) (by simp only [List.getElem?_toArray, List.getElem?_cons_succ, List.getElem?_cons_zero]; rfl) (by kernel_rfl) (by kernel_rfl) (by kernel_rfl) rfl (by exact fun _ _ _ h => h) (by rfl) (by assumption) ?_
  try simp only [Act.put, List.setIfInBounds_toArray, List.set_cons_zero, List.set_cons_succ]
  refine take_runs (i := 15) (v := ?_) (by simp only [List.getElem?_toArray, List.getElem?_cons_succ, List.getElem?_cons_zero]; rfl) (by kernel_rfl) (by kernel_rfl) (by kernel_rfl) rfl (by exact fun _ _ _ h => h) (by rfl) ?_ (by assumption) ?_
  rotate_left
  · intro w hSw; (try dsimp only at hSw); go_simp; try (with_reducible rfl)
  try simp only [Act.put, List.setIfInBounds_toArray, List.set_cons_zero, List.set_cons_succ]
  refine take_runs (i := 16) (v := ?_) (by simp only [List.getElem?_toArray, List.getElem?_cons_succ, List.getElem?_cons_zero]; rfl) (by kernel_rfl) (by kernel_rfl) (by kernel_rfl) rfl (by exact fun _ _ _ h => h) (by rfl) ?_ (by assumption) ?_
  rotate_left
  · intro w hSw; (try dsimp only at hSw); go_simp; try (with_reducible rfl)
  try simp only [Act.put, List.setIfInBounds_toArray, List.set_cons_zero, List.set_cons_succ]
  refine wpAnyH_done (by kernel_rfl) ?_ _
  have b11 : Below w.heap.size w W.drew := below_drew hh
  clear hHeld
  go_wp2
  go_ret
  exact ⟨rfl, b11⟩
set_option maxHeartbeats 8000000 in
set_option maxRecDepth 100000 in
theorem isValid_all (id n a b c : Int) (w : World) (h1 : 0 ≤ id) (h2 : id ≤ 999) (h3 : n = 3) :
    Calls Try.prog 107 #[.agg #[.int .i64 id, .int .i64 n, .int .i64 a, .int .i64 b, .int .i64 c]] w fun e w' => e = .returned (.bool (a == limI a && b == limI b && c == limI c)) ∧ Below w.heap.size w w' := by
  have HI := Lib.hid (fun w => isRowId_yes id w h1 h2)
  clear h1 h2
  have hd : (n == 3) = true := by simpa using h3
  clear h3
  have HL := Lib.hid (fun w => limited_any a b c w)
  have he := fun w => eql_arr a b c (limI a) (limI b) (limI c) w
  have hgd := fun (o1 o2 : Operand) (xs ys : Array Value) (w : World) => guard_arr o1 o2 xs ys w
  generalize hr : (a == limI a && b == limI b && c == limI c) = r at he ⊢
  clear hr
  go_enter Try.func107, Try.ntmps107
  go_wp2
  have hh : Below w.heap.size w (w.alloc (.cells #[.int .i64 id, .int .i64 n, .int .i64 a, .int .i64 b, .int .i64 c] 154)) := (Below.refl _ w).alloc (Nat.le_refl _) _
  have g0 := heap_alloc_new w (.cells #[.int .i64 id, .int .i64 n, .int .i64 a, .int .i64 b, .int .i64 c] 154)
  have hlt : w.heap.size < (w.alloc (.cells #[.int .i64 id, .int .i64 n, .int .i64 a, .int .i64 b, .int .i64 c] 154)).heap.size := by simp
  generalize w.alloc (.cells #[.int .i64 id, .int .i64 n, .int .i64 a, .int .i64 b, .int .i64 c] 154) = W at *
  have q0 := cell_of_row W _ 0 _ _ _ g0
  have q1 := cell_of_row W _ 1 _ _ _ g0
  have q2 := cell_of_row W _ 2 _ _ _ g0
  have q3 := cell_of_row W _ 3 _ _ _ g0
  have q4 := cell_of_row W _ 4 _ _ _ g0
  simp at q0 q1 q2 q3 q4
  refine wp_region_held_drew (S := fun w' => w'.cell? ⟨w.heap.size, 0, none⟩ = some (.int .i64 id) ∧ w'.cell? ⟨w.heap.size, 1, none⟩ = some (.int .i64 n) ∧ w'.cell? ⟨w.heap.size, 2, none⟩ = some (.int .i64 a) ∧ w'.cell? ⟨w.heap.size, 3, none⟩ = some (.int .i64 b) ∧ w'.cell? ⟨w.heap.size, 4, none⟩ = some (.int .i64 c)) (by kernel_rfl) ⟨q0, q1, q2, q3, q4⟩ (fun hHeld => ?_)
  refine take_runs (i := 0) (v := ?_) (by simp only [List.getElem?_toArray, List.getElem?_cons_succ, List.getElem?_cons_zero]; rfl) (by kernel_rfl) (by kernel_rfl) (by kernel_rfl) rfl (by exact fun _ _ _ h => h) (by rfl) ?_ (by assumption) ?_
  rotate_left
  · intro w hSw; (try dsimp only at hSw); go_simp; try (with_reducible rfl)
  try simp only [Act.put, List.setIfInBounds_toArray, List.set_cons_zero, List.set_cons_succ]
  refine take_runs (i := 1) (v := ?_) (by simp only [List.getElem?_toArray, List.getElem?_cons_succ, List.getElem?_cons_zero]; rfl) (by kernel_rfl) (by kernel_rfl) (by kernel_rfl) rfl (by exact fun _ _ _ h => h) (by rfl) ?_ (by assumption) ?_
  rotate_left
  · intro w hSw; (try dsimp only at hSw); go_simp; try (with_reducible rfl)
  try simp only [Act.put, List.setIfInBounds_toArray, List.set_cons_zero, List.set_cons_succ]
  refine wpAnyH_ready (rs := [2]) (by kernel_rfl) (by simp) ?_
  refine AllReadyH.cons (o := _) (by simp only [List.getElem?_toArray, List.getElem?_cons_succ, List.getElem?_cons_zero]; rfl) (fun K hK => ?_) AllReadyH.nil
  go_simp
  refine (HI.out _).mono ?_
  rintro e w8 ⟨rfl, rfl⟩
  refine hK.out _ _ ⟨q0, q1, q2, q3, q4⟩ (fun hHeld => ?_)
  clear hK K
  try simp only [Act.put, List.setIfInBounds_toArray, List.set_cons_zero, List.set_cons_succ]
  refine take_runs (i := 3) (v := ?_) (by simp only [List.getElem?_toArray, List.getElem?_cons_succ, List.getElem?_cons_zero]; rfl) (by kernel_rfl) (by kernel_rfl) (by kernel_rfl) rfl (by exact fun _ _ _ h => h) (by rfl) ?_ (by assumption) ?_
  rotate_left
  · intro w hSw; (try dsimp only at hSw); go_simp; try (with_reducible rfl)
  try simp only [Act.put, List.setIfInBounds_toArray, List.set_cons_zero, List.set_cons_succ]
  refine take_runs (i := 4) (v := ?_) (by simp only [List.getElem?_toArray, List.getElem?_cons_succ, List.getElem?_cons_zero]; rfl) (by kernel_rfl) (by kernel_rfl) (by kernel_rfl) rfl (by exact fun _ _ _ h => h) (by rfl) ?_ (by assumption) ?_
  rotate_left
  · intro w hSw; (try dsimp only at hSw); go_simp; try (with_reducible rfl)
  try simp only [Act.put, List.setIfInBounds_toArray, List.set_cons_zero, List.set_cons_succ]
  refine take_runs (i := 5) (v := ?_) (by simp only [List.getElem?_toArray, List.getElem?_cons_succ, List.getElem?_cons_zero]; rfl) (by kernel_rfl) (by kernel_rfl) (by kernel_rfl) rfl (by exact fun _ _ _ h => h) (by rfl) ?_ (by assumption) ?_
  rotate_left
  · intro w hSw; (try dsimp only at hSw); go_simp; try (with_reducible rfl)
  try simp only [Act.put, List.setIfInBounds_toArray, List.set_cons_zero, List.set_cons_succ]
  refine take_runs (i := 6) (v := ?_) (by simp only [List.getElem?_toArray, List.getElem?_cons_succ, List.getElem?_cons_zero]; rfl) (by kernel_rfl) (by kernel_rfl) (by kernel_rfl) rfl (by exact fun _ _ _ h => h) (by rfl) ?_ (by assumption) ?_
  rotate_left
  · intro w hSw; (try dsimp only at hSw); go_simp; try (with_reducible rfl)
  try simp only [Act.put, List.setIfInBounds_toArray, List.set_cons_zero, List.set_cons_succ]
  refine take_runs (i := 7) (v := ?_) (by simp only [List.getElem?_toArray, List.getElem?_cons_succ, List.getElem?_cons_zero]; rfl) (by kernel_rfl) (by kernel_rfl) (by kernel_rfl) rfl (by exact fun _ _ _ h => h) (by rfl) ?_ (by assumption) ?_
  rotate_left
  · intro w hSw; (try dsimp only at hSw); go_simp; try (with_reducible rfl)
  try simp only [Act.put, List.setIfInBounds_toArray, List.set_cons_zero, List.set_cons_succ]
  refine take_runs (i := 8) (v := ?_) (by simp only [List.getElem?_toArray, List.getElem?_cons_succ, List.getElem?_cons_zero]; rfl) (by kernel_rfl) (by kernel_rfl) (by kernel_rfl) rfl (by exact fun _ _ _ h => h) (by rfl) ?_ (by assumption) ?_
  rotate_left
  · intro w hSw; (try dsimp only at hSw); go_simp; try (with_reducible rfl)
  try simp only [Act.put, List.setIfInBounds_toArray, List.set_cons_zero, List.set_cons_succ]
  refine take_runs (i := 9) (v := ?_) (by simp only [List.getElem?_toArray, List.getElem?_cons_succ, List.getElem?_cons_zero]; rfl) (by kernel_rfl) (by kernel_rfl) (by kernel_rfl) rfl (by exact fun _ _ _ h => h) (by rfl) ?_ (by assumption) ?_
  rotate_left
  · intro w hSw; (try dsimp only at hSw); go_simp; try (with_reducible rfl)
  try simp only [Act.put, List.setIfInBounds_toArray, List.set_cons_zero, List.set_cons_succ]
  refine take_runs (i := 10) (v := ?_) (by simp only [List.getElem?_toArray, List.getElem?_cons_succ, List.getElem?_cons_zero]; rfl) (by kernel_rfl) (by kernel_rfl) (by kernel_rfl) rfl (by exact fun _ _ _ h => h) (by rfl) ?_ (by assumption) ?_
  rotate_left
  · intro w hSw; (try dsimp only at hSw); go_simp; try (with_reducible rfl)
  try simp only [Act.put, List.setIfInBounds_toArray, List.set_cons_zero, List.set_cons_succ]
  refine take_runs (i := 11) (v := ?_) (by simp only [List.getElem?_toArray, List.getElem?_cons_succ, List.getElem?_cons_zero]; rfl) (by kernel_rfl) (by kernel_rfl) (by kernel_rfl) rfl (by exact fun _ _ _ h => h) (by rfl) ?_ (by assumption) ?_
  rotate_left
  · intro w hSw; (try dsimp only at hSw); go_simp; try (with_reducible rfl)
  try simp only [Act.put, List.setIfInBounds_toArray, List.set_cons_zero, List.set_cons_succ]
  refine take_runs (i := 12) (v := ?_) (by simp only [List.getElem?_toArray, List.getElem?_cons_succ, List.getElem?_cons_zero]; rfl) (by kernel_rfl) (by kernel_rfl) (by kernel_rfl) rfl (by exact fun _ _ _ h => h) (by rfl) ?_ (by assumption) ?_
  rotate_left
  · intro w hSw; (try dsimp only at hSw); go_simp; try (with_reducible rfl)
  try simp only [Act.put, List.setIfInBounds_toArray, List.set_cons_zero, List.set_cons_succ]
  refine wpAnyH_ready (rs := [13]) (by kernel_rfl) (by simp) ?_
  refine AllReadyH.cons (o := _) (by simp only [List.getElem?_toArray, List.getElem?_cons_succ, List.getElem?_cons_zero]; rfl) (fun K hK => ?_) AllReadyH.nil
  go_simp
  refine (HL.out _).mono ?_
  rintro e w9 ⟨rfl, b9⟩
  have b10 : Below W.heap.size W w9 := below_from rfl b9
  have g2 := (b10.block w.heap.size hlt).trans g0
  have r0 := cell_of_row w9 _ 0 _ _ _ g2
  have r1 := cell_of_row w9 _ 1 _ _ _ g2
  have r2 := cell_of_row w9 _ 2 _ _ _ g2
  have r3 := cell_of_row w9 _ 3 _ _ _ g2
  have r4 := cell_of_row w9 _ 4 _ _ _ g2
  simp at r0 r1 r2 r3 r4
  refine hK.out _ _ ⟨r0, r1, r2, r3, r4⟩ (fun hHeld => ?_)
  clear hK K
  try simp only [Act.put, List.setIfInBounds_toArray, List.set_cons_zero, List.set_cons_succ]
  refine take_runs (i := 14) (v := ?_) (by simp only [List.getElem?_toArray, List.getElem?_cons_succ, List.getElem?_cons_zero]; rfl) (by kernel_rfl) (by kernel_rfl) (by kernel_rfl) rfl (by exact fun _ _ _ h => h) (by rfl) ?_ (by assumption) ?_
  rotate_left
  · intro w hSw; (try dsimp only at hSw); go_simp; try (with_reducible rfl)
  try simp only [Act.put, List.setIfInBounds_toArray, List.set_cons_zero, List.set_cons_succ]
  refine take_runs (i := 15) (v := ?_) (by simp only [List.getElem?_toArray, List.getElem?_cons_succ, List.getElem?_cons_zero]; rfl) (by kernel_rfl) (by kernel_rfl) (by kernel_rfl) rfl (by exact fun _ _ _ h => h) (by rfl) ?_ (by assumption) ?_
  rotate_left
  · intro w hSw; (try dsimp only at hSw); go_simp; try (with_reducible rfl)
  try simp only [Act.put, List.setIfInBounds_toArray, List.set_cons_zero, List.set_cons_succ]
  refine take_runs (i := 16) (v := ?_) (by simp only [List.getElem?_toArray, List.getElem?_cons_succ, List.getElem?_cons_zero]; rfl) (by kernel_rfl) (by kernel_rfl) (by kernel_rfl) rfl (by exact fun _ _ _ h => h) (by rfl) ?_ (by assumption) ?_
  rotate_left
  · intro w hSw; (try dsimp only at hSw); go_simp; try (with_reducible rfl)
  try simp only [Act.put, List.setIfInBounds_toArray, List.set_cons_zero, List.set_cons_succ]
  refine wpAnyH_done (by kernel_rfl) ?_ _
  have b11 := hh.trans (b10.mono hh.size)
  clear hHeld b9 b10
  go_wp2
  go_ret
  exact ⟨rfl, b11⟩
theorem isValid_any (id n a b c : Int) (w : World) :
    Calls Try.prog 107 #[.agg #[.int .i64 id, .int .i64 n, .int .i64 a, .int .i64 b, .int .i64 c]] w fun e w' => e = .returned (.bool (recB id n a b c)) ∧ Below w.heap.size w w' := by
  by_cases h : 0 ≤ id ∧ id ≤ 999
  · by_cases h3 : n = 3
    · have e : recB id n a b c = (a == limI a && b == limI b && c == limI c) := by unfold recB; rw [decide_eq_true h, decide_eq_true h3]; simp
      rw [e]
      exact isValid_all id n a b c w h.1 h.2 h3
    · have e : recB id n a b c = false := by unfold recB; rw [decide_eq_false h3]; simp
      rw [e]
      exact isValid_count id n a b c w h.1 h.2 h3
  · have e : recB id n a b c = false := by unfold recB; rw [decide_eq_false h]; simp
    rw [e]
    exact isValid_id id n a b c w h
set_option maxHeartbeats 4000000 in
set_option maxRecDepth 100000 in
theorem implIsRow (id : Int) (vv : Value) (xs : List Int) (w : World) (h : Ints w vv xs) (hn : xs.length ≤ 1048576) :
    Calls Try.prog 88 #[.agg #[.int .i64 id, vv]] w fun e w' => e = .returned (.bool (rowB (id, xs))) ∧ Below w.heap.size w w' := by
  have HR := Lib.hid (fun w h => recordOf_any id vv xs w h hn)
  have HV := Lib.hid (fun w => isValid_any id xs.length (xs.getD 0 0) (xs.getD 1 0) (xs.getD 2 0) w)
  rw [recB_row] at HV
  have H := Lib.hid h
  unfold recV at HR
  clear h hn
  generalize xs.getD 0 0 = x0 at *
  generalize xs.getD 1 0 = x1 at *
  generalize xs.getD 2 0 = x2 at *
  generalize rowB (id, xs) = r at *
  go_enter Try.func88, Try.ntmps88
  go_wp2_with fail
  have hb : Below w.heap.size w (w.alloc (.cells #[.int .i64 id, vv] 29)) := (Below.refl _ w).alloc (Nat.le_refl _) _
  refine (HR.out _ (ints_below H.out hb)).mono ?_
  rintro e w1 ⟨rfl, b1⟩
  have b2 := hb.trans (b1.mono hb.size)
  clear hb b1
  go_wp2_with fail
  refine (HV.out _).mono ?_
  rintro e w2 ⟨rfl, b3⟩
  have b4 := b2.trans (b3.mono b2.size)
  clear b2 b3
  go_wp2
  go_ret
  exact ⟨rfl, b4⟩
end Go.Proofs.Ythiiaiholcfhhaa
