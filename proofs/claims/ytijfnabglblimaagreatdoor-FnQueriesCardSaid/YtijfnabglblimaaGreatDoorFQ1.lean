/-
  Texts of the proof, merged: Bytes, Ints, LawInts, RowVal, SetMath, SetSpec, RowSpec, RowLaw1, AppInts, RowSl, RowOwn, RowLaws, RowEq, Take, RowAre, RowLess, RowCopy, RowMark, RowMarkW, RowIns, RowInsM, RowSort, RowOrd, Rec, RecLim, RecEq, RowIsP, RowEqP, RowCmp, SpanVal, SpanSl, FreshInts, FindSpec, CopyP, RowCopyP, CondVal, CondSpec, QueryVal.
-/
import Derived.Test.YtijfnabglblimaaGreatDoorRows
import Derived.Test.YtijfnabglblimaaGreatDoorShelf
import Derived.Laws.BytesArg
import Derived.Laws.IdiomStrings
import Derived.Laws.Concat
import Derived.WalkKit
import Derived.Below
import Derived.Lib.Hide
import Derived.OwnWalk
import Derived.BigQuiet
import Derived.Deep.QuietTactic
import Derived.WalkSpells
import Derived.Deep.RegionHeld3
import Derived.IntWalk
import Derived.Deep.Upon
import Derived.Maps.AppendAt
import Derived.Lib.Small
import Derived.Laws.CopyOwn
import Derived.Lib.MinMax
import Derived.Laws.StructEq
import Derived.Sort.Grow
namespace Go.Proofs.YtijfnabglblimaaGreatDoor
open Go.RowKit
theorem ret_strI {xs ys : List Int} (h : xs = ys) : Ending.returned (.string (strOfNums xs)) = .returned (.string (strOfNums ys)) := by rw [h]
/-- The slice v owns the bytes xs. -/
def OwnsB (w : World) (B : Nat) (v : Value) (xs : List Int) : Prop := w.ownsRow B 5 1 v xs.length (xs.map (Value.int .u8))
theorem ownsB_lit (w : World) (B : Nat) (hb : B ≤ w.heap.size) (C : Array Value) (n : Nat) (xs : List Int) (hC : C.toList = xs.map (Value.int .u8)) (hn : n = xs.length) (hm : n ≤ maxLen) :
    OwnsB (w.alloc (.cells C 5)) B (.slice (some ⟨w.heap.size, 0, none⟩) n n) xs := by
  subst hn
  have := World.ownsRow_lit (e := 5) (size := 1) w C xs.length hb hm (by have := congrArg List.length hC; simpa using this)
  rw [hC] at this
  exact this
/-- 'string(out)'. -/
theorem string_owned {w : World} {B : Nat} {v : Value} {xs : List Int} (hown : OwnsB w B v xs) : (convert 22 9 v).run Tryz.prog w = .ok (.string (strOfNums xs)) w := by
  rcases hown.2 with ⟨rfl, h0⟩ | ⟨g, cap, cur, rfl, hb, hg, _⟩
  · have : xs = [] := List.eq_nil_of_length_eq_zero h0
    subst this
    rw [run_convert_bytes_nil w 22 5 Tryz.underlying22 Tryz.underlying5 0 0 9 Tryz.underlying9]
    rfl
  · refine run_convert_bytes_arg w 22 5 Tryz.underlying22 Tryz.underlying5 g 0 xs.length cap xs rfl ?_ 9 Tryz.underlying9
    intro i hi
    have := World.ownsRow.cells hown (g := g) rfl i (.int .u8 (xs.getD i 0)) (by simp [List.getElem?_eq_getElem hi])
    have e : (⟨g, 0, none⟩ : Addr).add i = ⟨g, 0 + i, none⟩ := by unfold Addr.add; split <;> simp_all
    rwa [e] at this
/-- 'string([]byte{x})'. -/
theorem string_lit1 (w : World) (x : Int) : (convert 22 9 (.slice (some ⟨w.heap.size, 0, none⟩) 1 1)).run Tryz.prog (w.alloc (.cells #[.int .u8 x] 5)) = .ok (.string (strOfNums [x])) (w.alloc (.cells #[.int .u8 x] 5)) :=
  string_owned (B := 0) (ownsB_lit w 0 (Nat.zero_le _) #[.int .u8 x] 1 [x] rfl rfl (by decide))
theorem strOfNums_append (xs ys : List Int) : strOfNums xs ++ strOfNums ys = strOfNums (xs ++ ys) := by
  apply ByteArray.ext
  simp [strOfNums]
theorem concat_cons (x : Int) (ys : List Int) (h : ys.length ≤ 1048576) (w : World) : (Op.stringOp .add (strOfNums [x]) (strOfNums ys)).run Tryz.prog w = .ok (.string (strOfNums (x :: ys))) w := by
  rw [run_string_add_sum w _ _ (by rw [strOfNums_size, strOfNums_size]; simp; omega), strOfNums_append]
  rfl
end Go.Proofs.YtijfnabglblimaaGreatDoor
namespace Go.Proofs.YtijfnabglblimaaGreatDoor
open Go.RowKit
set_option linter.unusedVariables false
theorem Tryz.infoI64 : (Tryz.prog.info? 3).map (fun i => (i.zero, i.size, i.bytes)) = some (some (.int .i64 0), 1, 8) := by kernel_rfl
/-- The slice v reads as the numbers xs. -/
def Ints (w : World) (v : Value) (xs : List Int) : Prop :=
  (xs = [] ∧ ∃ a cap, v = .slice a 0 cap) ∨ ∃ b off cap, v = .slice (some ⟨b, off, none⟩) xs.length cap ∧ xs.length ≤ cap ∧ b < w.heap.size ∧ ∀ j, j < xs.length → w.cell? ⟨b, off + j, none⟩ = some (.int .i64 (xs.getD j 0))
/-- The slice v owns the numbers xs, in a block from B on. -/
def OwnsN (w : World) (B : Nat) (v : Value) (xs : List Int) : Prop := w.ownsRow B 3 1 v xs.length (xs.map (Value.int .i64))
theorem below_same {B : Nat} {a w w' : World} (h : Below B a w) (h1 : w'.heap = w.heap) (h2 : w'.os = w.os) (h3 : w'.tape = w.tape) (h4 : w'.output = w.output) : Below B a w' :=
  ⟨h2.trans h.os, h3.trans h.tape, h4.trans h.output, by rw [h1]; exact h.size, fun k hk => by rw [h1]; exact h.block k hk⟩
theorem ints_len {w : World} {v : Value} {xs : List Int} (h : Ints w v xs) : ∃ a cap, v = .slice a xs.length cap := by
  rcases h with ⟨rfl, a, cap, rfl⟩ | ⟨b, off, cap, rfl, _⟩
  · exact ⟨a, cap, rfl⟩
  · exact ⟨_, cap, rfl⟩
theorem ints_below {W w : World} {v : Value} {xs : List Int} (h : Ints W v xs) (hb : Below W.heap.size W w) : Ints w v xs := by
  rcases h with h | ⟨b, off, cap, h1, h2, h3, h4⟩
  · exact Or.inl h
  · exact Or.inr ⟨b, off, cap, h1, h2, Nat.lt_of_lt_of_le h3 hb.size, fun j hj => (hb.cell (p := ⟨b, off + j, none⟩) h3).trans (h4 j hj)⟩
theorem ownsN_nil (w : World) (B : Nat) : OwnsN w B (.slice none 0 0) [] := World.ownsRow_nil w B _ _
theorem ownsN_lit (w : World) (B : Nat) (hb : B ≤ w.heap.size) (C : Array Value) (n : Nat) (xs : List Int) (hC : C.toList = xs.map (Value.int .i64)) (hn : n = xs.length) (hm : n ≤ maxLen) :
    OwnsN (w.alloc (.cells C 3)) B (.slice (some ⟨w.heap.size, 0, none⟩) n n) xs := by
  subst hn
  have := World.ownsRow_lit (e := 3) (size := 1) w C xs.length hb hm (by have := congrArg List.length hC; simpa using this)
  rw [hC] at this
  exact this
theorem cell_lit (w : World) (C : Array Value) (t : TypeId) (j : Nat) : (w.alloc (.cells C t)).cell? ⟨w.heap.size, j, none⟩ = C[j]? := by
  rw [cell_of_row _ w.heap.size j C t (0, 0) (heap_alloc_new w _)]
/-- What is owned reads so. -/
theorem ownsN_ints {w : World} {B : Nat} {v : Value} {xs : List Int} (h : OwnsN w B v xs) : Ints w v xs := by
  rcases h.2 with ⟨rfl, h0⟩ | ⟨g, cap, cur, rfl, hb, hg, hn, hm, hcs, htake⟩
  · have : xs = [] := List.eq_nil_of_length_eq_zero h0
    subst this
    exact Or.inl ⟨rfl, none, 0, rfl⟩
  · refine Or.inr ⟨g, 0, cap, rfl, hn, (Array.getElem?_eq_some_iff.1 hg).1, ?_⟩
    intro j hj
    have := World.ownsRow.cells h (g := g) rfl j (.int .i64 (xs.getD j 0)) (by simp [List.getElem?_eq_getElem hj])
    have e : (⟨g, 0, none⟩ : Addr).add j = ⟨g, 0 + j, none⟩ := by unfold Addr.add; split <;> simp_all
    rwa [e] at this
/-- What 'make([]int, n)' owns. -/
theorem ownsN_made {w : World} {B g n : Nat} (h : w.ownsRow B 3 1 (.slice (some ⟨g, 0, none⟩) n n) n (madeCells #[Value.int .i64 0] n).toList) : OwnsN w B (.slice (some ⟨g, 0, none⟩) n n) (List.replicate n 0) := by
  have e : (madeCells #[Value.int .i64 0] n).toList = List.replicate n (.int .i64 0) := toList_madeCells_one (.int .i64 0) n
  rw [e] at h
  unfold OwnsN
  simpa using h
theorem ownsN_len {w : World} {B : Nat} {a : Option Addr} {n cap : Nat} {xs : List Int} (h : OwnsN w B (.slice a n cap) xs) : n = xs.length := by
  rcases h.2 with ⟨h', h0⟩ | ⟨_, _, _, h', _⟩
  · simp only [Value.slice.injEq] at h'; omega
  · simp only [Value.slice.injEq] at h'; exact h'.2.1
theorem ownsN_cell {w : World} {B g n cap j : Nat} {xs : List Int} {x : Int} (h : OwnsN w B (.slice (some ⟨g, 0, none⟩) n cap) xs) (hx : xs[j]? = some x) : w.cell? ⟨g, j, none⟩ = some (.int .i64 x) := by
  have := World.ownsRow.cells h (g := g) rfl j (.int .i64 x) (by simp [hx])
  have e : (⟨g, 0, none⟩ : Addr).add j = ⟨g, j, none⟩ := by unfold Addr.add; split <;> simp_all
  rwa [e] at this
theorem ownsN_frozen {w : World} {B g n cap : Nat} {xs : List Int} (h : OwnsN w B (.slice (some ⟨g, 0, none⟩) n cap) xs) (j : Nat) : w.frozen? ⟨g, j, none⟩ = false := by
  obtain rfl := ownsN_len h
  exact World.ownsRow.frozenAt h j
theorem ownsN_store {w : World} {B g n cap : Nat} {xs : List Int} (h : OwnsN w B (.slice (some ⟨g, 0, none⟩) n cap) xs) (j : Nat) (x : Int) : OwnsN (w.setCell ⟨g, j, none⟩ (.int .i64 x)) B (.slice (some ⟨g, 0, none⟩) n cap) (xs.set j x) := by
  obtain rfl := ownsN_len h
  have := (World.ownsRow.stored h j (.int .i64 x)).1
  unfold OwnsN
  rw [List.length_set, List.map_set]
  exact this
/-- What is owned stays owned while only blocks beyond it, or none of its own, are written. -/
theorem ownsN_below {w w' : World} {B : Nat} {v : Value} {xs : List Int} (h : OwnsN w B v xs) (hb : Below w.heap.size w w') : OwnsN w' B v xs := by
  refine ⟨h.1, ?_⟩
  rcases h.2 with hn | ⟨g, cap, cur, rfl, hb', hg, rest⟩
  · exact .inl hn
  · refine .inr ⟨g, cap, cur, rfl, hb', ?_, rest⟩
    rw [hb.block g (Array.getElem?_eq_some_iff.1 hg).1]
    exact hg
/-- The form of what is owned: nil, or the head of a block. -/
theorem ownsN_form {w : World} {B : Nat} {v : Value} {xs : List Int} (h : OwnsN w B v xs) : (v = .slice none 0 0 ∧ xs = []) ∨ ∃ g cap, v = .slice (some ⟨g, 0, none⟩) xs.length cap ∧ B ≤ g ∧ g < w.heap.size := by
  rcases h.2 with ⟨rfl, h0⟩ | ⟨g, cap, cur, rfl, hb, hg, _⟩
  · exact .inl ⟨rfl, List.eq_nil_of_length_eq_zero h0⟩
  · exact .inr ⟨g, cap, rfl, hb, (Array.getElem?_eq_some_iff.1 hg).1⟩
end Go.Proofs.YtijfnabglblimaaGreatDoor
namespace Go.Proofs.YtijfnabglblimaaGreatDoor
open Go.RowKit
set_option linter.unusedVariables false
theorem ints_cell {w : World} {v : Value} {xs : List Int} (h : Ints w v xs) (hp : 0 < xs.length) : ∃ b off cap, v = .slice (some ⟨b, off, none⟩) xs.length cap ∧ b < w.heap.size ∧ ∀ j, j < xs.length → w.cell? ⟨b, off + j, none⟩ = some (.int .i64 (xs.getD j 0)) := by
  rcases h with ⟨rfl, _⟩ | ⟨b, off, cap, h1, h2, h3, h4⟩
  · simp at hp
  · exact ⟨b, off, cap, h1, h3, h4⟩
/-- The numbers k, k + 1, ... -/
def marks (k : Int) (n : Nat) : List Int := (List.range n).map fun i : Nat => k + (i : Int)
end Go.Proofs.YtijfnabglblimaaGreatDoor
namespace Go.Proofs.YtijfnabglblimaaGreatDoor
open Go.RowKit
set_option linter.unusedVariables false
/-- A row: its number and its values. -/
abbrev RowD := Int × List Int
/-- A row in new memory is answered. -/
def FreshRow (w : World) (r : RowD) (e : Ending) (w' : World) : Prop := ∃ vv, e = .returned (.agg #[.int .i64 r.1, vv]) ∧ OwnsN w' w.heap.size vv r.2 ∧ Below w.heap.size w w'
theorem grow_set (w : World) (c j : Nat) (u : Value) : w.grownBy (w.setCell ⟨c, j, none⟩ u) (some c) :=
  ⟨rfl, rfl, rfl, by simp [World.setCell], fun k _ hk => heap_setCell_other w ⟨c, j, none⟩ k u (fun e => hk (by simp [e]))⟩
/-- A store into a block below what is owned. -/
theorem ownsN_low {w : World} {C : Nat} {v : Value} {xs : List Int} (h : OwnsN w C v xs) {b : Nat} (hb : b < C) (j : Nat) (u : Value) : OwnsN (w.setCell ⟨b, j, none⟩ u) C v xs := by
  refine h.kept (grow_set w b j u) ?_
  cases hv : v.ownBlock with
  | none => exact Or.inl rfl
  | some k => exact Or.inr (by intro e; have := (h.lt k hv).1; simp at e; omega)
theorem ownsN_up {w : World} {B C : Nat} {v : Value} {xs : List Int} (h : OwnsN w C v xs) (hb : B ≤ C) : OwnsN w B v xs := by
  refine ⟨h.1, ?_⟩
  rcases h.2 with hn | ⟨g, cap, cur, e, hb', rest⟩
  · exact .inl hn
  · exact .inr ⟨g, cap, cur, e, Nat.le_trans hb hb', rest⟩
end Go.Proofs.YtijfnabglblimaaGreatDoor
namespace Go.Proofs.YtijfnabglblimaaGreatDoor
end Go.Proofs.YtijfnabglblimaaGreatDoor
namespace Go.Proofs.YtijfnabglblimaaGreatDoor
open Go.RowKit
set_option linter.unusedVariables false
theorem ret_b {b c : Bool} (h : b = c) : Ending.returned (.bool b) = .returned (.bool c) := by rw [h]
theorem in_yes (a l h : Int) (w : World) (h1 : l ≤ a) (h2 : a ≤ h) : Calls Tryz.prog 41 #[.int .i64 a, .int .i64 l, .int .i64 h] w fun e w' => e = .returned (.bool true) ∧ w' = w := by
  go_enter Tryz.func41, Tryz.ntmps41
  go_wp2
  go_ret
  exact ⟨rfl, rfl⟩
theorem in_no (a l h : Int) (w : World) (hh : ¬ (l ≤ a ∧ a ≤ h)) : Calls Tryz.prog 41 #[.int .i64 a, .int .i64 l, .int .i64 h] w fun e w' => e = .returned (.bool false) ∧ w' = w := by
  by_cases h1 : l ≤ a
  · have h2 : ¬ a ≤ h := by omega
    clear hh
    go_enter Tryz.func41, Tryz.ntmps41
    go_wp2
    go_ret
    exact ⟨rfl, rfl⟩
  · clear hh
    go_enter Tryz.func41, Tryz.ntmps41
    go_wp2
    go_ret
    exact ⟨rfl, rfl⟩
/-! ### HasMember -/
/-! ### IsSet -/
end Go.Proofs.YtijfnabglblimaaGreatDoor
namespace Go.Proofs.YtijfnabglblimaaGreatDoor
open Go.RowKit
set_option linter.unusedVariables false
/-- Is it a row? -/
def rowB (r : RowD) : Bool := decide (0 ≤ r.1 ∧ r.1 ≤ 999) && (r.2.all (fun x => decide (0 ≤ x ∧ x ≤ 99)) && decide (r.2.length = 3))
theorem rowB_bad {id : Int} {xs : List Int} {k : Nat} (hk : k < xs.length) (h : ¬ (0 ≤ xs.getD k 0 ∧ xs.getD k 0 ≤ 99)) : rowB (id, xs) = false := by
  have e : xs.getD k 0 = xs[k] := by simp [List.getD, hk]
  rw [e] at h
  have : (xs.all fun x => decide (0 ≤ x ∧ x ≤ 99)) = false := by
    rw [Bool.eq_false_iff]
    intro g
    rw [List.all_eq_true] at g
    exact h (of_decide_eq_true (g _ (List.getElem_mem hk)))
  unfold rowB
  simp only [this]
  simp
theorem rowB_all {id : Int} {xs : List Int} (h : ∀ k, k < xs.length → 0 ≤ xs.getD k 0 ∧ xs.getD k 0 ≤ 99) : rowB (id, xs) = (decide (0 ≤ id ∧ id ≤ 999) && decide (xs.length = 3)) := by
  have : (xs.all fun x => decide (0 ≤ x ∧ x ≤ 99)) = true := by
    rw [List.all_eq_true]
    intro x hx
    obtain ⟨k, hk, rfl⟩ := List.getElem_of_mem hx
    have := h k hk
    have e : xs.getD k 0 = xs[k] := by simp [List.getD, hk]
    rw [e] at this
    exact decide_eq_true this
  unfold rowB
  simp only [this, Bool.true_and]
set_option maxHeartbeats 2000000 in
set_option maxRecDepth 100000 in
theorem specIsRow (id : Int) (vv : Value) (xs : List Int) (w : World) (h : Ints w vv xs) (hn : xs.length ≤ 1048576) :
    Calls Tryz.prog 45 #[.agg #[.int .i64 id, vv]] w fun e w' => e = .returned (.bool (rowB (id, xs))) ∧ Below w.heap.size w w' := by
  have H := Lib.hid h
  obtain ⟨a, cap, rfl⟩ := ints_len h
  clear h
  go_enter Tryz.func45, Tryz.ntmps45
  go_wp2
  have hb0 : Below w.heap.size w (w.alloc (.cells #[.int .i64 id, .slice a xs.length cap] 36)) := (Below.refl _ w).alloc (Nat.le_refl _) _
  have hc0 : (w.alloc (.cells #[.int .i64 id, .slice a xs.length cap] 36)).heap[w.heap.size]? = some (.cells #[.int .i64 id, .slice a xs.length cap] 36 (0, 0)) := heap_alloc_new w _
  have d0 := (cell_of_row _ _ 0 _ _ _ hc0).trans (show _ = some (Value.int .i64 id) from rfl)
  have d1 := (cell_of_row _ _ 1 _ _ _ hc0).trans (show _ = some (Value.slice a xs.length cap) from rfl)
  have H1 := Lib.hid (ints_below H.out hb0)
  have hlt1 : w.heap.size < (w.alloc (.cells #[.int .i64 id, .slice a xs.length cap] 36)).heap.size := by simp [World.size_alloc]
  generalize w.alloc (.cells #[.int .i64 id, .slice a xs.length cap] 36) = W at *
  clear hc0
  go_loopw [3] (fun i wr => ∃ k : Nat, k ≤ xs.length ∧ i = .int .i64 k ∧ Hid (∀ j, j < k → 0 ≤ xs.getD j 0 ∧ xs.getD j 0 ≤ 99) ∧ Below W.heap.size W wr) (fun i _ => xs.length - (intOf i).toNat)
  case atStart => exact ⟨0, Nat.zero_le _, rfl, Lib.hid (fun j hj => by omega), Below.refl _ _⟩
  case round =>
    obtain ⟨k, hk, rfl, hall, hbel⟩ := hrel
    have c0 := (hbel.cell (p := ⟨w.heap.size, 0, none⟩) hlt1).trans d0
    have c1 := (hbel.cell (p := ⟨w.heap.size, 1, none⟩) hlt1).trans d1
    by_cases hlt : k < xs.length
    · obtain ⟨b, off, cap', hv, hbl, hc⟩ := ints_cell H1.out (by omega)
      simp only [Value.slice.injEq] at hv
      obtain ⟨rfl, _, rfl⟩ := hv
      have hcell := (hbel.cell (p := ⟨b, off + k, none⟩) hbl).trans (hc k hlt)
      have i1 : (0 : Int) ≤ (k : Int) := by omega
      have i2 : (k : Int) < (xs.length : Int) := by omega
      clear hc
      by_cases hr : 0 ≤ xs.getD k 0 ∧ xs.getD k 0 ≤ 99
      · have HA : Hid (∀ j, j < k + 1 → 0 ≤ xs.getD j 0 ∧ xs.getD j 0 ≤ 99) := Lib.hid (fun j hj => by
          by_cases e : j = k
          · exact e ▸ hr
          · exact hall.out j (by omega))
        have HI := Lib.hid (fun w => in_yes (xs.getD k 0) 0 99 w hr.1 hr.2)
        clear hr hall
        generalize xs.getD k 0 = y at *
        go_wp2_with fail
        refine (HI.out _).mono ?_
        rintro e wx ⟨rfl, rfl⟩
        go_wp2
        go_roundw
        case rel => exact ⟨k + 1, by omega, by go_num, HA, hbel⟩
        case measure => simp [intOf]; omega
      · have HF := Lib.hid (rowB_bad (id := id) hlt hr)
        have HI := Lib.hid (fun w => in_no (xs.getD k 0) 0 99 w hr)
        clear hr hall
        generalize xs.getD k 0 = y at *
        go_wp2_with fail
        refine (HI.out _).mono ?_
        rintro e wx ⟨rfl, rfl⟩
        go_wp2
        go_ret
        exact ⟨ret_b HF.out.symm, hb0.trans (hbel.mono hb0.size)⟩
    · obtain rfl : k = xs.length := by omega
      have HF := Lib.hid (rowB_all (id := id) hall.out)
      clear hall
      by_cases hr : 0 ≤ id ∧ id ≤ 999
      · have HI := Lib.hid (fun w => in_yes id 0 999 w hr.1 hr.2)
        have HD := Lib.hid (decide_eq_true hr)
        rw [HD.out] at HF
        clear hr HD
        go_wp2_with fail
        refine (HI.out _).mono ?_
        rintro e wx ⟨rfl, rfl⟩
        by_cases h3 : xs.length = 3
        · have h3' : ((xs.length : Int) == 3) = true := by rw [beq_iff_eq]; omega
          have HE : Hid (rowB (id, xs) = true) := Lib.hid (by rw [HF.out, decide_eq_true h3]; rfl)
          clear h3
          go_wp2
          go_ret
          exact ⟨ret_b HE.out.symm, hb0.trans (hbel.mono hb0.size)⟩
        · have h3' : ((xs.length : Int) == 3) = false := by rw [beq_eq_false_iff_ne]; omega
          have HE : Hid (rowB (id, xs) = false) := Lib.hid (by rw [HF.out, decide_eq_false h3]; rfl)
          clear h3
          go_wp2
          go_ret
          exact ⟨ret_b HE.out.symm, hb0.trans (hbel.mono hb0.size)⟩
      · have HI := Lib.hid (fun w => in_no id 0 999 w hr)
        have HE : Hid (rowB (id, xs) = false) := Lib.hid (by rw [HF.out, decide_eq_false hr]; rfl)
        clear hr HF
        go_wp2_with fail
        refine (HI.out _).mono ?_
        rintro e wx ⟨rfl, rfl⟩
        go_wp2
        go_ret
        exact ⟨ret_b HE.out.symm, hb0.trans (hbel.mono hb0.size)⟩
end Go.Proofs.YtijfnabglblimaaGreatDoor
namespace Go.Proofs.YtijfnabglblimaaGreatDoor
open Go.RowKit
set_option linter.unusedVariables false
theorem ints_heap {w w' : World} {v : Value} {xs : List Int} (h : Ints w v xs) (hh : w'.heap = w.heap) : Ints w' v xs := by
  rcases h with h | ⟨b, off, cap, h1, h2, h3, h4⟩
  · exact Or.inl h
  · refine Or.inr ⟨b, off, cap, h1, h2, by rw [hh]; exact h3, fun j hj => ?_⟩
    have := h4 j hj
    unfold World.cell? at this ⊢
    rw [hh]; exact this
theorem box_cells {W w : World} {t : TypeId} {x y : Value} {b : Nat} (h : W.heap[b]? = some (.cells #[x, y] t (0, 0))) (hb : Below W.heap.size W w) :
    w.cell? ⟨b, 0, none⟩ = some x ∧ w.cell? ⟨b, 1, none⟩ = some y := by
  have hlt := (Array.getElem?_eq_some_iff.1 h).1
  have h' := (hb.block b hlt).trans h
  exact ⟨(cell_of_row w b 0 _ _ _ h').trans rfl, (cell_of_row w b 1 _ _ _ h').trans rfl⟩
theorem below_drew {B : Nat} {a w : World} (h : Below B a w) : Below B a w.drew := ⟨h.os, h.tape, h.output, h.size, h.block⟩
end Go.Proofs.YtijfnabglblimaaGreatDoor
namespace Go.Proofs.YtijfnabglblimaaGreatDoor
open Go.RowKit
set_option linter.unusedVariables false
theorem ownsN_cap {w : World} {B : Nat} {v : Value} {xs : List Int} (h : OwnsN w B v xs) : ∃ a cap, v = .slice a xs.length cap ∧ xs.length ≤ cap := by
  rcases h.2 with ⟨rfl, h0⟩ | ⟨g, cap, cur, rfl, hb, hg, hn, _⟩
  · exact ⟨none, 0, by rw [h0], by rw [h0]; exact Nat.le_refl _⟩
  · exact ⟨_, cap, rfl, hn⟩
theorem run_append_ints {w : World} {B : Nat} {v u : Value} {xs ys : List Int} (ty : TypeId) (hown : OwnsN w B v xs) (hu : Ints w u ys) (hB : B ≤ w.heap.size) (h63 : xs.length + ys.length ≤ 17592186044416) :
    ∃ v' w', (Builtin.append_ #[25, 25] ty #[v, u]).run Tryz.prog w = .ok v' w' ∧ OwnsN w' B v' (xs ++ ys) ∧ Below B w w' := by
  obtain ⟨i0, hi, hz0, hz1, hz2⟩ := info_parts Tryz.infoI64
  rcases hu with ⟨rfl, a', cap', rfl⟩ | ⟨b, off, cap', rfl, hcap, hbl, hc⟩
  · obtain ⟨a, cap, rfl, hle⟩ := ownsN_cap hown
    have hs : Src Tryz.prog i0.size 25 (.slice a' 0 cap') 0 [] w := by
      cases a' with
      | none => exact Src.ofNil w Tryz.underlying25 cap'
      | some ad => exact Src.ofSlice w Tryz.underlying25 ad 0 cap' [] (by simp) (by simp) (by simp)
    exact ⟨_, _, run_append_nothing w 25 25 ty 3 i0 Tryz.underlying25 hi a xs.length cap hle _ hs, by simpa using hown, Below.refl B w⟩
  · obtain ⟨v', w', hr, h2, h3, h4⟩ := run_append_own (P := Tryz.prog) w B 25 ty 3 i0 (.int .i64 0) 1 8 Tryz.underlying25 hi hz0 hz1 hz2 rfl (by decide) v xs.length _ hown ⟨b, off, none⟩ ys.length cap' (ys.map (Value.int .i64)) (by simp) (by
        intro j q hj
        rw [Go.WideShapes.add_plain]
        rw [List.getElem?_map] at hj
        by_cases hlt : j < ys.length
        · rw [hc j hlt]
          rw [List.getElem?_eq_getElem hlt] at hj
          simpa [List.getD, hlt] using hj
        · rw [List.getElem?_eq_none (by omega)] at hj
          simp at hj) (by intro q hq; simp at hq; obtain ⟨y, _, rfl⟩ := hq; rfl) (by unfold maxLen; omega) (by omega) hB
    refine ⟨v', w', hr, ?_, ?_⟩
    · unfold OwnsN
      simpa using h2
    · exact (Below.refl B w).grown h3 hB (fun k hk => (hown.lt k hk).1)
/-- As a step of a region taken by hand. -/
theorem step_append_ints {w : World} {ops : Array Oper} {o : Oper} {a : Act} {K : Act → World → Prop} {Q : Exit → Act → World → Prop} {E : Prop} (hwa : Region.wanted o (yielded ops a.tmps) = true) (s x : Operand)
    (ho : o.op = .call { callee := .builtin .append, args := #[s, x], argTypes := #[25, 25] })
    (B : Nat) (v u : Value) (xs ys : List Int) (hs : a.eval s = v) (hx : a.eval x = u) (hown : OwnsN w B v xs) (hu : Ints w u ys) (hB : B ≤ w.heap.size) (h63 : xs.length + ys.length ≤ 17592186044416)
    (h : ∀ v' w', OwnsN w' B v' (xs ++ ys) → Below B w w' → K (a.put o.dst v') w') : if Region.wanted o (yielded ops a.tmps) = true then Oper.wp Tryz.prog o a w K Q else E := by
  rw [if_pos hwa]
  obtain ⟨v', w', hr, h2, h3⟩ := run_append_ints o.type hown hu hB h63
  unfold Oper.wp execOp
  simp only [ho, resolve, invoke, builtin, Sem.run_bind, Sem.run_pure, Result.andThen_ok, List.map_toArray, List.map_cons, List.map_nil, hs, hx, hr]
  exact h v' w' h2 h3
end Go.Proofs.YtijfnabglblimaaGreatDoor
namespace Go.Proofs.YtijfnabglblimaaGreatDoor
open Go.RowKit
set_option linter.unusedVariables false
/-- The slice v reads as the rows rs; vs: where their values lie. -/
def RowsR (w : World) (v : Value) (rs : List RowD) : Prop :=
  (rs = [] ∧ ∃ a cap, v = .slice a 0 cap) ∨ ∃ (b off cap : Nat) (vs : Nat → Value), v = .slice (some ⟨b, off, none⟩) rs.length cap ∧ rs.length ≤ cap ∧ b < w.heap.size ∧
    ∀ j, j < rs.length → w.cell? ⟨b, off + j * 2, none⟩ = some (.int .i64 (rs.getD j (0, [])).1) ∧ w.cell? ⟨b, off + j * 2 + 1, none⟩ = some (vs j) ∧ Ints w (vs j) (rs.getD j (0, [])).2
theorem rowsR_len {w : World} {v : Value} {rs : List RowD} (h : RowsR w v rs) : ∃ a cap, v = .slice a rs.length cap := by
  rcases h with ⟨rfl, a, cap, rfl⟩ | ⟨b, off, cap, vs, rfl, _⟩
  · exact ⟨a, cap, rfl⟩
  · exact ⟨_, cap, rfl⟩
theorem rowsR_below {W w : World} {v : Value} {rs : List RowD} (h : RowsR W v rs) (hb : Below W.heap.size W w) : RowsR w v rs := by
  rcases h with h | ⟨b, off, cap, vs, h1, h2, h3, h4⟩
  · exact Or.inl h
  · refine Or.inr ⟨b, off, cap, vs, h1, h2, Nat.lt_of_lt_of_le h3 hb.size, fun j hj => ?_⟩
    obtain ⟨g1, g2, g3⟩ := h4 j hj
    exact ⟨(hb.cell (p := ⟨b, off + j * 2, none⟩) h3).trans g1, (hb.cell (p := ⟨b, off + j * 2 + 1, none⟩) h3).trans g2, ints_below g3 hb⟩
theorem rowsR_at {w : World} {v : Value} {rs : List RowD} (h : RowsR w v rs) {k : Nat} (hk : k < rs.length) : ∃ (b off cap : Nat) (vv : Value), v = .slice (some ⟨b, off, none⟩) rs.length cap ∧ b < w.heap.size ∧
    w.cell? ⟨b, off + k * 2, none⟩ = some (.int .i64 (rs.getD k (0, [])).1) ∧ w.cell? ⟨b, off + k * 2 + 1, none⟩ = some vv ∧ Ints w vv (rs.getD k (0, [])).2 := by
  rcases h with ⟨rfl, _⟩ | ⟨b, off, cap, vs, h1, h2, h3, h4⟩
  · simp at hk
  · obtain ⟨g1, g2, g3⟩ := h4 k hk
    exact ⟨b, off, cap, vs k, h1, h3, g1, g2, g3⟩
/-- How many values and elements the first k rows hold. -/
def szTo (rs : List RowD) (k : Nat) : Nat := rs.length + ((rs.take k).map fun r => r.2.length).sum
def szL (rs : List RowD) : Nat := szTo rs rs.length
theorem szTo_zero (rs : List RowD) : szTo rs 0 = rs.length := by simp [szTo]
theorem szTo_step {rs : List RowD} {k : Nat} (hk : k < rs.length) : szTo rs (k + 1) = szTo rs k + (rs.getD k (0, [])).2.length := by
  unfold szTo
  have e : rs.getD k (0, []) = rs[k] := by simp [List.getD, hk]
  rw [e, List.take_succ_eq_append_getElem hk, List.map_append, List.sum_append]
  simp; omega
theorem szTo_le {rs : List RowD} {k : Nat} (hk : k ≤ rs.length) : szTo rs k ≤ szL rs := by
  unfold szL szTo
  obtain ⟨d, hd⟩ : ∃ d, rs.length = k + d := ⟨rs.length - k, by omega⟩
  have : rs = rs.take k ++ rs.drop k := (List.take_append_drop k rs).symm
  have h2 : (rs.map fun r => r.2.length).sum = ((rs.take k).map fun r => r.2.length).sum + ((rs.drop k).map fun r => r.2.length).sum := by
    rw [← List.sum_append, ← List.map_append, List.take_append_drop]
  rw [List.take_length, h2]
  omega
end Go.Proofs.YtijfnabglblimaaGreatDoor
namespace Go.Proofs.YtijfnabglblimaaGreatDoor
open Go.RowKit
set_option linter.unusedVariables false
theorem Tryz.infoRow : (Tryz.prog.info? 36).map (fun i => (i.zero, i.size)) = some (some (.agg #[.int .i64 0, .slice none 0 0]), 2) := by kernel_rfl
theorem row_bytes : (Tryz.prog.info? 36).map (fun i => i.bytes) = some 32 := by kernel_rfl
/-- The slice v owns the rows rs, in blocks from B on, each block once. -/
def OwnsR (w : World) (B : Nat) (v : Value) (rs : List RowD) : Prop :=
  ∃ (cs : List Value) (vs : Nat → Value), w.ownsRow B 36 2 v rs.length cs ∧
    (∀ j, j < rs.length → cs[j * 2]? = some (.int .i64 (rs.getD j (0, [])).1) ∧ cs[j * 2 + 1]? = some (vs j) ∧ OwnsN w B (vs j) (rs.getD j (0, [])).2 ∧ ∀ b, (vs j).ownBlock = some b → v.ownBlock ≠ some b) ∧
    ∀ i j, i < rs.length → j < rs.length → i ≠ j → ∀ b, (vs i).ownBlock = some b → (vs j).ownBlock ≠ some b
theorem ownsR_len {w : World} {B : Nat} {v : Value} {rs : List RowD} (h : OwnsR w B v rs) : ∃ a cap, v = .slice a rs.length cap := by
  obtain ⟨cs, vs, h1, _⟩ := h
  rcases h1.2 with ⟨rfl, h0⟩ | ⟨g, cap, cur, rfl, _⟩
  · exact ⟨none, 0, by rw [h0]⟩
  · exact ⟨_, cap, rfl⟩
theorem ownsR_rows {w : World} {B : Nat} {v : Value} {rs : List RowD} (h : OwnsR w B v rs) : RowsR w v rs := by
  obtain ⟨cs, vs, h1, h2, _⟩ := h
  have h1' := h1
  rcases h1.2 with ⟨rfl, h0⟩ | ⟨g, cap, cur, rfl, hb, hg, hn, hm, hcs, htake⟩
  · exact Or.inl ⟨List.eq_nil_of_length_eq_zero h0, none, 0, rfl⟩
  · refine Or.inr ⟨g, 0, cap, vs, rfl, hn, (Array.getElem?_eq_some_iff.1 hg).1, fun j hj => ?_⟩
    obtain ⟨g1, g2, g3, _⟩ := h2 j hj
    refine ⟨?_, ?_, ownsN_ints g3⟩
    · rw [Nat.zero_add, World.ownsRow.cellAt h1' (j * 2) (by omega)]; exact g1
    · rw [Nat.zero_add, World.ownsRow.cellAt h1' (j * 2 + 1) (by omega)]; exact g2
theorem ownsRow_below {w w' : World} {B : Nat} {e : TypeId} {size : Nat} {v : Value} {n : Nat} {xs : List Value} (h : w.ownsRow B e size v n xs) (hb : Below w.heap.size w w') : w'.ownsRow B e size v n xs := by
  refine ⟨h.1, ?_⟩
  rcases h.2 with hn | ⟨g, cap, cur, rfl, hb', hg, rest⟩
  · exact .inl hn
  · refine .inr ⟨g, cap, cur, rfl, hb', ?_, rest⟩
    rw [hb.block g (Array.getElem?_eq_some_iff.1 hg).1]
    exact hg
theorem ownsR_below {w w' : World} {B : Nat} {v : Value} {rs : List RowD} (h : OwnsR w B v rs) (hb : Below w.heap.size w w') : OwnsR w' B v rs := by
  obtain ⟨cs, vs, h1, h2, h3⟩ := h
  exact ⟨cs, vs, ownsRow_below h1 hb, fun j hj => ⟨(h2 j hj).1, (h2 j hj).2.1, ownsN_below (h2 j hj).2.2.1 hb, (h2 j hj).2.2.2⟩, h3⟩
theorem ownsR_up {w : World} {B C : Nat} {v : Value} {rs : List RowD} (h : OwnsR w C v rs) (hb : B ≤ C) : OwnsR w B v rs := by
  obtain ⟨cs, vs, h1, h2, h3⟩ := h
  refine ⟨cs, vs, ⟨h1.1, ?_⟩, fun j hj => ⟨(h2 j hj).1, (h2 j hj).2.1, ownsN_up (h2 j hj).2.2.1 hb, (h2 j hj).2.2.2⟩, h3⟩
  rcases h1.2 with hn | ⟨g, cap, cur, e, hb', rest⟩
  · exact .inl hn
  · exact .inr ⟨g, cap, cur, e, Nat.le_trans hb hb', rest⟩
/-- A row whose values were made since w0 is stored at place k. -/
theorem ownsR_store {w0 w1 : World} {B g n cap : Nat} {rs : List RowD} (h : OwnsR w0 B (.slice (some ⟨g, 0, none⟩) n cap) rs) (hb : Below w0.heap.size w0 w1) (hB : B ≤ w0.heap.size) {k : Nat} (hk : k < rs.length) (r : RowD) {vv : Value} (hv : OwnsN w1 w0.heap.size vv r.2) :
    OwnsR ((w1.setCell ⟨g, k * 2, none⟩ (.int .i64 r.1)).setCell ⟨g, k * 2 + 1, none⟩ vv) B (.slice (some ⟨g, 0, none⟩) n cap) (rs.set k r) := by
  obtain ⟨cs, vs, h1, h2, h3⟩ := h
  have hgl : g < w0.heap.size := (h1.lt g rfl).2
  have hn : n = rs.length := by
    rcases h1.2 with ⟨h', _⟩ | ⟨_, _, _, h', _⟩
    · simp at h'
    · simp only [Value.slice.injEq] at h'; exact h'.2.1
  subst hn
  have k1 := ownsRow_below h1 hb
  have s1 := (World.ownsRow.stored k1 (k * 2) (.int .i64 r.1)).1
  have s2 := (World.ownsRow.stored s1 (k * 2 + 1) vv).1
  have hcl : cs.length = rs.length * 2 := h1.1
  have hlow : ∀ (u : Value) (xs : List Int) (C : Nat), OwnsN w1 C u xs → (∀ b, u.ownBlock = some b → b ≠ g) → OwnsN ((w1.setCell ⟨g, k * 2, none⟩ (.int .i64 r.1)).setCell ⟨g, k * 2 + 1, none⟩ vv) C u xs := by
    intro u xs C hu hne
    have hp : u.ownBlock = none ∨ u.ownBlock ≠ some g := by
      cases e : u.ownBlock with
      | none => exact Or.inl rfl
      | some b => exact Or.inr (fun q => hne b e (Option.some.inj q))
    exact (World.ownsRow.kept hu (grow_set w1 g (k * 2) _) hp).kept (grow_set _ g (k * 2 + 1) _) hp
  refine ⟨(cs.set (k * 2) (.int .i64 r.1)).set (k * 2 + 1) vv, fun j => if j = k then vv else vs j, ?_, ?_, ?_⟩
  · rw [List.length_set]; exact s2
  · intro j hj
    rw [List.length_set] at hj
    by_cases e : j = k
    · subst e
      have er : (rs.set j r).getD j (0, []) = r := by simp [List.getD, hj]
      rw [er]
      simp only [if_true]
      refine ⟨?_, ?_, ?_, ?_⟩
      · rw [List.getElem?_set_ne (by omega), List.getElem?_set_self (by omega)]
      · rw [List.getElem?_set_self (by rw [List.length_set]; omega)]
      · exact ownsN_up (hlow vv r.2 _ hv (fun b eb => by have := (hv.lt b eb).1; omega)) hB
      · intro b eb
        have := (hv.lt b eb).1
        simp [Value.ownBlock]; omega
    · obtain ⟨g1, g2, g3, g4⟩ := h2 j hj
      have er : (rs.set k r).getD j (0, []) = rs.getD j (0, []) := by simp [List.getD, List.getElem?_set_ne (Ne.symm e)]
      rw [er]
      simp only [if_neg e]
      refine ⟨?_, ?_, ?_, g4⟩
      · rw [List.getElem?_set_ne (by omega), List.getElem?_set_ne (by omega)]; exact g1
      · rw [List.getElem?_set_ne (by omega), List.getElem?_set_ne (by omega)]; exact g2
      · exact hlow _ _ _ (ownsN_below g3 hb) (fun b eb q => g4 b eb (by rw [q]; rfl))
  · intro i j hi hj hij b hbi
    rw [List.length_set] at hi hj
    by_cases ei : i = k
    · simp only [if_pos ei] at hbi
      have h5 := (hv.lt b hbi).1
      have ej : j ≠ k := by omega
      simp only [if_neg ej]
      intro q
      have := ((h2 j hj).2.2.1.lt b q).2
      omega
    · simp only [if_neg ei] at hbi
      by_cases ej : j = k
      · simp only [if_pos ej]
        intro q
        have h5 := (hv.lt b q).1
        have := ((h2 i hi).2.2.1.lt b hbi).2
        omega
      · simp only [if_neg ej]
        exact h3 i j hi hj hij b hbi
theorem madeRow_at (n j : Nat) (hj : j < n) : (madeCells #[Value.int .i64 0, Value.slice none 0 0] (n * 2)).toList[j * 2]? = some (.int .i64 0) ∧ (madeCells #[Value.int .i64 0, Value.slice none 0 0] (n * 2)).toList[j * 2 + 1]? = some (.slice none 0 0) := by
  have e1 : (j * 2) % 2 = 0 := by omega
  have e2 : (j * 2 + 1) % 2 = 1 := by omega
  constructor
  · rw [Array.getElem?_toList]
    unfold madeCells
    rw [Array.getElem?_map, Array.getElem?_range]
    simp [e1, show j * 2 < n * 2 by omega]
  · rw [Array.getElem?_toList]
    unfold madeCells
    rw [Array.getElem?_map, Array.getElem?_range]
    simp [e2, show j * 2 + 1 < n * 2 by omega]
theorem ownsR_made {w : World} {B g n : Nat} (h : w.ownsRow B 36 2 (.slice (some ⟨g, 0, none⟩) n n) n (madeCells #[Value.int .i64 0, Value.slice none 0 0] (n * 2)).toList) : OwnsR w B (.slice (some ⟨g, 0, none⟩) n n) (List.replicate n (0, [])) := by
  refine ⟨_, fun _ => .slice none 0 0, by rw [List.length_replicate]; exact h, fun j hj => ?_, fun i j _ _ _ b hb => by simp [Value.ownBlock] at hb⟩
  rw [List.length_replicate] at hj
  have er : (List.replicate n ((0, []) : RowD)).getD j (0, []) = (0, []) := by simp [List.getD, hj]
  rw [er]
  obtain ⟨m1, m2⟩ := madeRow_at n j hj
  exact ⟨m1, m2, ownsN_nil w B, fun b hb => by simp [Value.ownBlock] at hb⟩
end Go.Proofs.YtijfnabglblimaaGreatDoor
namespace Go.Proofs.YtijfnabglblimaaGreatDoor
open Go.RowKit
set_option linter.unusedVariables false
/-- A slice of rows in new memory is answered. -/
def FreshRows (w : World) (rs : List RowD) (e : Ending) (w' : World) : Prop := ∃ v, e = .returned v ∧ OwnsR w' w.heap.size v rs ∧ Below w.heap.size w w'
theorem rows_copied (rs : List RowD) (k : Nat) (h : k < rs.length) : (rs.take k ++ List.replicate (rs.length - k) (0, [])).set k (rs.getD k (0, [])) = rs.take (k + 1) ++ List.replicate (rs.length - (k + 1)) (0, []) := by
  have hk : (rs.take k).length = k := by rw [List.length_take]; omega
  rw [List.set_append_right _ _ (by omega), hk, Nat.sub_self, show rs.length - k = (rs.length - (k + 1)) + 1 by omega, List.replicate_succ, List.set_cons_zero, List.take_succ_eq_append_getElem h, List.append_assoc]
  simp [List.getD, h]
end Go.Proofs.YtijfnabglblimaaGreatDoor
namespace Go.Proofs.YtijfnabglblimaaGreatDoor
open Go.RowKit
set_option linter.unusedVariables false
theorem below_dn {B : Nat} {a w : World} (h : Below B a w) (q : Nat) : Below B a (w.drewN q) := ⟨h.os, h.tape, h.output, h.size, h.block⟩
theorem list_ne_at {xs ys : List Int} {k : Nat} (hx : k < xs.length) (h : ¬ xs.getD k 0 = ys.getD k 0) : ¬ xs = ys := fun e => h (by rw [e])
theorem list_eq_all {xs ys : List Int} (hl : xs.length = ys.length) (h : ∀ j, j < xs.length → xs.getD j 0 = ys.getD j 0) : xs = ys := by
  apply List.ext_getElem hl
  intro i h1 h2
  have := h i h1
  simpa [List.getD, h1, h2] using this
set_option maxHeartbeats 2000000 in
set_option maxRecDepth 100000 in
theorem specInts (v u : Value) (xs ys : List Int) (w : World) (h : Ints w v xs) (g : Ints w u ys) (hn : xs.length ≤ 1048576) (hm : ys.length ≤ 1048576) :
    Calls Tryz.prog 57 #[v, u] w fun e w' => e = .returned (.bool (decide (xs = ys))) ∧ Below w.heap.size w w' := by
  have H := Lib.hid h
  have G := Lib.hid g
  obtain ⟨a, cap, rfl⟩ := ints_len h
  obtain ⟨a2, cap2, rfl⟩ := ints_len g
  clear h g
  by_cases hl : xs.length = ys.length
  · have HL := Lib.hid hl
    have hne : ((xs.length : Int) != (ys.length : Int)) = false := by rw [hl]; simp
    clear hl
    go_enter Tryz.func57, Tryz.ntmps57
    go_wp2
    clear hne
    go_loopw [5] (fun i wr => ∃ k : Nat, k ≤ xs.length ∧ i = .int .i64 k ∧ Hid (∀ j, j < k → xs.getD j 0 = ys.getD j 0) ∧ Below w.heap.size w wr) (fun i _ => xs.length - (intOf i).toNat)
    case atStart => exact ⟨0, Nat.zero_le _, rfl, Lib.hid (fun j hj => by omega), Below.refl _ _⟩
    case round =>
      obtain ⟨k, hk, rfl, hall, hbel⟩ := hrel
      by_cases hlt : k < xs.length
      · obtain ⟨b, off, cap', hv, hbl, hc⟩ := ints_cell H.out (by omega)
        simp only [Value.slice.injEq] at hv
        obtain ⟨rfl, _, rfl⟩ := hv
        obtain ⟨b2, off2, cap2', hv2, hbl2, hc2⟩ := ints_cell G.out (by have := HL.out; omega)
        simp only [Value.slice.injEq] at hv2
        obtain ⟨rfl, _, rfl⟩ := hv2
        have hcell := (hbel.cell (p := ⟨b, off + k, none⟩) hbl).trans (hc k hlt)
        have hcell2 := (hbel.cell (p := ⟨b2, off2 + k, none⟩) hbl2).trans (hc2 k (by have := HL.out; omega))
        have i1 : (0 : Int) ≤ (k : Int) := by omega
        have i2 : (k : Int) < (xs.length : Int) := by omega
        have i3 : (k : Int) < (ys.length : Int) := by have := HL.out; omega
        clear hc hc2
        by_cases he : xs.getD k 0 = ys.getD k 0
        · have HA : Hid (∀ j, j < k + 1 → xs.getD j 0 = ys.getD j 0) := Lib.hid (fun j hj => by
            by_cases e : j = k
            · exact e ▸ he
            · exact hall.out j (by omega))
          rw [← he] at hcell2
          clear he hall
          generalize xs.getD k 0 = y at hcell hcell2
          go_wp2
          go_quiet (fail)
          go_wp2
          go_roundw
          case rel => exact ⟨k + 1, by omega, by go_num, HA, below_dn hbel _⟩
          case measure => simp [intOf]; omega
        · have HF := Lib.hid (decide_eq_false (list_ne_at hlt he))
          have heq : (xs.getD k 0 != ys.getD k 0) = true := by rw [bne_iff_ne]; exact he
          clear he hall
          generalize xs.getD k 0 = y at hcell heq
          generalize ys.getD k 0 = z at hcell2 heq
          go_wp2
          go_quiet (fail)
          go_wp2
          go_ret
          exact ⟨ret_b HF.out.symm, below_dn hbel _⟩
      · obtain rfl : k = xs.length := by omega
        have HT := Lib.hid (decide_eq_true (list_eq_all HL.out hall.out))
        clear hall
        go_wp2
        go_ret
        exact ⟨ret_b HT.out.symm, hbel⟩
  · have HF := Lib.hid (decide_eq_false (show ¬ xs = ys from fun e => hl (by rw [e])))
    have hne : ((xs.length : Int) != (ys.length : Int)) = true := by rw [bne_iff_ne]; omega
    clear hl
    go_enter Tryz.func57, Tryz.ntmps57
    go_wp2
    go_ret
    exact ⟨ret_b HF.out.symm, Below.refl _ _⟩
set_option maxHeartbeats 2000000 in
set_option maxRecDepth 100000 in
theorem specSame (id id2 : Int) (v u : Value) (xs ys : List Int) (w : World) (h : Ints w v xs) (g : Ints w u ys) (hn : xs.length ≤ 1048576) (hm : ys.length ≤ 1048576) :
    Calls Tryz.prog 27 #[.agg #[.int .i64 id, v], .agg #[.int .i64 id2, u]] w fun e w' => e = .returned (.bool (decide (((id, xs) : RowD) = (id2, ys)))) ∧ Below w.heap.size w w' := by
  have H := Lib.hid (fun w h g => specInts v u xs ys w h g hn hm)
  have HV := Lib.hid h
  have HU := Lib.hid g
  clear h g hn hm
  have hb : Below w.heap.size w ((w.alloc (.cells #[.int .i64 id, v] 36)).alloc (.cells #[.int .i64 id2, u] 36)) := ((Below.refl _ w).alloc (Nat.le_refl _) _).alloc (by simp) _
  by_cases he : id = id2
  · subst he
    have heq : (id == id) = true := by simp
    have HD : Hid (decide (((id, xs) : RowD) = (id, ys)) = decide (xs = ys)) := Lib.hid (by simp)
    rw [HD.out]
    obtain ⟨r, hr⟩ : ∃ r, decide (xs = ys) = r := ⟨_, rfl⟩
    rw [hr] at H
    have HR := Lib.hid hr
    clear hr HD
    go_enter Tryz.func27, Tryz.ntmps27
    go_wp2_with fail
    refine (H.out _ (ints_below HV.out hb) (ints_below HU.out hb)).mono ?_
    rintro e w1 ⟨rfl, b1⟩
    have b2 := hb.trans (b1.mono hb.size)
    go_wp2
    go_ret
    exact ⟨ret_b HR.out.symm, b2⟩
  · have heq : (id == id2) = false := by rw [beq_eq_false_iff_ne]; exact he
    have HD : Hid (decide (((id, xs) : RowD) = (id2, ys)) = false) := Lib.hid (decide_eq_false (fun e => he (Prod.mk.inj e).1))
    clear he
    go_enter Tryz.func27, Tryz.ntmps27
    go_wp2
    go_ret
    exact ⟨ret_b HD.out.symm, hb⟩
theorem szL_row {rs : List RowD} (hs : szL rs ≤ 1048576) {k : Nat} (hk : k < rs.length) : (rs.getD k (0, [])).2.length ≤ 1048576 := by
  have h1 := szTo_step hk
  have h2 := szTo_le (rs := rs) (k := k + 1) (by omega)
  omega
theorem szL_len {rs : List RowD} (hs : szL rs ≤ 1048576) : rs.length ≤ 1048576 := by
  have := szTo_le (rs := rs) (Nat.zero_le _); rw [szTo_zero] at this; omega
theorem rows_ne_at {rs ss : List RowD} {k : Nat} (h : ¬ rs.getD k (0, []) = ss.getD k (0, [])) : ¬ rs = ss := fun e => h (by rw [e])
theorem rows_eq_all {rs ss : List RowD} (hl : rs.length = ss.length) (h : ∀ j, j < rs.length → rs.getD j (0, []) = ss.getD j (0, [])) : rs = ss := by
  apply List.ext_getElem hl
  intro i h1 h2
  have := h i h1
  simpa [List.getD, h1, h2] using this
set_option maxHeartbeats 4000000 in
set_option maxRecDepth 100000 in
theorem specEqRows (v u : Value) (rs ss : List RowD) (w : World) (h : RowsR w v rs) (g : RowsR w u ss) (hs : szL rs ≤ 1048576) (ht : szL ss ≤ 1048576) :
    Calls Tryz.prog 7 #[v, u] w fun e w' => e = .returned (.bool (decide (rs = ss))) ∧ Below w.heap.size w w' := by
  have H := Lib.hid h
  have G := Lib.hid g
  have HS := Lib.hid hs
  have HT := Lib.hid ht
  have hlen := szL_len hs
  have hlen2 := szL_len ht
  obtain ⟨a, cap, rfl⟩ := rowsR_len h
  obtain ⟨a2, cap2, rfl⟩ := rowsR_len g
  clear h g hs ht
  by_cases hl : rs.length = ss.length
  · have HL := Lib.hid hl
    have hne : ((rs.length : Int) != (ss.length : Int)) = false := by rw [hl]; simp
    clear hl
    go_enter Tryz.func7, Tryz.ntmps7
    go_wp2
    clear hne
    go_loopw [5] (fun i wr => ∃ k : Nat, k ≤ rs.length ∧ i = .int .i64 k ∧ Hid (∀ j, j < k → rs.getD j (0, []) = ss.getD j (0, [])) ∧ Below w.heap.size w wr) (fun i _ => rs.length - (intOf i).toNat)
    case atStart => exact ⟨0, Nat.zero_le _, rfl, Lib.hid (fun j hj => by omega), Below.refl _ _⟩
    case round =>
      obtain ⟨k, hk, rfl, hall, hbel⟩ := hrel
      by_cases hlt : k < rs.length
      · have hlt2 : k < ss.length := by have := HL.out; omega
        obtain ⟨b, off, cap', vv, hv, hbl, hc1, hc2, hI⟩ := rowsR_at (rowsR_below H.out hbel) hlt
        simp only [Value.slice.injEq] at hv
        obtain ⟨rfl, _, rfl⟩ := hv
        obtain ⟨b2, off2, cap2', uv, hv2, hbl2, hd1, hd2, hJ⟩ := rowsR_at (rowsR_below G.out hbel) hlt2
        simp only [Value.slice.injEq] at hv2
        obtain ⟨rfl, _, rfl⟩ := hv2
        have hxl := szL_row HS.out hlt
        have hyl := szL_row HT.out hlt2
        have i1 : (0 : Int) ≤ (k : Int) := by omega
        have i2 : (k : Int) < (rs.length : Int) := by omega
        have i3 : (k : Int) < (ss.length : Int) := by omega
        have HNE := Lib.hid (fun e => decide_eq_false (rows_ne_at (rs := rs) (ss := ss) (k := k) e))
        have HALL : Hid (rs.getD k (0, []) = ss.getD k (0, []) → ∀ j, j < k + 1 → rs.getD j (0, []) = ss.getD j (0, [])) := Lib.hid (fun he j hj => by
          by_cases e : j = k
          · exact e ▸ he
          · exact hall.out j (by omega))
        clear hall
        generalize rs.getD k (0, []) = r at *
        generalize ss.getD k (0, []) = q at *
        obtain ⟨id, xs⟩ := r
        obtain ⟨id2, ys⟩ := q
        simp only at hc1 hc2 hd1 hd2 hI hJ hxl hyl
        have HSM := Lib.hid (fun w h g => specSame id id2 vv uv xs ys w h g hxl hyl)
        by_cases he : ((id, xs) : RowD) = (id2, ys)
        · have HA := Lib.hid (HALL.out he)
          rw [decide_eq_true he] at HSM
          clear he HNE HALL
          go_wp2
          go_region_with (first | (go_at_call 27; refine (HSM.out _ (by exact ints_heap hI rfl) (by exact ints_heap hJ rfl)).mono ?_; rintro e w8 ⟨rfl, b9⟩; have b10 : Below wr.heap.size wr w8 := ⟨b9.os, b9.tape, b9.output, b9.size, b9.block⟩))
          all_goals
            have b11 := hbel.trans (b10.mono hbel.size)
            go_wp2
            go_roundw
            case rel => exact ⟨k + 1, by omega, by go_num, HA, b11⟩
            case measure => simp [intOf]; omega
        · have HF := Lib.hid (HNE.out he)
          rw [decide_eq_false he] at HSM
          clear he HNE HALL
          go_wp2
          go_region_with (first | (go_at_call 27; refine (HSM.out _ (by exact ints_heap hI rfl) (by exact ints_heap hJ rfl)).mono ?_; rintro e w8 ⟨rfl, b9⟩; have b10 : Below wr.heap.size wr w8 := ⟨b9.os, b9.tape, b9.output, b9.size, b9.block⟩))
          all_goals
            have b11 := hbel.trans (b10.mono hbel.size)
            go_wp2
            go_ret
            exact ⟨ret_b HF.out.symm, b11⟩
      · obtain rfl : k = rs.length := by omega
        have HE := Lib.hid (decide_eq_true (rows_eq_all HL.out hall.out))
        clear hall
        go_wp2
        go_ret
        exact ⟨ret_b HE.out.symm, hbel⟩
  · have HF := Lib.hid (decide_eq_false (show ¬ rs = ss from fun e => hl (by rw [e])))
    have hne : ((rs.length : Int) != (ss.length : Int)) = true := by rw [bne_iff_ne]; omega
    clear hl
    go_enter Tryz.func7, Tryz.ntmps7
    go_wp2
    go_ret
    exact ⟨ret_b HF.out.symm, Below.refl _ _⟩
end Go.Proofs.YtijfnabglblimaaGreatDoor
namespace Go.Proofs.YtijfnabglblimaaGreatDoor
open Go.RowKit
set_option linter.unusedVariables false
theorem take_runs {P : Program} {ops : Array Oper} {Q : Exit → Act → World → Prop} {md : Region.Mode} {S : World → Prop} {i : Nat} {oi : Oper} {d : Option Tmp} {v : Value} {fuel : Nat} {listed : Array Bool} {a : Act} {w : World} (hi : ops[i]? = some oi)
    (hs : Region.noSelect ops = true) (hf : Region.free md ops listed i = true) (hr : (Region.ready md ops listed).contains i = true) (hd : oi.dst = d)
    (hQ : ∀ c a w, Q (.panic c) (a.put oi.dst v) w → Q (.panic c) a w) (hw : Region.wanted oi (yielded ops a.tmps) = true) (hy : ∀ w, S w → (execOp a.eval oi).run P w = .ok (.value v) w) (hS : S w)
    (h : wpAnyH P md ops Q S fuel (listed.setIfInBounds i true) (a.put d v) w) : wpAnyH P md ops Q S (fuel + 1) listed a w := by
  subst hd
  exact wpAnyH_take hi hs hf hr hQ (Or.inl ⟨hw, hy⟩) hS h
theorem take_over {P : Program} {ops : Array Oper} {Q : Exit → Act → World → Prop} {md : Region.Mode} {S : World → Prop} {i : Nat} {oi : Oper} {d : Option Tmp} {fuel : Nat} {listed : Array Bool} {a : Act} {w : World} (hi : ops[i]? = some oi)
    (hs : Region.noSelect ops = true) (hf : Region.free md ops listed i = true) (hr : (Region.ready md ops listed).contains i = true) (hd : oi.dst = d)
    (hQ : ∀ c a w, Q (.panic c) (a.put oi.dst undef) w → Q (.panic c) a w) (hw : Region.wanted oi (yielded ops a.tmps) = false) (hS : S w)
    (h : wpAnyH P md ops Q S fuel (listed.setIfInBounds i true) (a.put d undef) w) : wpAnyH P md ops Q S (fuel + 1) listed a w := by
  subst hd
  exact wpAnyH_take hi hs hf hr hQ (Or.inr ⟨hw, rfl⟩) hS h
end Go.Proofs.YtijfnabglblimaaGreatDoor
namespace Go.Proofs.YtijfnabglblimaaGreatDoor
open Go.RowKit
set_option linter.unusedVariables false
set_option linter.unusedSimpArgs false
end Go.Proofs.YtijfnabglblimaaGreatDoor
namespace Go.Proofs.YtijfnabglblimaaGreatDoor
open Go.RowKit
set_option linter.unusedVariables false
set_option linter.unusedSimpArgs false
/-- The first list lies before the second. -/
def lessL : List Int → List Int → Bool
  | _, [] => false
  | [], _ :: _ => true
  | x :: xs, y :: ys => if x = y then lessL xs ys else decide (x < y)
/-- Rows by their numbers, then by their values. -/
def rowLess (a b : RowD) : Bool := if a.1 = b.1 then lessL a.2 b.2 else decide (a.1 < b.1)
theorem lessL_step {xs ys : List Int} {k : Nat} (hx : k < xs.length) (hy : k < ys.length) (h : xs.getD k 0 = ys.getD k 0) : lessL (xs.drop k) (ys.drop k) = lessL (xs.drop (k + 1)) (ys.drop (k + 1)) := by
  rw [List.drop_eq_getElem_cons hx, List.drop_eq_getElem_cons hy]
  have e : xs[k] = ys[k] := by simpa [List.getD, hx, hy] using h
  simp only [lessL, e, if_true]
theorem lessL_ne {xs ys : List Int} {k : Nat} (hx : k < xs.length) (hy : k < ys.length) (h : ¬ xs.getD k 0 = ys.getD k 0) : lessL (xs.drop k) (ys.drop k) = decide (xs.getD k 0 < ys.getD k 0) := by
  rw [List.drop_eq_getElem_cons hx, List.drop_eq_getElem_cons hy]
  have e : ¬ xs[k] = ys[k] := by simpa [List.getD, hx, hy] using h
  simp only [lessL, if_neg e]
  simp [List.getD, hx, hy]
theorem lessL_end {xs ys : List Int} {k : Nat} (hx : k ≤ xs.length) (hy : k ≤ ys.length) (h : ¬ (k < xs.length ∧ k < ys.length)) : lessL (xs.drop k) (ys.drop k) = decide (xs.length < ys.length) := by
  by_cases e : k = ys.length
  · subst e
    rw [List.drop_length]
    rw [decide_eq_false (by omega)]
    unfold lessL
    rfl
  · have e2 : k = xs.length := by omega
    subst e2
    rw [List.drop_length, List.drop_eq_getElem_cons (by omega), decide_eq_true (by omega)]
    rfl
set_option maxHeartbeats 4000000 in
set_option maxRecDepth 100000 in
theorem l3LessInts_any (v u : Value) (xs ys : List Int) (w : World) (h : Ints w v xs) (g : Ints w u ys) (hn : xs.length ≤ 1048576) (hm : ys.length ≤ 1048576) :
    Calls Tryz.prog 85 #[v, u] w fun e w' => e = .returned (.bool (lessL xs ys)) ∧ Below w.heap.size w w' := by
  have H := Lib.hid h
  have G := Lib.hid g
  obtain ⟨a, cap, rfl⟩ := ints_len h
  obtain ⟨a2, cap2, rfl⟩ := ints_len g
  clear h g
  go_enter Tryz.func85, Tryz.ntmps85
  go_wp2
  go_loopw [5] (fun i wr => ∃ k : Nat, k ≤ xs.length ∧ k ≤ ys.length ∧ i = .int .i64 k ∧ Hid (lessL (xs.drop k) (ys.drop k) = lessL xs ys) ∧ Below w.heap.size w wr) (fun i _ => xs.length - (intOf i).toNat)
  case atStart => exact ⟨0, Nat.zero_le _, Nat.zero_le _, rfl, Lib.hid (by simp), Below.refl _ _⟩
  case round =>
    obtain ⟨k, hk, hk2, rfl, hall, hbel⟩ := hrel
    by_cases hlt : k < xs.length ∧ k < ys.length
    · obtain ⟨h1, h2⟩ := hlt
      obtain ⟨b, off, cap', hv, hbl, hc⟩ := ints_cell H.out (by omega)
      obtain ⟨b2, off2, cap2', hv2, hbl2, hc2⟩ := ints_cell G.out (by omega)
      simp only [Value.slice.injEq] at hv hv2
      obtain ⟨rfl, _, rfl⟩ := hv
      obtain ⟨rfl, _, rfl⟩ := hv2
      have hcell := (hbel.cell (p := ⟨b, off + k, none⟩) hbl).trans (hc k h1)
      have hcell2 := (hbel.cell (p := ⟨b2, off2 + k, none⟩) hbl2).trans (hc2 k h2)
      have i1 : (0 : Int) ≤ (k : Int) := by omega
      have i2 : (k : Int) < (xs.length : Int) := by omega
      have i3 : (k : Int) < (ys.length : Int) := by omega
      have HST := Lib.hid (fun e => (lessL_step h1 h2 e).symm.trans hall.out)
      have HNE := Lib.hid (fun e => (lessL_ne h1 h2 e).symm.trans hall.out)
      clear hc hc2 hall
      generalize xs.getD k 0 = x at *
      generalize ys.getD k 0 = y at *
      by_cases he : x = y
      · subst he
        have HA := Lib.hid (HST.out rfl)
        clear HST HNE
        go_wp2
        go_quiet (fail)
        go_wp2
        go_roundw
        case rel => exact ⟨k + 1, by omega, by omega, by go_num, HA, below_same hbel rfl rfl rfl rfl⟩
        case measure => simp [intOf]; omega
      · have HA := Lib.hid (HNE.out he)
        have hne : (x != y) = true := by rw [bne_iff_ne]; exact he
        clear HST HNE he
        go_wp2
        go_quiet (fail)
        go_wp2
        go_quiet (fail)
        go_wp2
        go_ret
        exact ⟨ret_b HA.out, below_same hbel rfl rfl rfl rfl⟩
    · have HE := Lib.hid ((lessL_end hk hk2 hlt).symm.trans hall.out)
      clear hall
      by_cases h1 : k < xs.length
      · have h2 : ¬ k < ys.length := fun h2 => hlt ⟨h1, h2⟩
        have i3 : ¬ (k : Int) < (ys.length : Int) := by omega
        have i2 : (k : Int) < (xs.length : Int) := by omega
        go_wp2
        go_ret
        exact ⟨ret_b (by rw [← HE.out]), hbel⟩
      · have i2 : ¬ (k : Int) < (xs.length : Int) := by omega
        go_wp2
        go_ret
        exact ⟨ret_b (by rw [← HE.out]), hbel⟩
set_option maxHeartbeats 4000000 in
set_option maxRecDepth 100000 in
theorem l3Less_any (id id2 : Int) (v u : Value) (xs ys : List Int) (w : World) (h : Ints w v xs) (g : Ints w u ys) (hn : xs.length ≤ 1048576) (hm : ys.length ≤ 1048576) :
    Calls Tryz.prog 58 #[.agg #[.int .i64 id, v], .agg #[.int .i64 id2, u]] w fun e w' => e = .returned (.bool (rowLess (id, xs) (id2, ys))) ∧ Below w.heap.size w w' := by
  have HL := Lib.hid (fun w h g => l3LessInts_any v u xs ys w h g hn hm)
  have hb : Below w.heap.size w ((w.alloc (.cells #[.int .i64 id, v] 36)).alloc (.cells #[.int .i64 id2, u] 36)) := ((Below.refl _ w).alloc (Nat.le_refl _) _).alloc (by simp [World.size_alloc]) _
  have I1 := Lib.hid (ints_below h hb)
  have I2 := Lib.hid (ints_below g hb)
  by_cases he : id = id2
  · subst he
    have HA : Hid (rowLess (id, xs) (id, ys) = lessL xs ys) := Lib.hid (by simp [rowLess])
    obtain ⟨a, cap, rfl⟩ := ints_len h
    obtain ⟨a2, cap2, rfl⟩ := ints_len g
    clear h g
    go_enter Tryz.func58, Tryz.ntmps58
    go_wp2_with fail
    refine (HL.out _ I1.out I2.out).mono ?_
    rintro e w2 ⟨rfl, b2⟩
    have b3 := hb.trans (b2.mono hb.size)
    go_wp2
    go_ret
    exact ⟨ret_b HA.out.symm, b3⟩
  · have HA : Hid (rowLess (id, xs) (id2, ys) = decide (id < id2)) := Lib.hid (by simp [rowLess, he])
    have hne : (id != id2) = true := by rw [bne_iff_ne]; exact he
    obtain ⟨a, cap, rfl⟩ := ints_len h
    obtain ⟨a2, cap2, rfl⟩ := ints_len g
    clear h g he
    go_enter Tryz.func58, Tryz.ntmps58
    go_wp2
    go_ret
    exact ⟨ret_b HA.out.symm, hb⟩
end Go.Proofs.YtijfnabglblimaaGreatDoor
namespace Go.Proofs.YtijfnabglblimaaGreatDoor
open Go.RowKit
set_option linter.unusedVariables false
set_option linter.unusedSimpArgs false
set_option maxHeartbeats 4000000 in
set_option maxRecDepth 100000 in
theorem l3Copy_any (id : Int) (vv : Value) (xs : List Int) (w : World) (h : Ints w vv xs) (hn : xs.length ≤ 1048576) :
    Calls Tryz.prog 28 #[.agg #[.int .i64 id, vv]] w (FreshRow w (id, xs)) := by
  have H := Lib.hid h
  have HN := Lib.hid hn
  obtain ⟨va, vcap, rfl⟩ := ints_len h
  clear h hn
  go_enter Tryz.func28, Tryz.ntmps28
  go_wp2
  have hh : Below w.heap.size w ((w.alloc (.cells #[.int .i64 id, .slice va xs.length vcap] 36)).alloc (.cells #[.int .i64 0, .slice none 0 0] 36)) := ((Below.refl _ w).alloc (Nat.le_refl _) _).alloc (by simp) _
  have g2 : ((w.alloc (.cells #[.int .i64 id, .slice va xs.length vcap] 36)).alloc (.cells #[.int .i64 0, .slice none 0 0] 36)).heap[w.heap.size + 1]? = some (.cells #[.int .i64 0, .slice none 0 0] 36 (0, 0)) := by
    have := heap_alloc_new (w.alloc (.cells #[.int .i64 id, .slice va xs.length vcap] 36)) (.cells #[.int .i64 0, .slice none 0 0] 36)
    simpa only [World.size_alloc] using this
  have g1 : ((w.alloc (.cells #[.int .i64 id, .slice va xs.length vcap] 36)).alloc (.cells #[.int .i64 0, .slice none 0 0] 36)).heap[w.heap.size]? = some (.cells #[.int .i64 id, .slice va xs.length vcap] 36 (0, 0)) := by
    rw [Below.heap_alloc _ _ _ (by simp)]
    exact heap_alloc_new w _
  have hs : ((w.alloc (.cells #[.int .i64 id, .slice va xs.length vcap] 36)).alloc (.cells #[.int .i64 0, .slice none 0 0] 36)).heap.size = w.heap.size + 2 := by simp [World.size_alloc]
  generalize ((w.alloc (.cells #[.int .i64 id, .slice va xs.length vcap] 36)).alloc (.cells #[.int .i64 0, .slice none 0 0] 36)) = W at *
  have b0 := box_cells g1 (Below.refl _ W)
  refine wp_region_held_drew (S := fun w' => w'.cell? ⟨w.heap.size, 0, none⟩ = some (.int .i64 id) ∧ w'.cell? ⟨w.heap.size, 1, none⟩ = some (.slice va xs.length vcap)) (by kernel_rfl) ⟨b0.1, b0.2⟩ (fun hHeld => ?_)
  refine take_runs (i := 0) (v := ?_) (by simp only [List.getElem?_toArray, List.getElem?_cons_succ, List.getElem?_cons_zero]; rfl) (by kernel_rfl) (by kernel_rfl) (by kernel_rfl) rfl (by exact fun _ _ _ h => h) (by rfl) ?_ (by assumption) ?_
  rotate_left
  · intro w hSw; (try dsimp only at hSw); go_simp; try (with_reducible rfl)
  try simp only [Act.put, List.setIfInBounds_toArray, List.set_cons_zero, List.set_cons_succ]
  refine take_runs (i := 1) (v := ?_) (by simp only [List.getElem?_toArray, List.getElem?_cons_succ, List.getElem?_cons_zero]; rfl) (by kernel_rfl) (by kernel_rfl) (by kernel_rfl) rfl (by exact fun _ _ _ h => h) (by rfl) ?_ (by assumption) ?_
  rotate_left
  · intro w hSw; (try dsimp only at hSw); go_simp; try (with_reducible rfl)
  try simp only [Act.put, List.setIfInBounds_toArray, List.set_cons_zero, List.set_cons_succ]
  refine take_runs (i := 3) (v := ?_) (by simp only [List.getElem?_toArray, List.getElem?_cons_succ, List.getElem?_cons_zero]; rfl) (by kernel_rfl) (by kernel_rfl) (by kernel_rfl) rfl (by exact fun _ _ _ h => h) (by rfl) ?_ (by assumption) ?_
  rotate_left
  · intro w hSw; (try dsimp only at hSw); go_simp; try (with_reducible rfl)
  try simp only [Act.put, List.setIfInBounds_toArray, List.set_cons_zero, List.set_cons_succ]
  refine take_runs (i := 4) (v := ?_) (by simp only [List.getElem?_toArray, List.getElem?_cons_succ, List.getElem?_cons_zero]; rfl) (by kernel_rfl) (by kernel_rfl) (by kernel_rfl) rfl (by exact fun _ _ _ h => h) (by rfl) ?_ (by assumption) ?_
  rotate_left
  · intro w hSw; (try dsimp only at hSw); go_simp; try (with_reducible rfl)
  try simp only [Act.put, List.setIfInBounds_toArray, List.set_cons_zero, List.set_cons_succ]
  refine wpAnyH_ready (rs := [2]) (by kernel_rfl) (by simp) ?_
  refine AllReadyH.cons (o := _) (by simp only [List.getElem?_toArray, List.getElem?_cons_succ, List.getElem?_cons_zero]; rfl) (fun K hK => ?_) AllReadyH.nil
  go_simp
  have bA : Below W.heap.size W (W.alloc (.cells #[] 3)).drew := below_drew ((Below.refl _ W).alloc (Nat.le_refl _) _)
  have oA : OwnsN (W.alloc (.cells #[] 3)).drew W.heap.size (.slice (some ⟨w.heap.size + 2, 0, none⟩) 0 0) [] := by
    rw [← hs]
    exact World.ownsRow.drew (ownsN_lit W W.heap.size (Nat.le_refl _) #[] 0 [] rfl rfl (by unfold maxLen; omega))
  generalize (W.alloc (.cells #[] 3)).drew = W2 at *
  refine hK.out _ _ (box_cells g1 bA) (fun hHeld2 => ?_)
  clear hK K hHeld
  try simp only [Act.put, List.setIfInBounds_toArray, List.set_cons_zero, List.set_cons_succ]
  have B2 := hh.trans (bA.mono hh.size)
  have I2 := ints_below H.out B2
  refine wpAnyH_ready (rs := [5]) (by kernel_rfl) (by simp) ?_
  refine AllReadyH.cons (o := _) (by simp only [List.getElem?_toArray, List.getElem?_cons_succ, List.getElem?_cons_zero]; rfl) (fun K hK => ?_) AllReadyH.nil
  refine step_append_ints rfl (.tmp 5) (.tmp 7) rfl W.heap.size _ _ [] xs rfl rfl oA I2 bA.size (by have := HN.out; simp; omega) ?_
  intro u W3 oB bB
  rw [List.nil_append] at oB
  obtain ⟨ua, ucap, rfl⟩ := ints_len (ownsN_ints oB)
  have bC := bA.trans bB
  refine hK.out _ _ (box_cells g1 bC) (fun hHeld3 => ?_)
  clear hK K hHeld2
  try simp only [Act.put, List.setIfInBounds_toArray, List.set_cons_zero, List.set_cons_succ]
  refine take_runs (i := 6) (v := ?_) (by simp only [List.getElem?_toArray, List.getElem?_cons_succ, List.getElem?_cons_zero]; rfl) (by kernel_rfl) (by kernel_rfl) (by kernel_rfl) rfl (by exact fun _ _ _ h => h) (by rfl) ?_ (by assumption) ?_
  rotate_left
  · intro w hSw; (try dsimp only at hSw); go_simp; try (with_reducible rfl)
  try simp only [Act.put, List.setIfInBounds_toArray, List.set_cons_zero, List.set_cons_succ]
  have k2 := (bC.block (w.heap.size + 1) (by omega)).trans g2
  have c0 := cell_of_row W3 _ 0 _ _ _ k2
  have c1 := cell_of_row W3 _ 1 _ _ _ k2
  have f0 := frozen_of_row W3 _ 0 _ _ k2
  have f1 := frozen_of_row W3 _ 1 _ _ k2
  simp at c0 c1
  refine wpAnyH_ready (rs := [7]) (by kernel_rfl) (by simp) ?_
  refine AllReadyH.cons (o := _) (by simp only [List.getElem?_toArray, List.getElem?_cons_succ, List.getElem?_cons_zero]; rfl) (fun K hK => ?_) AllReadyH.nil
  go_simp
  have k0 := (bC.block w.heap.size (by omega)).trans g1
  have m0 := (heap_setCell_other (W3.setCell ⟨w.heap.size + 1, 0, none⟩ (.int .i64 id)) ⟨w.heap.size + 1, 1, none⟩ w.heap.size (.slice ua xs.length ucap) (by simp)).trans ((heap_setCell_other W3 ⟨w.heap.size + 1, 0, none⟩ w.heap.size (.int .i64 id) (by simp)).trans k0)
  have r1 := heap_setCell_same W3 (w.heap.size + 1) 0 _ _ (.int .i64 id) k2
  have r2 := heap_setCell_same _ (w.heap.size + 1) 1 _ _ (.slice ua xs.length ucap) r1
  have o4 := ownsN_low (ownsN_low oB (b := w.heap.size + 1) (by omega) 0 (.int .i64 id)) (b := w.heap.size + 1) (by omega) 1 (.slice ua xs.length ucap)
  have B4 := ((hh.trans (bC.mono hh.size)).setCell (p := ⟨w.heap.size + 1, 0, none⟩) (by simp) (.int .i64 id)).setCell (p := ⟨w.heap.size + 1, 1, none⟩) (by simp) (.slice ua xs.length ucap)
  have e0 := cell_of_row _ _ 0 _ _ _ r2
  have e1 := cell_of_row _ _ 1 _ _ _ r2
  simp at e0 e1
  clear r1 r2 k0 k2 c0 c1 f0 f1
  generalize (W3.setCell ⟨w.heap.size + 1, 0, none⟩ (.int .i64 id)).setCell ⟨w.heap.size + 1, 1, none⟩ (.slice ua xs.length ucap) = W4 at *
  refine hK.out _ _ (box_cells m0 (Below.refl _ W4)) (fun hHeld4 => ?_)
  clear hK K hHeld3
  try simp only [Act.put, List.setIfInBounds_toArray, List.set_cons_zero, List.set_cons_succ]
  refine wpAnyH_done (by kernel_rfl) ?_ _
  go_wp2
  refine bodyPost_ret (v := .agg #[.int .i64 id, .slice ua xs.length ucap]) ?_ rfl ?_
  · simp [results, Tryz.f28, go_sem, e0, e1]
  · exact ⟨_, rfl, ownsN_up o4 (by omega), B4⟩
end Go.Proofs.YtijfnabglblimaaGreatDoor
namespace Go.Proofs.YtijfnabglblimaaGreatDoor
open Go.RowKit
set_option linter.unusedVariables false
/-- Only blocks from B up to hi have turned. -/
structure Only (B hi : Nat) (w w' : World) : Prop where
  os : w'.os = w.os
  tape : w'.tape = w.tape
  output : w'.output = w.output
  size : w.heap.size ≤ w'.heap.size
  block : ∀ k, k < w.heap.size → (k < B ∨ hi ≤ k) → w'.heap[k]? = w.heap[k]?
theorem Only.refl (B hi : Nat) (w : World) : Only B hi w w := ⟨rfl, rfl, rfl, Nat.le_refl _, fun _ _ _ => rfl⟩
theorem Only.trans {B hi : Nat} {a b c : World} (h : Only B hi a b) (k : Only B hi b c) : Only B hi a c :=
  ⟨k.os.trans h.os, k.tape.trans h.tape, k.output.trans h.output, Nat.le_trans h.size k.size, fun i hi' hn => (k.block i (Nat.lt_of_lt_of_le hi' h.size) hn).trans (h.block i hi' hn)⟩
theorem only_below {B hi C : Nat} {a w w' : World} (h : Below C a w) (k : Only B hi w w') (hC : C ≤ B) (hs : C ≤ w.heap.size) : Below C a w' :=
  h.trans ⟨k.os, k.tape, k.output, k.size, fun i hi' => k.block i (by omega) (Or.inl (by omega))⟩
end Go.Proofs.YtijfnabglblimaaGreatDoor
namespace Go.Proofs.YtijfnabglblimaaGreatDoor
open Go.RowKit
set_option linter.unusedVariables false
theorem ownsN_only {B hi C : Nat} {w w' : World} {v : Value} {xs : List Int} (h : OwnsN w C v xs) (k : Only B hi w w') (hc : hi ≤ C) : OwnsN w' C v xs := by
  refine ⟨h.1, ?_⟩
  rcases h.2 with hn | ⟨g, cap, cur, rfl, hb', hg, rest⟩
  · exact .inl hn
  · refine .inr ⟨g, cap, cur, rfl, hb', ?_, rest⟩
    rw [k.block g (Array.getElem?_eq_some_iff.1 hg).1 (Or.inr (by omega))]
    exact hg
end Go.Proofs.YtijfnabglblimaaGreatDoor
namespace Go.Proofs.YtijfnabglblimaaGreatDoor
open Go.RowKit
set_option linter.unusedVariables false
/-- Where the row r goes among the first k rows. -/
def insAt (rs : List RowD) (r : RowD) : Nat → Nat
  | 0 => 0
  | k + 1 => if rowLess r (rs.getD k (0, [])) then insAt rs r k else k + 1
def insL (rs : List RowD) (r : RowD) : List RowD := rs.take (insAt rs r rs.length) ++ r :: rs.drop (insAt rs r rs.length)
def sortTo (a : List RowD) (k : Nat) : List RowD := (a.take k).foldl insL []
def sortL (a : List RowD) : List RowD := a.foldl insL []
theorem sortTo_step {a : List RowD} {k : Nat} (hk : k < a.length) : sortTo a (k + 1) = insL (sortTo a k) (a.getD k (0, [])) := by
  unfold sortTo
  rw [List.take_succ_eq_append_getElem hk, List.foldl_append]
  simp [List.getD, hk]
theorem sortTo_all (a : List RowD) : sortTo a a.length = sortL a := by simp [sortTo, sortL]
theorem insAt_le (rs : List RowD) (r : RowD) (k : Nat) : insAt rs r k ≤ k := by
  induction k with
  | zero => exact Nat.le_refl _
  | succ k ih => unfold insAt; split <;> omega
theorem insL_perm (rs : List RowD) (r : RowD) : (insL rs r).Perm (r :: rs) := by
  unfold insL
  refine List.perm_middle.trans ?_
  rw [List.take_append_drop]
theorem foldl_perm (a : List RowD) : ∀ acc, (a.foldl insL acc).Perm (a ++ acc) := by
  induction a with
  | nil => intro acc; exact List.Perm.refl _
  | cons r a ih =>
    intro acc
    refine (ih (insL acc r)).trans ?_
    refine (List.Perm.append_left a (insL_perm acc r)).trans ?_
    exact List.perm_middle
theorem sortL_perm (a : List RowD) : (sortL a).Perm a := by have := foldl_perm a []; rw [List.append_nil] at this; exact this
theorem szL_perm {a b : List RowD} (h : a.Perm b) : szL a = szL b := by
  unfold szL szTo
  rw [List.take_length, List.take_length, h.length_eq]
  have := (h.map (fun r : RowD => r.2.length)).sum_nat
  rw [this]
theorem szL_sort (a : List RowD) (h : szL a ≤ 1048576) : szL (sortL a) ≤ 1048576 := by rw [szL_perm (sortL_perm a)]; exact h
theorem sortTo_perm (a : List RowD) (k : Nat) : (sortTo a k).Perm (a.take k) := by have := foldl_perm (a.take k) []; rw [List.append_nil] at this; exact this
theorem sortTo_len {a : List RowD} {k : Nat} (hk : k ≤ a.length) : (sortTo a k).length = k := by rw [(sortTo_perm a k).length_eq, List.length_take]; omega
theorem sortTo_sz {a : List RowD} {k : Nat} (hs : szL a ≤ 1048576) (hk : k ≤ a.length) : szL (sortTo a k) ≤ 1048576 := by
  rw [szL_perm (sortTo_perm a k)]
  have h1 := szTo_le hk
  unfold szL szTo at *
  rw [List.take_take, List.length_take, show min (min k a.length) k = k by omega]
  omega
/-- The cells of a slice of rows that the call made. -/
def RowsC (w : World) (B : Nat) (v : Value) (n : Nat) (cs : List Value) : Prop := w.ownsRow B 36 2 v n cs
theorem info_row : ∃ i, Tryz.prog.info? 36 = some i ∧ i.zero = some (.agg #[.int .i64 0, .slice none 0 0]) ∧ i.size = 2 ∧ i.bytes = 32 := by
  have h1 := Tryz.infoRow
  have h2 := row_bytes
  cases e : Tryz.prog.info? 36 with
  | none => rw [e] at h1; simp at h1
  | some i => rw [e] at h1 h2; simp at h1 h2; exact ⟨i, rfl, h1.1, h1.2, h2⟩
/-- 'append(x, ..)' of m rows whose cells lie at ad. -/
theorem append_rows {w : World} {ops : Array Oper} {rest : List Oper} {o : Oper} {a : Act} {Q : Exit → Act → World → Prop} (hgd : o.guard = none) (s x : Operand)
    (ho : o.op = .call { callee := .builtin .append, args := #[s, x], argTypes := #[28, 28] })
    (B : Nat) (v : Value) (n : Nat) (cs : List Value) (hs : a.eval s = v) (hown : RowsC w B v n cs) (hB : B ≤ w.heap.size)
    (ad : Addr) (m c : Nat) (news : List Value) (hx : a.eval x = .slice (some ad) m c) (hl : news.length = m * 2) (hnews : ∀ j u, news[j]? = some u → w.cell? (ad.add j) = some u) (h1 : ∀ u ∈ news, u.oneCell' = true) (h63 : n + m ≤ 2097152)
    (h : ∀ v' w', RowsC w' B v' (n + m) (cs ++ news) → w.grownBy w' v.ownBlock → (v' = .slice none 0 0 ↔ v = .slice none 0 0 ∧ m = 0) → (v'.ownBlock = v.ownBlock ∨ v'.ownBlock = some w.heap.size) → wpList Tryz.prog ops Q rest (a.put o.dst v') w') : wpList Tryz.prog ops Q (o :: rest) a w := by
  obtain ⟨i0, hi, hz0, hz1, hz2⟩ := info_row
  exact wpList_append_own_at _ hgd s x 28 ho B 36 i0 (.agg #[.int .i64 0, .slice none 0 0]) 2 32 Tryz.underlying28 hi hz0 hz1 hz2 rfl (by decide) v n cs hs hown ad m c news hx hl hnews h1 (by unfold maxLen; omega) (by omega) hB h
theorem rowsC_kept {w w' : World} {B : Nat} {v : Value} {n : Nat} {cs : List Value} (h : RowsC w B v n cs) (hb : Below w.heap.size w w') : RowsC w' B v n cs := ownsRow_below h hb
end Go.Proofs.YtijfnabglblimaaGreatDoor
namespace Go.Proofs.YtijfnabglblimaaGreatDoor
open Go.RowKit
set_option linter.unusedVariables false
theorem mid_low {α : Type} {cs : List α} {p i : Nat} {x y : α} (hp : p * 2 ≤ cs.length) (hi : i < p * 2) : (cs.take (p * 2) ++ [x, y] ++ cs.drop (p * 2))[i]? = cs[i]? := by
  have hl : (cs.take (p * 2)).length = p * 2 := by rw [List.length_take]; omega
  rw [List.append_assoc, List.getElem?_append_left (by omega), List.getElem?_take, if_pos hi]
theorem mid_at {α : Type} {cs : List α} {p : Nat} {x y : α} (hp : p * 2 ≤ cs.length) : (cs.take (p * 2) ++ [x, y] ++ cs.drop (p * 2))[p * 2]? = some x ∧ (cs.take (p * 2) ++ [x, y] ++ cs.drop (p * 2))[p * 2 + 1]? = some y := by
  have hl : (cs.take (p * 2)).length = p * 2 := by rw [List.length_take]; omega
  constructor
  · rw [List.append_assoc, List.getElem?_append_right (by omega), hl]
    simp
  · rw [List.append_assoc, List.getElem?_append_right (by omega), hl]
    simp
theorem mid_high {α : Type} {cs : List α} {p i : Nat} {x y : α} (hp : p * 2 ≤ cs.length) (hi : p * 2 + 2 ≤ i) : (cs.take (p * 2) ++ [x, y] ++ cs.drop (p * 2))[i]? = cs[i - 2]? := by
  have hl : (cs.take (p * 2)).length = p * 2 := by rw [List.length_take]; omega
  have hl2 : (cs.take (p * 2) ++ [x, y]).length = p * 2 + 2 := by rw [List.length_append, hl]; rfl
  rw [List.getElem?_append_right (by omega), hl2, List.getElem?_drop]
  congr 1
  omega
theorem rowIns_low {rs : List RowD} {p j : Nat} {r : RowD} (hp : p ≤ rs.length) (hj : j < p) : (rs.take p ++ r :: rs.drop p).getD j (0, []) = rs.getD j (0, []) := by
  have hl : (rs.take p).length = p := by rw [List.length_take]; omega
  simp only [List.getD]
  rw [List.getElem?_append_left (by omega), List.getElem?_take, if_pos hj]
theorem row_at {rs : List RowD} {p : Nat} {r : RowD} (hp : p ≤ rs.length) : (rs.take p ++ r :: rs.drop p).getD p (0, []) = r := by
  have hl : (rs.take p).length = p := by rw [List.length_take]; omega
  simp only [List.getD]
  rw [List.getElem?_append_right (by omega), hl, Nat.sub_self]
  rfl
theorem row_high {rs : List RowD} {p j : Nat} {r : RowD} (hp : p ≤ rs.length) (hj : p < j) : (rs.take p ++ r :: rs.drop p).getD j (0, []) = rs.getD (j - 1) (0, []) := by
  have hl : (rs.take p).length = p := by rw [List.length_take]; omega
  simp only [List.getD]
  rw [List.getElem?_append_right (by omega), hl, show j - p = (j - 1 - p) + 1 by omega, List.getElem?_cons_succ, List.getElem?_drop, show p + (j - 1 - p) = j - 1 by omega]
theorem insert_owns {W w : World} {B p : Nat} {v x3 vv : Value} {rs : List RowD} {vs : Nat → Value} {cs : List Value} {r : RowD} (hp : p ≤ rs.length)
    (h1 : W.ownsRow B 36 2 v rs.length cs)
    (h2 : ∀ j, j < rs.length → cs[j * 2]? = some (.int .i64 (rs.getD j (0, [])).1) ∧ cs[j * 2 + 1]? = some (vs j) ∧ OwnsN W B (vs j) (rs.getD j (0, [])).2 ∧ ∀ b, (vs j).ownBlock = some b → v.ownBlock ≠ some b)
    (h3 : ∀ i j, i < rs.length → j < rs.length → i ≠ j → ∀ b, (vs i).ownBlock = some b → (vs j).ownBlock ≠ some b)
    (hb : Below W.heap.size W w) (hB : B ≤ W.heap.size) (hx : RowsC w W.heap.size x3 (rs.length + 1) (cs.take (p * 2) ++ [.int .i64 r.1, vv] ++ cs.drop (p * 2)))
    (hv : OwnsN w W.heap.size vv r.2) (hne : ∀ b, vv.ownBlock = some b → x3.ownBlock ≠ some b) : OwnsR w B x3 (rs.take p ++ r :: rs.drop p) := by
  have hcl : cs.length = rs.length * 2 := h1.1
  have hlen : (rs.take p ++ r :: rs.drop p).length = rs.length + 1 := by simp; omega
  have hxlt : ∀ b, x3.ownBlock = some b → W.heap.size ≤ b := fun b e => (hx.lt b e).1
  have old : ∀ j, j < rs.length → ∀ b, (vs j).ownBlock = some b → b < W.heap.size := fun j hj b e => ((h2 j hj).2.2.1.lt b e).2
  have new : ∀ b, vv.ownBlock = some b → W.heap.size ≤ b := fun b e => (hv.lt b e).1
  refine ⟨cs.take (p * 2) ++ [.int .i64 r.1, vv] ++ cs.drop (p * 2), fun j => if j < p then vs j else if j = p then vv else vs (j - 1), ?_, ?_, ?_⟩
  · rw [hlen]
    refine ⟨hx.1, ?_⟩
    rcases hx.2 with hn | ⟨g, cap, cur, e, hb', rest⟩
    · exact .inl hn
    · exact .inr ⟨g, cap, cur, e, Nat.le_trans hB hb', rest⟩
  · intro j hj
    rw [hlen] at hj
    by_cases c1 : j < p
    · simp only [if_pos c1]
      obtain ⟨g1, g2, g3, _⟩ := h2 j (by omega)
      rw [rowIns_low hp c1, mid_low (by omega) (by omega), mid_low (by omega) (by omega)]
      exact ⟨g1, g2, ownsN_below g3 hb, fun b e q => by have := hxlt b q; have := old j (by omega) b e; omega⟩
    · by_cases c2 : j = p
      · subst c2
        simp only [Nat.lt_irrefl, if_false, if_true]
        rw [row_at hp]
        have := mid_at (cs := cs) (p := j) (x := Value.int .i64 r.1) (y := vv) (by omega)
        exact ⟨this.1, this.2, ownsN_up hv hB, hne⟩
      · simp only [if_neg c1, if_neg c2]
        obtain ⟨g1, g2, g3, _⟩ := h2 (j - 1) (by omega)
        rw [row_high hp (by omega), mid_high (by omega) (by omega), mid_high (by omega) (by omega), show j * 2 - 2 = (j - 1) * 2 by omega, show j * 2 + 1 - 2 = (j - 1) * 2 + 1 by omega]
        exact ⟨g1, g2, ownsN_below g3 hb, fun b e q => by have := hxlt b q; have := old (j - 1) (by omega) b e; omega⟩
  · intro i j hi hj hij b
    rw [hlen] at hi hj
    by_cases a1 : i < p
    · simp only [if_pos a1]
      intro e
      by_cases c1 : j < p
      · simp only [if_pos c1]; exact h3 i j (by omega) (by omega) hij b e
      · by_cases c2 : j = p
        · simp only [if_neg c1, if_pos c2]
          intro q
          have := new b q; have := old i (by omega) b e; omega
        · simp only [if_neg c1, if_neg c2]; exact h3 i (j - 1) (by omega) (by omega) (by omega) b e
    · by_cases a2 : i = p
      · simp only [if_neg a1, if_pos a2]
        intro e
        have hnb := new b e
        by_cases c1 : j < p
        · simp only [if_pos c1]; intro q; have := old j (by omega) b q; omega
        · by_cases c2 : j = p
          · omega
          · simp only [if_neg c1, if_neg c2]; intro q; have := old (j - 1) (by omega) b q; omega
      · simp only [if_neg a1, if_neg a2]
        intro e
        have hob := old (i - 1) (by omega) b e
        by_cases c1 : j < p
        · simp only [if_pos c1]; exact h3 (i - 1) j (by omega) (by omega) (by omega) b e
        · by_cases c2 : j = p
          · simp only [if_neg c1, if_pos c2]; intro q; have := new b q; omega
          · simp only [if_neg c1, if_neg c2]; exact h3 (i - 1) (j - 1) (by omega) (by omega) (by omega) b e
theorem rows_one {W : World} {B : Nat} {rs : List RowD} {vs : Nat → Value} {cs : List Value} (hl : cs.length = rs.length * 2)
    (h2 : ∀ j, j < rs.length → cs[j * 2]? = some (.int .i64 (rs.getD j (0, [])).1) ∧ cs[j * 2 + 1]? = some (vs j) ∧ OwnsN W B (vs j) (rs.getD j (0, [])).2) : ∀ u ∈ cs, u.oneCell' = true := by
  intro u hu
  obtain ⟨i, hi, rfl⟩ := List.getElem_of_mem hu
  obtain ⟨g1, g2, g3⟩ := h2 (i / 2) (by omega)
  rcases Nat.mod_two_eq_zero_or_one i with e | e
  · have : i / 2 * 2 = i := by omega
    rw [this, List.getElem?_eq_getElem hi] at g1
    rw [Option.some.inj g1]
    rfl
  · have : i / 2 * 2 + 1 = i := by omega
    rw [this, List.getElem?_eq_getElem hi] at g2
    rw [Option.some.inj g2]
    obtain ⟨a, c, e⟩ := ints_len (ownsN_ints g3)
    rw [e]
    rfl
theorem rows_cells {W w : World} {B g k cp : Nat} {cs : List Value} (h1 : W.ownsRow B 36 2 (.slice (some ⟨g, 0, none⟩) k cp) k cs) (hb : Below W.heap.size W w) : ∀ j u, cs[j]? = some u → w.cell? ((⟨g, 0, none⟩ : Addr).add j) = some u := by
  intro j u hj
  have hl := (List.getElem?_eq_some_iff.1 hj).1
  have hcl : cs.length = k * 2 := h1.1
  rw [Go.WideShapes.add_plain, Nat.zero_add]
  exact (hb.cell (p := ⟨g, j, none⟩) (h1.lt g rfl).2).trans ((World.ownsRow.cellAt h1 j (by omega)).trans hj)
end Go.Proofs.YtijfnabglblimaaGreatDoor
namespace Go.Proofs.YtijfnabglblimaaGreatDoor
open Go.RowKit
set_option linter.unusedVariables false
set_option linter.unusedSimpArgs false
theorem insAt_down {rs : List RowD} {r : RowD} {m : Nat} (h : rowLess r (rs.getD m (0, [])) = true) : insAt rs r (m + 1) = insAt rs r m := by
  simp only [insAt, h, if_true]
theorem insAt_stop {rs : List RowD} {r : RowD} {m : Nat} (h : rowLess r (rs.getD m (0, [])) = false) : insAt rs r (m + 1) = m + 1 := by
  simp only [insAt, h]
  rfl
theorem ownsR_empty (w : World) : OwnsR (w.alloc (.cells #[] 36)) w.heap.size (.slice (some ⟨w.heap.size, 0, none⟩) 0 0) [] := by
  refine ⟨[], fun _ => .slice none 0 0, ?_, fun j hj => by simp at hj, fun i j hi => by simp at hi⟩
  exact World.ownsRow_lit (e := 36) (size := 2) w #[] 0 (Nat.le_refl _) (by unfold maxLen; omega) rfl
theorem rowsC_form {w : World} {B : Nat} {v : Value} {n : Nat} {cs : List Value} (h : RowsC w B v n cs) (hn : 0 < n) : ∃ g cap, v = .slice (some ⟨g, 0, none⟩) n cap := by
  rcases h.2 with ⟨_, h0⟩ | ⟨g, cap, cur, hv, _⟩
  · omega
  · exact ⟨g, cap, hv⟩
theorem insert_end {W0 W1 W2 W3 W4 : World} {B p k : Nat} {v x1 x2 x3 vv : Value} {ss : List RowD} {vs : Nat → Value} {cs : List Value} {id : Int} {xs : List Int} {t : TypeId} {C : Array Value} (hp : p ≤ k) (hsl : ss.length = k)
    (h1 : W0.ownsRow B 36 2 v ss.length cs)
    (h2 : ∀ j, j < ss.length → cs[j * 2]? = some (.int .i64 (ss.getD j (0, [])).1) ∧ cs[j * 2 + 1]? = some (vs j) ∧ OwnsN W0 B (vs j) (ss.getD j (0, [])).2 ∧ ∀ b, (vs j).ownBlock = some b → v.ownBlock ≠ some b)
    (h3 : ∀ i j, i < ss.length → j < ss.length → i ≠ j → ∀ b, (vs i).ownBlock = some b → (vs j).ownBlock ≠ some b)
    (hB : B ≤ W0.heap.size) (b1 : W0.heap.size ≤ W1.heap.size) (hx1 : ∀ b, x1.ownBlock = some b → b < W1.heap.size) (oV : OwnsN W2 W1.heap.size vv xs)
    (g2 : (W2.alloc (.cells C t)).grownBy W3 x1.ownBlock) (hat2 : x2.ownBlock = x1.ownBlock ∨ x2.ownBlock = some (W2.heap.size + 1)) {ds : List Value}
    (hb3 : Below W0.heap.size W0 W3) (o2 : RowsC W3 W0.heap.size x2 (p + 1) (cs.take (p * 2) ++ [.int .i64 id, vv])) (g3 : W3.grownBy W4 x2.ownBlock) (hat3 : x3.ownBlock = x2.ownBlock ∨ x3.ownBlock = some W3.heap.size)
    (o3 : RowsC W4 W0.heap.size x3 (p + 1 + (k - p)) ds) (hds : ds = cs.take (p * 2) ++ [.int .i64 id, vv] ++ cs.drop (p * 2)) (hin : insAt ss (id, xs) k = p) :
    OwnsR W4 B x3 (insL ss (id, xs)) ∧ Below W0.heap.size W0 W4 := by
  subst hds
  have b4 : Below W0.heap.size W0 W4 := hb3.trans ((Below.refl W0.heap.size W3).grown g3 hb3.size (fun j hj => (o2.lt j hj).1))
  refine ⟨?_, b4⟩
  have hs2 : (W2.alloc (.cells C t)).heap.size = W2.heap.size + 1 := by simp [World.size_alloc]
  have hs3 := g2.size
  have vlt : ∀ b, vv.ownBlock = some b → W1.heap.size ≤ b ∧ b < W2.heap.size := fun b e => oV.lt b e
  have n1 : vv.ownBlock = none ∨ vv.ownBlock ≠ x1.ownBlock := by
    cases e : vv.ownBlock with
    | none => exact Or.inl rfl
    | some b => exact Or.inr (fun q => by have := hx1 b q.symm; have := (vlt b e).1; omega)
  have n2 : vv.ownBlock = none ∨ vv.ownBlock ≠ x2.ownBlock := by
    rcases hat2 with e | e
    · rw [e]; exact n1
    · cases e' : vv.ownBlock with
      | none => exact Or.inl rfl
      | some b => exact Or.inr (fun q => by rw [e] at q; have := Option.some.inj q; have := (vlt b e').2; omega)
  have v4 : OwnsN W4 W1.heap.size vv xs := World.ownsRow.kept (World.ownsRow.kept (World.ownsRow.alloc oV _) g2 n1) g3 n2
  have hne : ∀ b, vv.ownBlock = some b → x3.ownBlock ≠ some b := by
    intro b e q
    rcases hat3 with e3 | e3
    · rw [e3] at q
      rcases n2 with h | h
      · rw [h] at e; cases e
      · exact h (e.trans q.symm)
    · rw [e3] at q
      have := Option.some.inj q
      have := (vlt b e).2
      omega
  have hpl : p ≤ ss.length := by omega
  have e : p + 1 + (k - p) = ss.length + 1 := by omega
  rw [e] at o3
  have := insert_owns (r := (id, xs)) hpl h1 h2 h3 b4 hB o3 (ownsN_up v4 b1) hne
  unfold insL
  rw [hsl, hin]
  exact this
set_option maxHeartbeats 8000000 in
set_option maxRecDepth 100000 in
theorem specSortRows (v : Value) (rs : List RowD) (w : World) (h : RowsR w v rs) (hs : szL rs ≤ 1048576) :
    Calls Tryz.prog 29 #[v] w (FreshRows w (sortL rs)) := by
  have H := Lib.hid h
  have HS := Lib.hid hs
  have hlen := szL_len hs
  obtain ⟨a, cap, rfl⟩ := rowsR_len h
  clear h hs
  go_enter Tryz.func29, Tryz.ntmps29
  go_wp2
  have o1 := ownsR_empty w
  have b1 : Below w.heap.size w (w.alloc (.cells #[] 36)) := (Below.refl _ w).alloc (Nat.le_refl _) _
  go_loopw [3, 4] (fun o i wr => ∃ (k g cp : Nat), k ≤ rs.length ∧ i = .int .i64 k ∧ o = .slice (some ⟨g, 0, none⟩) k cp ∧ OwnsR wr w.heap.size (.slice (some ⟨g, 0, none⟩) k cp) (sortTo rs k) ∧ Below w.heap.size w wr) (fun _ i _ => rs.length - (intOf i).toNat)
  case atStart => exact ⟨0, _, _, Nat.zero_le _, rfl, rfl, o1, b1⟩
  case round =>
    obtain ⟨k, g, cp, hk, rfl, rfl, hown, hbel⟩ := hrel
    obtain ⟨W0, hW0⟩ : ∃ W0, W0 = wr := ⟨_, rfl⟩
    subst hW0
    clear o1 b1
    by_cases hlt : k < rs.length
    · obtain ⟨b, off, cap', vv, hv, hbl, hc1, hc2, hI⟩ := rowsR_at (rowsR_below H.out hbel) hlt
      simp only [Value.slice.injEq] at hv
      obtain ⟨rfl, _, rfl⟩ := hv
      have hxl := szL_row HS.out hlt
      have hsl := sortTo_len (a := rs) (k := k) hk
      have hsz := sortTo_sz (k := k) HS.out hk
      have HSTEP := Lib.hid (sortTo_step hlt)
      have i1 : (0 : Int) ≤ (k : Int) := by omega
      have i2 : (k : Int) < (rs.length : Int) := by omega
      generalize hss : sortTo rs k = ss at *
      generalize hr : rs.getD k (0, []) = r at *
      obtain ⟨cs, vs, h1, h2, h3⟩ := hown
      have H1 := Lib.hid h1
      have h1k := h1
      rw [hsl] at h1k
      have H1k := Lib.hid h1k
      have H2 := Lib.hid h2
      have H3 := Lib.hid h3
      have hgl := (h1.lt g rfl)
      have HL := Lib.hid (fun (j : Nat) (hj : j < ss.length) => szL_row hsz hj)
      have HLESS := Lib.hid (fun (q : RowD) (u : Value) (w : World) (hI : Ints w vv r.2) (g : Ints w u q.2) (hq : q.2.length ≤ 1048576) => l3Less_any r.1 q.1 vv u r.2 q.2 w hI g hxl hq)
      clear hss hr h1 h2 h3 hsz h1k
      obtain ⟨id, xs⟩ := r
      simp only at hc1 hc2 hI hxl HLESS
      have HI := Lib.hid hI
      go_wp2
      go_loopw [5] (fun q wr2 => ∃ p : Nat, p ≤ k ∧ q = .int .i64 p ∧ Hid (insAt ss (id, xs) p = insAt ss (id, xs) k) ∧ Below W0.heap.size W0 wr2) (fun q _ => (intOf q).toNat)
      case atStart => exact ⟨k, Nat.le_refl _, rfl, Lib.hid rfl, Below.refl _ _⟩
      case round =>
        obtain ⟨p, hp, rfl, hin, hb2⟩ := hrel
        have hc1' := (hb2.cell (p := ⟨b, off + k * 2, none⟩) hbl).trans hc1
        have hc2' := (hb2.cell (p := ⟨b, off + k * 2 + 1, none⟩) hbl).trans hc2
        by_cases hz : p = 0
        · have HP : Hid (insAt ss (id, xs) k = p) := Lib.hid (hin.out.symm.trans (by rw [hz]; rfl))
          have hg : decide ((0 : Int) < (p : Int)) = false := decide_eq_false (by omega)
          have hgn : decide (0 < p) = false := decide_eq_false (by omega)
          clear hz hc1' hc2'
          go_wp2
          refine wp_region_held_drew (S := fun _ => True) (by kernel_rfl) trivial (fun hHeld => ?_)
          refine take_runs (i := 0) (v := ?_) (by simp only [List.getElem?_toArray, List.getElem?_cons_succ, List.getElem?_cons_zero]; rfl) (by kernel_rfl) (by kernel_rfl) (by kernel_rfl) rfl (by exact fun _ _ _ h => h) (by rfl) ?_ (by assumption) ?_
          rotate_left
          · intro w hSw; (try dsimp only at hSw); go_simp; try (with_reducible rfl)
          try simp only [Act.put, List.setIfInBounds_toArray, List.set_cons_zero, List.set_cons_succ]
          refine take_runs (i := 1) (v := ?_) (by simp only [List.getElem?_toArray, List.getElem?_cons_succ, List.getElem?_cons_zero]; rfl) (by kernel_rfl) (by kernel_rfl) (by kernel_rfl) rfl (by exact fun _ _ _ h => h) (by rfl) ?_ (by assumption) ?_
          rotate_left
          · intro w hSw; (try dsimp only at hSw); go_simp; try (with_reducible rfl)
          try simp only [Act.put, List.setIfInBounds_toArray, List.set_cons_zero, List.set_cons_succ]
          refine take_runs (i := 2) (v := ?_) (by simp only [List.getElem?_toArray, List.getElem?_cons_succ, List.getElem?_cons_zero]; rfl) (by kernel_rfl) (by kernel_rfl) (by kernel_rfl) rfl (by exact fun _ _ _ h => h) (by rfl) ?_ (by assumption) ?_
          rotate_left
          · intro w hSw; (try dsimp only at hSw); go_simp; try (with_reducible rfl)
          try simp only [Act.put, List.setIfInBounds_toArray, List.set_cons_zero, List.set_cons_succ]
          refine take_over (i := 3) (by simp only [List.getElem?_toArray, List.getElem?_cons_succ, List.getElem?_cons_zero]; rfl) (by kernel_rfl) (by kernel_rfl) (by kernel_rfl) rfl (by exact fun _ _ _ h => h) (by rfl) (by assumption) ?_
          try simp only [Act.put, List.setIfInBounds_toArray, List.set_cons_zero, List.set_cons_succ]
          refine take_over (i := 4) (by simp only [List.getElem?_toArray, List.getElem?_cons_succ, List.getElem?_cons_zero]; rfl) (by kernel_rfl) (by kernel_rfl) (by kernel_rfl) rfl (by exact fun _ _ _ h => h) (by rfl) (by assumption) ?_
          try simp only [Act.put, List.setIfInBounds_toArray, List.set_cons_zero, List.set_cons_succ]
          refine take_over (i := 5) (by simp only [List.getElem?_toArray, List.getElem?_cons_succ, List.getElem?_cons_zero]; rfl) (by kernel_rfl) (by kernel_rfl) (by kernel_rfl) rfl (by exact fun _ _ _ h => h) (by rfl) (by assumption) ?_
          try simp only [Act.put, List.setIfInBounds_toArray, List.set_cons_zero, List.set_cons_succ]
          refine take_over (i := 6) (by simp only [List.getElem?_toArray, List.getElem?_cons_succ, List.getElem?_cons_zero]; rfl) (by kernel_rfl) (by kernel_rfl) (by kernel_rfl) rfl (by exact fun _ _ _ h => h) (by rfl) (by assumption) ?_
          try simp only [Act.put, List.setIfInBounds_toArray, List.set_cons_zero, List.set_cons_succ]
          refine take_over (i := 7) (by simp only [List.getElem?_toArray, List.getElem?_cons_succ, List.getElem?_cons_zero]; rfl) (by kernel_rfl) (by kernel_rfl) (by kernel_rfl) rfl (by exact fun _ _ _ h => h) (by rfl) (by assumption) ?_
          try simp only [Act.put, List.setIfInBounds_toArray, List.set_cons_zero, List.set_cons_succ]
          refine take_over (i := 8) (by simp only [List.getElem?_toArray, List.getElem?_cons_succ, List.getElem?_cons_zero]; rfl) (by kernel_rfl) (by kernel_rfl) (by kernel_rfl) rfl (by exact fun _ _ _ h => h) (by rfl) (by assumption) ?_
          try simp only [Act.put, List.setIfInBounds_toArray, List.set_cons_zero, List.set_cons_succ]
          refine take_over (i := 9) (by simp only [List.getElem?_toArray, List.getElem?_cons_succ, List.getElem?_cons_zero]; rfl) (by kernel_rfl) (by kernel_rfl) (by kernel_rfl) rfl (by exact fun _ _ _ h => h) (by rfl) (by assumption) ?_
          try simp only [Act.put, List.setIfInBounds_toArray, List.set_cons_zero, List.set_cons_succ]
          refine take_over (i := 10) (by simp only [List.getElem?_toArray, List.getElem?_cons_succ, List.getElem?_cons_zero]; rfl) (by kernel_rfl) (by kernel_rfl) (by kernel_rfl) rfl (by exact fun _ _ _ h => h) (by rfl) (by assumption) ?_
          try simp only [Act.put, List.setIfInBounds_toArray, List.set_cons_zero, List.set_cons_succ]
          refine take_over (i := 11) (by simp only [List.getElem?_toArray, List.getElem?_cons_succ, List.getElem?_cons_zero]; rfl) (by kernel_rfl) (by kernel_rfl) (by kernel_rfl) rfl (by exact fun _ _ _ h => h) (by rfl) (by assumption) ?_
          try simp only [Act.put, List.setIfInBounds_toArray, List.set_cons_zero, List.set_cons_succ]
          refine take_over (i := 12) (by simp only [List.getElem?_toArray, List.getElem?_cons_succ, List.getElem?_cons_zero]; rfl) (by kernel_rfl) (by kernel_rfl) (by kernel_rfl) rfl (by exact fun _ _ _ h => h) (by rfl) (by assumption) ?_
          try simp only [Act.put, List.setIfInBounds_toArray, List.set_cons_zero, List.set_cons_succ]
          refine take_runs (i := 13) (v := ?_) (by simp only [List.getElem?_toArray, List.getElem?_cons_succ, List.getElem?_cons_zero]; rfl) (by kernel_rfl) (by kernel_rfl) (by kernel_rfl) rfl (by exact fun _ _ _ h => h) (by rfl) ?_ (by assumption) ?_
          rotate_left
          · intro w hSw; (try dsimp only at hSw); go_simp; try (with_reducible rfl)
          try simp only [Act.put, List.setIfInBounds_toArray, List.set_cons_zero, List.set_cons_succ]
          refine wpAnyH_done (by kernel_rfl) ?_ _
          have b11 : Below W0.heap.size W0 wr.drew := below_drew hb2
          clear hHeld hg hgn hb2
          generalize wr.drew = w8 at *
          have hkc : k ≤ cp := by
            rcases H1k.out.2 with ⟨hn, _⟩ | ⟨g', cap', cur, e, _, _, hn, _⟩
            · simp at hn
            · simp only [Value.slice.injEq] at e; omega
          have j3 : (0 : Int) ≤ (p : Int) := by omega
          have j4 : (p : Int) ≤ (cp : Int) := by omega
          have j5 : (p : Int) ≤ (k : Int) := by omega
          have hcl : cs.length = k * 2 := H1k.out.1
          have hone := rows_one (by rw [hsl]; exact hcl) (fun j hj => ⟨(H2.out j hj).1, (H2.out j hj).2.1, (H2.out j hj).2.2.1⟩)
          have HONE := Lib.hid hone
          have HCS := Lib.hid (fun w hb => rows_cells H1k.out (w := w) hb)
          have oX0 : RowsC (w8.alloc (.cells #[] 36)) W0.heap.size (.slice (some ⟨w8.heap.size, 0, none⟩) 0 0) 0 [] := World.ownsRow_lit (e := 36) (size := 2) w8 #[] 0 b11.size (by unfold maxLen; omega) rfl
          have bX0 : Below W0.heap.size W0 (w8.alloc (.cells #[] 36)) := b11.alloc b11.size _
          clear hone
          go_wp2_with (at_builtin; refine append_rows rfl (.tmp 32) (.tmp 35) rfl W0.heap.size _ 0 [] rfl oX0 bX0.size ⟨g, 0, none⟩ p cp (cs.take (p * 2)) rfl (by rw [List.length_take]; omega) (fun j u hj => HCS.out _ bX0 j u (by rw [List.getElem?_take] at hj; split at hj; exact hj; cases hj)) (fun u hu => HONE.out u (List.mem_of_mem_take hu)) (by omega) ?_)
          intro x1 W1 oX1 gX1 _ hat1
          have bel1 : Below w8.heap.size w8 W1 := ((Below.refl _ w8).alloc (Nat.le_refl _) _).grown gX1 (by simp) (fun k hk => by simp [Value.ownBlock] at hk; omega)
          have B1 := b11.trans (bel1.mono b11.size)
          have oX1' : RowsC W1 W0.heap.size x1 p (cs.take (p * 2)) := by simpa using oX1
          have hc1w := (B1.cell (p := ⟨b, off + k * 2, none⟩) hbl).trans hc1
          have hc2w := (B1.cell (p := ⟨b, off + k * 2 + 1, none⟩) hbl).trans hc2
          have HI1 := Lib.hid (ints_below HI.out B1)
          have hx1 : Hid (∀ b, x1.ownBlock = some b → b < W1.heap.size) := Lib.hid (fun b e => (oX1'.lt b e).2)
          clear oX1 gX1 oX0 bX0 hat1
          go_wp2_with fail
          refine (l3Copy_any id vv xs W1 HI1.out hxl).mono ?_
          rintro e W2 ⟨uu2, rfl, oV, bel2⟩
          obtain ⟨va, vc, rfl⟩ := ints_len (ownsN_ints oV)
          have B2 := B1.trans (bel2.mono B1.size)
          have oX1b : RowsC (W2.alloc (.cells #[.int .i64 id, .slice va xs.length vc] 36)) W0.heap.size x1 p (cs.take (p * 2)) := World.ownsRow.alloc (rowsC_kept oX1' bel2) _
          have B2a := B2.alloc B2.size (.cells #[.int .i64 id, .slice va xs.length vc] 36)
          clear hc1w hc2w
          go_wp2_with (at_builtin; refine append_rows rfl (.tmp 37) (.tmp 43) rfl W0.heap.size x1 p _ rfl oX1b B2a.size ⟨W2.heap.size, 0, none⟩ 1 1 [.int .i64 id, .slice va xs.length vc] rfl rfl (fun j u hj => by rw [Go.WideShapes.add_plain, Nat.zero_add, cell_lit]; simpa using hj) (by intro u hu; simp at hu; rcases hu with rfl | rfl <;> rfl) (by omega) ?_)
          intro x2 W3 oX2 gX2 _ hat2
          have bel3 := (Below.refl W0.heap.size (W2.alloc (.cells #[.int .i64 id, .slice va xs.length vc] 36))).grown gX2 B2a.size (fun k hk => (oX1b.lt k hk).1)
          have B3 := B2a.trans bel3
          have hdl : (cs.drop (p * 2)).length = (k - p) * 2 := by rw [List.length_drop]; omega
          have HNW := Lib.hid (fun (j : Nat) (u : Value) (hj : (cs.drop (p * 2))[j]? = some u) => show W3.cell? ((⟨g, p * 2, none⟩ : Addr).add j) = some u by
            rw [List.getElem?_drop] at hj
            have := HCS.out W3 B3 (p * 2 + j) u hj
            rw [Go.WideShapes.add_plain, Nat.zero_add] at this
            rw [Go.WideShapes.add_plain]; exact this)
          have oX2' : RowsC W3 W0.heap.size x2 (p + 1) (cs.take (p * 2) ++ [.int .i64 id, .slice va xs.length vc]) := oX2
          by_cases hpc : cp = p
          · have hdn : cs.drop (p * 2) = [] := List.eq_nil_of_length_eq_zero (by omega)
            have hq3 : cp - p = 0 := by omega
            go_wp2_with (at_builtin; refine append_rows rfl (.tmp 45) (.tmp 48) rfl W0.heap.size x2 (p + 1) _ rfl oX2' B3.size ⟨g, 0, none⟩ (k - p) 0 (cs.drop (p * 2)) (by first | rfl | (simp; done)) hdl (fun j u hj => by rw [hdn] at hj; cases hj) (fun u hu => HONE.out u (List.mem_of_mem_drop hu)) (by omega) ?_)
            intro x3 W4 oX3 gX3 _ hat3
            obtain ⟨FO, FB⟩ := insert_end hp hsl H1.out H2.out H3.out hbel.size B1.size hx1.out oV gX2 hat2 B3 oX2' gX3 hat3 oX3 (by simp [hdn]) HP.out
            obtain ⟨g3, cp3, rfl⟩ := rowsC_form oX3 (by omega)
            rw [show p + 1 + (k - p) = k + 1 by omega] at FO
            have FB2 := hbel.trans (FB.mono hbel.size)
            have e9 : p + 1 + (k - p) = k + 1 := by omega
            rw [e9]
            clear oX3 gX3 hat3
            go_wp2
            go_roundw
            case rel => exact ⟨k + 1, g3, cp3, by omega, by go_num, rfl, by rw [HSTEP.out]; exact FO, FB2⟩
            case measure => simp [intOf]; omega
          · have hq2 : ¬ p = cp := fun e => hpc e.symm
            have hq3 : ¬ cp - p = 0 := by omega
            have hq4 : p < cp := by omega
            have hq5 : ¬ cp ≤ p := by omega
            go_wp2_with (at_builtin; refine append_rows rfl (.tmp 45) (.tmp 48) rfl W0.heap.size x2 (p + 1) _ rfl oX2' B3.size ⟨g, p * 2, none⟩ (k - p) (cp - p) (cs.drop (p * 2)) (by first | rfl | (simp; done)) hdl HNW.out (fun u hu => HONE.out u (List.mem_of_mem_drop hu)) (by omega) ?_)
            intro x3 W4 oX3 gX3 _ hat3
            obtain ⟨FO, FB⟩ := insert_end hp hsl H1.out H2.out H3.out hbel.size B1.size hx1.out oV gX2 hat2 B3 oX2' gX3 hat3 oX3 (by simp) HP.out
            obtain ⟨g3, cp3, rfl⟩ := rowsC_form oX3 (by omega)
            rw [show p + 1 + (k - p) = k + 1 by omega] at FO
            have FB2 := hbel.trans (FB.mono hbel.size)
            have e9 : p + 1 + (k - p) = k + 1 := by omega
            rw [e9]
            clear oX3 gX3 hat3
            go_wp2
            go_roundw
            case rel => exact ⟨k + 1, g3, cp3, by omega, by go_num, rfl, by rw [HSTEP.out]; exact FO, FB2⟩
            case measure => simp [intOf]; omega
        · obtain ⟨m, hpm⟩ : ∃ m, p = m + 1 := ⟨p - 1, by omega⟩
          have hms : m < ss.length := by omega
          obtain ⟨q1, q2, q3, _⟩ := H2.out m hms
          have d1 := (hb2.cell (p := ⟨g, m * 2, none⟩) hgl.2).trans ((World.ownsRow.cellAt H1k.out (m * 2) (by omega)).trans q1)
          have d2 := (hb2.cell (p := ⟨g, m * 2 + 1, none⟩) hgl.2).trans ((World.ownsRow.cellAt H1k.out (m * 2 + 1) (by omega)).trans q2)
          have hJ := Lib.hid (ints_below (ownsN_ints q3) hb2)
          have hI2 := Lib.hid (ints_below HI.out hb2)
          have hyl := HL.out m hms
          have HX := Lib.hid (fun w hI g => HLESS.out (ss.getD m (0, [])) (vs m) w hI g hyl)
          have hg : decide ((0 : Int) < (p : Int)) = true := decide_eq_true (by omega)
          have hgn : decide (0 < p) = true := decide_eq_true (by omega)
          have j1 : (0 : Int) ≤ (m : Int) := by omega
          have j2 : (m : Int) < (k : Int) := by omega
          have hsub : IntKind.i64.wrap ((p : Int) - 1) = (m : Int) := by rw [IntWalk.i64_in _ (by omega)]; omega
          have HDN := Lib.hid (insAt_down (rs := ss) (r := (id, xs)) (m := m))
          have HST := Lib.hid (insAt_stop (rs := ss) (r := (id, xs)) (m := m))
          have HPM := Lib.hid hpm
          clear q1 q2 q3 hz hpm
          have er : (((ss.getD m (0, [])).1, (ss.getD m (0, [])).2) : RowD) = ss.getD m (0, []) := rfl
          rw [er] at HX
          cases hless : rowLess (id, xs) (ss.getD m (0, [])) with
          | true =>
            have HA : Hid (insAt ss (id, xs) m = insAt ss (id, xs) k) := Lib.hid ((HDN.out hless).symm.trans ((congrArg _ HPM.out.symm).trans hin.out))
            rw [hless] at HX
            clear hless er HDN HST
            generalize (ss.getD m (0, [])).1 = id2 at *
            generalize (ss.getD m (0, [])).2 = ys at *
            generalize vs m = uu at *
            go_wp2
            refine wp_region_held_drew (S := fun w' => w'.cell? ⟨b, off + k * 2, none⟩ = some (.int .i64 id) ∧ w'.cell? ⟨b, off + k * 2 + 1, none⟩ = some vv ∧ w'.cell? ⟨g, m * 2, none⟩ = some (.int .i64 id2) ∧ w'.cell? ⟨g, m * 2 + 1, none⟩ = some uu) (by kernel_rfl) ⟨hc1', hc2', d1, d2⟩ (fun hHeld => ?_)
            refine take_runs (i := 0) (v := ?_) (by simp only [List.getElem?_toArray, List.getElem?_cons_succ, List.getElem?_cons_zero]; rfl) (by kernel_rfl) (by kernel_rfl) (by kernel_rfl) rfl (by exact fun _ _ _ h => h) (by rfl) ?_ (by assumption) ?_
            rotate_left
            · intro w hSw; (try dsimp only at hSw); go_simp; try (with_reducible rfl)
            try simp only [Act.put, List.setIfInBounds_toArray, List.set_cons_zero, List.set_cons_succ]
            refine take_runs (i := 1) (v := ?_) (by simp only [List.getElem?_toArray, List.getElem?_cons_succ, List.getElem?_cons_zero]; rfl) (by kernel_rfl) (by kernel_rfl) (by kernel_rfl) rfl (by exact fun _ _ _ h => h) (by rfl) ?_ (by assumption) ?_
            rotate_left
            · intro w hSw; (try dsimp only at hSw); go_simp; try (with_reducible rfl)
            try simp only [Act.put, List.setIfInBounds_toArray, List.set_cons_zero, List.set_cons_succ]
            refine take_runs (i := 2) (v := ?_) (by simp only [List.getElem?_toArray, List.getElem?_cons_succ, List.getElem?_cons_zero]; rfl) (by kernel_rfl) (by kernel_rfl) (by kernel_rfl) rfl (by exact fun _ _ _ h => h) (by rfl) ?_ (by assumption) ?_
            rotate_left
            · intro w hSw; (try dsimp only at hSw); go_simp; try (with_reducible rfl)
            try simp only [Act.put, List.setIfInBounds_toArray, List.set_cons_zero, List.set_cons_succ]
            refine take_runs (i := 3) (v := ?_) (by simp only [List.getElem?_toArray, List.getElem?_cons_succ, List.getElem?_cons_zero]; rfl) (by kernel_rfl) (by kernel_rfl) (by kernel_rfl) rfl (by exact fun _ _ _ h => h) (by rfl) ?_ (by assumption) ?_
            rotate_left
            · intro w hSw; (try dsimp only at hSw); go_simp; try (with_reducible rfl)
            try simp only [Act.put, List.setIfInBounds_toArray, List.set_cons_zero, List.set_cons_succ]
            refine take_runs (i := 4) (v := ?_) (by simp only [List.getElem?_toArray, List.getElem?_cons_succ, List.getElem?_cons_zero]; rfl) (by kernel_rfl) (by kernel_rfl) (by kernel_rfl) rfl (by exact fun _ _ _ h => h) (by rfl) ?_ (by assumption) ?_
            rotate_left
            · intro w hSw; (try dsimp only at hSw); go_simp; try (with_reducible rfl)
            try simp only [Act.put, List.setIfInBounds_toArray, List.set_cons_zero, List.set_cons_succ]
            refine take_runs (i := 5) (v := ?_) (by simp only [List.getElem?_toArray, List.getElem?_cons_succ, List.getElem?_cons_zero]; rfl) (by kernel_rfl) (by kernel_rfl) (by kernel_rfl) rfl (by exact fun _ _ _ h => h) (by rfl) ?_ (by assumption) ?_
            rotate_left
            · intro w hSw; (try dsimp only at hSw); go_simp; try (with_reducible rfl)
            try simp only [Act.put, List.setIfInBounds_toArray, List.set_cons_zero, List.set_cons_succ]
            refine take_runs (i := 6) (v := ?_) (by simp only [List.getElem?_toArray, List.getElem?_cons_succ, List.getElem?_cons_zero]; rfl) (by kernel_rfl) (by kernel_rfl) (by kernel_rfl) rfl (by exact fun _ _ _ h => h) (by rfl) ?_ (by assumption) ?_
            rotate_left
            · intro w hSw; (try dsimp only at hSw); go_simp; try (with_reducible rfl)
            try simp only [Act.put, List.setIfInBounds_toArray, List.set_cons_zero, List.set_cons_succ]
            refine take_runs (i := 7) (v := ?_) (by simp only [List.getElem?_toArray, List.getElem?_cons_succ, List.getElem?_cons_zero]; rfl) (by kernel_rfl) (by kernel_rfl) (by kernel_rfl) rfl (by exact fun _ _ _ h => h) (by rfl) ?_ (by assumption) ?_
            rotate_left
            · intro w hSw; (try dsimp only at hSw); go_simp; try (with_reducible rfl)
            try simp only [Act.put, List.setIfInBounds_toArray, List.set_cons_zero, List.set_cons_succ]
            refine take_runs (i := 8) (v := ?_) (by simp only [List.getElem?_toArray, List.getElem?_cons_succ, List.getElem?_cons_zero]; rfl) (by kernel_rfl) (by kernel_rfl) (by kernel_rfl) rfl (by exact fun _ _ _ h => h) (by rfl) ?_ (by assumption) ?_
            rotate_left
            · intro w hSw; (try dsimp only at hSw); go_simp; try (with_reducible rfl)
            try simp only [Act.put, List.setIfInBounds_toArray, List.set_cons_zero, List.set_cons_succ]
            refine take_runs (i := 9) (v := ?_) (by simp only [List.getElem?_toArray, List.getElem?_cons_succ, List.getElem?_cons_zero]; rfl) (by kernel_rfl) (by kernel_rfl) (by kernel_rfl) rfl (by exact fun _ _ _ h => h) (by rfl) ?_ (by assumption) ?_
            rotate_left
            · intro w hSw; (try dsimp only at hSw); go_simp; try (with_reducible rfl)
            try simp only [Act.put, List.setIfInBounds_toArray, List.set_cons_zero, List.set_cons_succ]
            refine take_runs (i := 10) (v := ?_) (by simp only [List.getElem?_toArray, List.getElem?_cons_succ, List.getElem?_cons_zero]; rfl) (by kernel_rfl) (by kernel_rfl) (by kernel_rfl) rfl (by exact fun _ _ _ h => h) (by rfl) ?_ (by assumption) ?_
            rotate_left
            · intro w hSw; (try dsimp only at hSw); go_simp; try (with_reducible rfl)
            try simp only [Act.put, List.setIfInBounds_toArray, List.set_cons_zero, List.set_cons_succ]
            refine take_runs (i := 11) (v := ?_) (by simp only [List.getElem?_toArray, List.getElem?_cons_succ, List.getElem?_cons_zero]; rfl) (by kernel_rfl) (by kernel_rfl) (by kernel_rfl) rfl (by exact fun _ _ _ h => h) (by rfl) ?_ (by assumption) ?_
            rotate_left
            · intro w hSw; (try dsimp only at hSw); go_simp; try (with_reducible rfl)
            try simp only [Act.put, List.setIfInBounds_toArray, List.set_cons_zero, List.set_cons_succ]
            refine wpAnyH_ready (rs := [12]) (by kernel_rfl) (by simp) ?_
            refine AllReadyH.cons (o := _) (by simp only [List.getElem?_toArray, List.getElem?_cons_succ, List.getElem?_cons_zero]; rfl) (fun K hK => ?_) AllReadyH.nil
            go_simp
            refine (HX.out _ (by exact ints_heap hI2.out rfl) (by exact ints_heap hJ.out rfl)).mono ?_
            rintro e w8 ⟨rfl, b9⟩
            have b10 : Below wr.heap.size wr w8 := ⟨b9.os, b9.tape, b9.output, b9.size, b9.block⟩
            have s1 := (b10.cell (p := ⟨b, off + k * 2, none⟩) (Nat.lt_of_lt_of_le hbl hb2.size)).trans hc1'
            have s2 := (b10.cell (p := ⟨b, off + k * 2 + 1, none⟩) (Nat.lt_of_lt_of_le hbl hb2.size)).trans hc2'
            have s3 := (b10.cell (p := ⟨g, m * 2, none⟩) (Nat.lt_of_lt_of_le hgl.2 hb2.size)).trans d1
            have s4 := (b10.cell (p := ⟨g, m * 2 + 1, none⟩) (Nat.lt_of_lt_of_le hgl.2 hb2.size)).trans d2
            refine hK.out _ _ ⟨s1, s2, s3, s4⟩ (fun hHeld => ?_)
            clear hK K
            try simp only [Act.put, List.setIfInBounds_toArray, List.set_cons_zero, List.set_cons_succ]
            refine take_runs (i := 13) (v := ?_) (by simp only [List.getElem?_toArray, List.getElem?_cons_succ, List.getElem?_cons_zero]; rfl) (by kernel_rfl) (by kernel_rfl) (by kernel_rfl) rfl (by exact fun _ _ _ h => h) (by rfl) ?_ (by assumption) ?_
            rotate_left
            · intro w hSw; (try dsimp only at hSw); go_simp; try (with_reducible rfl)
            try simp only [Act.put, List.setIfInBounds_toArray, List.set_cons_zero, List.set_cons_succ]
            refine wpAnyH_done (by kernel_rfl) ?_ _
            have b11 := hb2.trans (b10.mono hb2.size)
            clear s1 s2 s3 s4 hHeld b9 b10
            go_wp2
            go_roundw
            case rel => exact ⟨m, by omega, rfl, HA, b11⟩
            case measure => have := HPM.out; simp [intOf]; omega
          | false =>
            have HP : Hid (insAt ss (id, xs) k = p) := Lib.hid (hin.out.symm.trans ((congrArg _ HPM.out).trans ((HST.out hless).trans HPM.out.symm)))
            rw [hless] at HX
            clear hless er HDN HST
            generalize (ss.getD m (0, [])).1 = id2 at *
            generalize (ss.getD m (0, [])).2 = ys at *
            generalize vs m = uu at *
            go_wp2
            refine wp_region_held_drew (S := fun w' => w'.cell? ⟨b, off + k * 2, none⟩ = some (.int .i64 id) ∧ w'.cell? ⟨b, off + k * 2 + 1, none⟩ = some vv ∧ w'.cell? ⟨g, m * 2, none⟩ = some (.int .i64 id2) ∧ w'.cell? ⟨g, m * 2 + 1, none⟩ = some uu) (by kernel_rfl) ⟨hc1', hc2', d1, d2⟩ (fun hHeld => ?_)
            refine take_runs (i := 0) (v := ?_) (by simp only [List.getElem?_toArray, List.getElem?_cons_succ, List.getElem?_cons_zero]; rfl) (by kernel_rfl) (by kernel_rfl) (by kernel_rfl) rfl (by exact fun _ _ _ h => h) (by rfl) ?_ (by assumption) ?_
            rotate_left
            · intro w hSw; (try dsimp only at hSw); go_simp; try (with_reducible rfl)
            try simp only [Act.put, List.setIfInBounds_toArray, List.set_cons_zero, List.set_cons_succ]
            refine take_runs (i := 1) (v := ?_) (by simp only [List.getElem?_toArray, List.getElem?_cons_succ, List.getElem?_cons_zero]; rfl) (by kernel_rfl) (by kernel_rfl) (by kernel_rfl) rfl (by exact fun _ _ _ h => h) (by rfl) ?_ (by assumption) ?_
            rotate_left
            · intro w hSw; (try dsimp only at hSw); go_simp; try (with_reducible rfl)
            try simp only [Act.put, List.setIfInBounds_toArray, List.set_cons_zero, List.set_cons_succ]
            refine take_runs (i := 2) (v := ?_) (by simp only [List.getElem?_toArray, List.getElem?_cons_succ, List.getElem?_cons_zero]; rfl) (by kernel_rfl) (by kernel_rfl) (by kernel_rfl) rfl (by exact fun _ _ _ h => h) (by rfl) ?_ (by assumption) ?_
            rotate_left
            · intro w hSw; (try dsimp only at hSw); go_simp; try (with_reducible rfl)
            try simp only [Act.put, List.setIfInBounds_toArray, List.set_cons_zero, List.set_cons_succ]
            refine take_runs (i := 3) (v := ?_) (by simp only [List.getElem?_toArray, List.getElem?_cons_succ, List.getElem?_cons_zero]; rfl) (by kernel_rfl) (by kernel_rfl) (by kernel_rfl) rfl (by exact fun _ _ _ h => h) (by rfl) ?_ (by assumption) ?_
            rotate_left
            · intro w hSw; (try dsimp only at hSw); go_simp; try (with_reducible rfl)
            try simp only [Act.put, List.setIfInBounds_toArray, List.set_cons_zero, List.set_cons_succ]
            refine take_runs (i := 4) (v := ?_) (by simp only [List.getElem?_toArray, List.getElem?_cons_succ, List.getElem?_cons_zero]; rfl) (by kernel_rfl) (by kernel_rfl) (by kernel_rfl) rfl (by exact fun _ _ _ h => h) (by rfl) ?_ (by assumption) ?_
            rotate_left
            · intro w hSw; (try dsimp only at hSw); go_simp; try (with_reducible rfl)
            try simp only [Act.put, List.setIfInBounds_toArray, List.set_cons_zero, List.set_cons_succ]
            refine take_runs (i := 5) (v := ?_) (by simp only [List.getElem?_toArray, List.getElem?_cons_succ, List.getElem?_cons_zero]; rfl) (by kernel_rfl) (by kernel_rfl) (by kernel_rfl) rfl (by exact fun _ _ _ h => h) (by rfl) ?_ (by assumption) ?_
            rotate_left
            · intro w hSw; (try dsimp only at hSw); go_simp; try (with_reducible rfl)
            try simp only [Act.put, List.setIfInBounds_toArray, List.set_cons_zero, List.set_cons_succ]
            refine take_runs (i := 6) (v := ?_) (by simp only [List.getElem?_toArray, List.getElem?_cons_succ, List.getElem?_cons_zero]; rfl) (by kernel_rfl) (by kernel_rfl) (by kernel_rfl) rfl (by exact fun _ _ _ h => h) (by rfl) ?_ (by assumption) ?_
            rotate_left
            · intro w hSw; (try dsimp only at hSw); go_simp; try (with_reducible rfl)
            try simp only [Act.put, List.setIfInBounds_toArray, List.set_cons_zero, List.set_cons_succ]
            refine take_runs (i := 7) (v := ?_) (by simp only [List.getElem?_toArray, List.getElem?_cons_succ, List.getElem?_cons_zero]; rfl) (by kernel_rfl) (by kernel_rfl) (by kernel_rfl) rfl (by exact fun _ _ _ h => h) (by rfl) ?_ (by assumption) ?_
            rotate_left
            · intro w hSw; (try dsimp only at hSw); go_simp; try (with_reducible rfl)
            try simp only [Act.put, List.setIfInBounds_toArray, List.set_cons_zero, List.set_cons_succ]
            refine take_runs (i := 8) (v := ?_) (by simp only [List.getElem?_toArray, List.getElem?_cons_succ, List.getElem?_cons_zero]; rfl) (by kernel_rfl) (by kernel_rfl) (by kernel_rfl) rfl (by exact fun _ _ _ h => h) (by rfl) ?_ (by assumption) ?_
            rotate_left
            · intro w hSw; (try dsimp only at hSw); go_simp; try (with_reducible rfl)
            try simp only [Act.put, List.setIfInBounds_toArray, List.set_cons_zero, List.set_cons_succ]
            refine take_runs (i := 9) (v := ?_) (by simp only [List.getElem?_toArray, List.getElem?_cons_succ, List.getElem?_cons_zero]; rfl) (by kernel_rfl) (by kernel_rfl) (by kernel_rfl) rfl (by exact fun _ _ _ h => h) (by rfl) ?_ (by assumption) ?_
            rotate_left
            · intro w hSw; (try dsimp only at hSw); go_simp; try (with_reducible rfl)
            try simp only [Act.put, List.setIfInBounds_toArray, List.set_cons_zero, List.set_cons_succ]
            refine take_runs (i := 10) (v := ?_) (by simp only [List.getElem?_toArray, List.getElem?_cons_succ, List.getElem?_cons_zero]; rfl) (by kernel_rfl) (by kernel_rfl) (by kernel_rfl) rfl (by exact fun _ _ _ h => h) (by rfl) ?_ (by assumption) ?_
            rotate_left
            · intro w hSw; (try dsimp only at hSw); go_simp; try (with_reducible rfl)
            try simp only [Act.put, List.setIfInBounds_toArray, List.set_cons_zero, List.set_cons_succ]
            refine take_runs (i := 11) (v := ?_) (by simp only [List.getElem?_toArray, List.getElem?_cons_succ, List.getElem?_cons_zero]; rfl) (by kernel_rfl) (by kernel_rfl) (by kernel_rfl) rfl (by exact fun _ _ _ h => h) (by rfl) ?_ (by assumption) ?_
            rotate_left
            · intro w hSw; (try dsimp only at hSw); go_simp; try (with_reducible rfl)
            try simp only [Act.put, List.setIfInBounds_toArray, List.set_cons_zero, List.set_cons_succ]
            refine wpAnyH_ready (rs := [12]) (by kernel_rfl) (by simp) ?_
            refine AllReadyH.cons (o := _) (by simp only [List.getElem?_toArray, List.getElem?_cons_succ, List.getElem?_cons_zero]; rfl) (fun K hK => ?_) AllReadyH.nil
            go_simp
            refine (HX.out _ (by exact ints_heap hI2.out rfl) (by exact ints_heap hJ.out rfl)).mono ?_
            rintro e w8 ⟨rfl, b9⟩
            have b10 : Below wr.heap.size wr w8 := ⟨b9.os, b9.tape, b9.output, b9.size, b9.block⟩
            have s1 := (b10.cell (p := ⟨b, off + k * 2, none⟩) (Nat.lt_of_lt_of_le hbl hb2.size)).trans hc1'
            have s2 := (b10.cell (p := ⟨b, off + k * 2 + 1, none⟩) (Nat.lt_of_lt_of_le hbl hb2.size)).trans hc2'
            have s3 := (b10.cell (p := ⟨g, m * 2, none⟩) (Nat.lt_of_lt_of_le hgl.2 hb2.size)).trans d1
            have s4 := (b10.cell (p := ⟨g, m * 2 + 1, none⟩) (Nat.lt_of_lt_of_le hgl.2 hb2.size)).trans d2
            refine hK.out _ _ ⟨s1, s2, s3, s4⟩ (fun hHeld => ?_)
            clear hK K
            try simp only [Act.put, List.setIfInBounds_toArray, List.set_cons_zero, List.set_cons_succ]
            refine take_runs (i := 13) (v := ?_) (by simp only [List.getElem?_toArray, List.getElem?_cons_succ, List.getElem?_cons_zero]; rfl) (by kernel_rfl) (by kernel_rfl) (by kernel_rfl) rfl (by exact fun _ _ _ h => h) (by rfl) ?_ (by assumption) ?_
            rotate_left
            · intro w hSw; (try dsimp only at hSw); go_simp; try (with_reducible rfl)
            try simp only [Act.put, List.setIfInBounds_toArray, List.set_cons_zero, List.set_cons_succ]
            refine wpAnyH_done (by kernel_rfl) ?_ _
            have b11 := hb2.trans (b10.mono hb2.size)
            clear s1 s2 s3 s4 hHeld b9 b10
            clear d1 d2 hJ hI2 HX hyl hg hgn j1 j2 hsub hc1' hc2'
            have hkc : k ≤ cp := by
              rcases H1k.out.2 with ⟨hn, _⟩ | ⟨g', cap', cur, e, _, _, hn, _⟩
              · simp at hn
              · simp only [Value.slice.injEq] at e; omega
            have j3 : (0 : Int) ≤ (p : Int) := by omega
            have j4 : (p : Int) ≤ (cp : Int) := by omega
            have j5 : (p : Int) ≤ (k : Int) := by omega
            have hcl : cs.length = k * 2 := H1k.out.1
            have hone := rows_one (by rw [hsl]; exact hcl) (fun j hj => ⟨(H2.out j hj).1, (H2.out j hj).2.1, (H2.out j hj).2.2.1⟩)
            have HONE := Lib.hid hone
            have HCS := Lib.hid (fun w hb => rows_cells H1k.out (w := w) hb)
            have oX0 : RowsC (w8.alloc (.cells #[] 36)) W0.heap.size (.slice (some ⟨w8.heap.size, 0, none⟩) 0 0) 0 [] := World.ownsRow_lit (e := 36) (size := 2) w8 #[] 0 b11.size (by unfold maxLen; omega) rfl
            have bX0 : Below W0.heap.size W0 (w8.alloc (.cells #[] 36)) := b11.alloc b11.size _
            clear hone
            go_wp2_with (at_builtin; refine append_rows rfl (.tmp 32) (.tmp 35) rfl W0.heap.size _ 0 [] rfl oX0 bX0.size ⟨g, 0, none⟩ p cp (cs.take (p * 2)) rfl (by rw [List.length_take]; omega) (fun j u hj => HCS.out _ bX0 j u (by rw [List.getElem?_take] at hj; split at hj; exact hj; cases hj)) (fun u hu => HONE.out u (List.mem_of_mem_take hu)) (by omega) ?_)
            intro x1 W1 oX1 gX1 _ hat1
            have bel1 : Below w8.heap.size w8 W1 := ((Below.refl _ w8).alloc (Nat.le_refl _) _).grown gX1 (by simp) (fun k hk => by simp [Value.ownBlock] at hk; omega)
            have B1 := b11.trans (bel1.mono b11.size)
            have oX1' : RowsC W1 W0.heap.size x1 p (cs.take (p * 2)) := by simpa using oX1
            have hc1w := (B1.cell (p := ⟨b, off + k * 2, none⟩) hbl).trans hc1
            have hc2w := (B1.cell (p := ⟨b, off + k * 2 + 1, none⟩) hbl).trans hc2
            have HI1 := Lib.hid (ints_below HI.out B1)
            have hx1 : Hid (∀ b, x1.ownBlock = some b → b < W1.heap.size) := Lib.hid (fun b e => (oX1'.lt b e).2)
            clear oX1 gX1 oX0 bX0 hat1
            go_wp2_with fail
            refine (l3Copy_any id vv xs W1 HI1.out hxl).mono ?_
            rintro e W2 ⟨uu2, rfl, oV, bel2⟩
            obtain ⟨va, vc, rfl⟩ := ints_len (ownsN_ints oV)
            have B2 := B1.trans (bel2.mono B1.size)
            have oX1b : RowsC (W2.alloc (.cells #[.int .i64 id, .slice va xs.length vc] 36)) W0.heap.size x1 p (cs.take (p * 2)) := World.ownsRow.alloc (rowsC_kept oX1' bel2) _
            have B2a := B2.alloc B2.size (.cells #[.int .i64 id, .slice va xs.length vc] 36)
            clear hc1w hc2w
            go_wp2_with (at_builtin; refine append_rows rfl (.tmp 37) (.tmp 43) rfl W0.heap.size x1 p _ rfl oX1b B2a.size ⟨W2.heap.size, 0, none⟩ 1 1 [.int .i64 id, .slice va xs.length vc] rfl rfl (fun j u hj => by rw [Go.WideShapes.add_plain, Nat.zero_add, cell_lit]; simpa using hj) (by intro u hu; simp at hu; rcases hu with rfl | rfl <;> rfl) (by omega) ?_)
            intro x2 W3 oX2 gX2 _ hat2
            have bel3 := (Below.refl W0.heap.size (W2.alloc (.cells #[.int .i64 id, .slice va xs.length vc] 36))).grown gX2 B2a.size (fun k hk => (oX1b.lt k hk).1)
            have B3 := B2a.trans bel3
            have hdl : (cs.drop (p * 2)).length = (k - p) * 2 := by rw [List.length_drop]; omega
            have HNW := Lib.hid (fun (j : Nat) (u : Value) (hj : (cs.drop (p * 2))[j]? = some u) => show W3.cell? ((⟨g, p * 2, none⟩ : Addr).add j) = some u by
              rw [List.getElem?_drop] at hj
              have := HCS.out W3 B3 (p * 2 + j) u hj
              rw [Go.WideShapes.add_plain, Nat.zero_add] at this
              rw [Go.WideShapes.add_plain]; exact this)
            have oX2' : RowsC W3 W0.heap.size x2 (p + 1) (cs.take (p * 2) ++ [.int .i64 id, .slice va xs.length vc]) := oX2
            by_cases hpc : cp = p
            · have hdn : cs.drop (p * 2) = [] := List.eq_nil_of_length_eq_zero (by omega)
              have hq3 : cp - p = 0 := by omega
              go_wp2_with (at_builtin; refine append_rows rfl (.tmp 45) (.tmp 48) rfl W0.heap.size x2 (p + 1) _ rfl oX2' B3.size ⟨g, 0, none⟩ (k - p) 0 (cs.drop (p * 2)) (by first | rfl | (simp; done)) hdl (fun j u hj => by rw [hdn] at hj; cases hj) (fun u hu => HONE.out u (List.mem_of_mem_drop hu)) (by omega) ?_)
              intro x3 W4 oX3 gX3 _ hat3
              obtain ⟨FO, FB⟩ := insert_end hp hsl H1.out H2.out H3.out hbel.size B1.size hx1.out oV gX2 hat2 B3 oX2' gX3 hat3 oX3 (by simp [hdn]) HP.out
              obtain ⟨g3, cp3, rfl⟩ := rowsC_form oX3 (by omega)
              rw [show p + 1 + (k - p) = k + 1 by omega] at FO
              have FB2 := hbel.trans (FB.mono hbel.size)
              have e9 : p + 1 + (k - p) = k + 1 := by omega
              rw [e9]
              clear oX3 gX3 hat3
              go_wp2
              go_roundw
              case rel => exact ⟨k + 1, g3, cp3, by omega, by go_num, rfl, by rw [HSTEP.out]; exact FO, FB2⟩
              case measure => simp [intOf]; omega
            · have hq2 : ¬ p = cp := fun e => hpc e.symm
              have hq3 : ¬ cp - p = 0 := by omega
              have hq4 : p < cp := by omega
              have hq5 : ¬ cp ≤ p := by omega
              go_wp2_with (at_builtin; refine append_rows rfl (.tmp 45) (.tmp 48) rfl W0.heap.size x2 (p + 1) _ rfl oX2' B3.size ⟨g, p * 2, none⟩ (k - p) (cp - p) (cs.drop (p * 2)) (by first | rfl | (simp; done)) hdl HNW.out (fun u hu => HONE.out u (List.mem_of_mem_drop hu)) (by omega) ?_)
              intro x3 W4 oX3 gX3 _ hat3
              obtain ⟨FO, FB⟩ := insert_end hp hsl H1.out H2.out H3.out hbel.size B1.size hx1.out oV gX2 hat2 B3 oX2' gX3 hat3 oX3 (by simp) HP.out
              obtain ⟨g3, cp3, rfl⟩ := rowsC_form oX3 (by omega)
              rw [show p + 1 + (k - p) = k + 1 by omega] at FO
              have FB2 := hbel.trans (FB.mono hbel.size)
              have e9 : p + 1 + (k - p) = k + 1 := by omega
              rw [e9]
              clear oX3 gX3 hat3
              go_wp2
              go_roundw
              case rel => exact ⟨k + 1, g3, cp3, by omega, by go_num, rfl, by rw [HSTEP.out]; exact FO, FB2⟩
              case measure => simp [intOf]; omega
    · obtain rfl : k = rs.length := by omega
      rw [sortTo_all] at hown
      go_wp2
      go_ret
      exact ⟨_, rfl, hown, hbel⟩
end Go.Proofs.YtijfnabglblimaaGreatDoor
namespace Go.Proofs.YtijfnabglblimaaGreatDoor
open Go.RowKit
set_option linter.unusedVariables false
theorem lessL_irr : ∀ xs : List Int, lessL xs xs = false
  | [] => rfl
  | x :: xs => by simp only [lessL, if_true]; exact lessL_irr xs
theorem lessL_tri : ∀ xs ys : List Int, lessL xs ys = false → lessL ys xs = false → xs = ys
  | [], [], _, _ => rfl
  | [], y :: ys, h, _ => by simp [lessL] at h
  | x :: xs, [], _, h => by simp [lessL] at h
  | x :: xs, y :: ys, h1, h2 => by
    by_cases e : x = y
    · subst e
      simp only [lessL, if_true] at h1 h2
      rw [lessL_tri xs ys h1 h2]
    · simp only [lessL, if_neg e, if_neg (fun g => e (Eq.symm g)), decide_eq_false_iff_not] at h1 h2
      omega
theorem lessL_trans : ∀ xs ys zs : List Int, lessL xs ys = true → lessL ys zs = true → lessL xs zs = true
  | _, _, [], _, h => by cases ‹List Int› <;> simp [lessL] at h
  | _, [], _ :: _, h, _ => by cases ‹List Int› <;> simp [lessL] at h
  | [], y :: ys, z :: zs, _, _ => rfl
  | x :: xs, y :: ys, z :: zs, h1, h2 => by
    by_cases e : x = y
    · subst e
      by_cases e2 : x = z
      · subst e2
        simp only [lessL, if_true] at h1 h2 ⊢
        exact lessL_trans xs ys zs h1 h2
      · simp only [lessL, if_neg e2] at h2 ⊢
        exact h2
    · by_cases e2 : y = z
      · subst e2
        simp only [lessL, if_neg e] at h1 ⊢
        exact h1
      · simp only [lessL, if_neg e, if_neg e2, decide_eq_true_eq] at h1 h2
        have e3 : ¬ x = z := by omega
        simp only [lessL, if_neg e3, decide_eq_true_eq]
        omega
theorem rowLess_irr (a : RowD) : rowLess a a = false := by unfold rowLess; rw [if_pos rfl]; exact lessL_irr _
theorem rowLess_tri (a b : RowD) (h1 : rowLess a b = false) (h2 : rowLess b a = false) : a = b := by
  unfold rowLess at h1 h2
  by_cases e : a.1 = b.1
  · rw [if_pos e] at h1
    rw [if_pos e.symm] at h2
    exact Prod.ext e (lessL_tri _ _ h1 h2)
  · rw [if_neg e, decide_eq_false_iff_not] at h1
    rw [if_neg (fun g => e g.symm), decide_eq_false_iff_not] at h2
    omega
theorem rowLess_trans (a b c : RowD) (h1 : rowLess a b = true) (h2 : rowLess b c = true) : rowLess a c = true := by
  unfold rowLess at *
  by_cases e : a.1 = b.1
  · rw [if_pos e] at h1
    by_cases e2 : b.1 = c.1
    · rw [if_pos e2] at h2
      rw [if_pos (e.trans e2)]
      exact lessL_trans _ _ _ h1 h2
    · rw [if_neg e2] at h2
      rw [if_neg (fun g => e2 (e.symm.trans g)), e]
      exact h2
  · rw [if_neg e, decide_eq_true_eq] at h1
    by_cases e2 : b.1 = c.1
    · rw [if_neg (fun g => e (g.trans e2.symm)), ← e2]
      exact decide_eq_true h1
    · rw [if_neg e2, decide_eq_true_eq] at h2
      rw [if_neg (by omega)]
      exact decide_eq_true (by omega)
theorem rowLess_asym {a b : RowD} (h : rowLess a b = true) : rowLess b a = false := by
  rw [Bool.eq_false_iff]
  intro g
  have := rowLess_trans a b a h g
  rw [rowLess_irr] at this
  exact Bool.noConfusion this
theorem rowLess_ntrans (a b c : RowD) (h1 : rowLess a b = false) (h2 : rowLess b c = false) : rowLess a c = false := by
  rw [Bool.eq_false_iff]
  intro g
  cases h3 : rowLess b a with
  | true => rw [rowLess_trans b a c h3 g] at h2; exact Bool.noConfusion h2
  | false => rw [rowLess_tri a b h1 h3] at g; rw [g] at h2; exact Bool.noConfusion h2
/-- Sorted: none before one that is less. -/
def SortedL (rs : List RowD) : Prop := rs.Pairwise (fun a b => rowLess b a = false)
theorem insAt_spec (rs : List RowD) (r : RowD) : ∀ k, (∀ i, insAt rs r k ≤ i → i < k → rowLess r (rs.getD i (0, [])) = true) ∧ (∀ p, insAt rs r k = p + 1 → rowLess r (rs.getD p (0, [])) = false)
  | 0 => ⟨fun i _ h => by omega, fun p h => by simp [insAt] at h⟩
  | k + 1 => by
    obtain ⟨h1, h2⟩ := insAt_spec rs r k
    cases h : rowLess r (rs.getD k (0, [])) with
    | true =>
      rw [insAt_down h]
      refine ⟨fun i hi hk => ?_, h2⟩
      by_cases e : i = k
      · rw [e]; exact h
      · exact h1 i hi (by omega)
    | false =>
      rw [insAt_stop h]
      refine ⟨fun i hi hk => by omega, fun p hp => ?_⟩
      rw [show p = k by omega]
      exact h
theorem sorted_at {rs : List RowD} (h : SortedL rs) {i j : Nat} (hij : i < j) (hj : j < rs.length) : rowLess (rs.getD j (0, [])) (rs.getD i (0, [])) = false := by
  have := List.pairwise_iff_getElem.1 h i j (by omega) hj hij
  have hi : i < rs.length := by omega
  simpa [List.getD, hi, hj] using this
theorem getD_at {rs : List RowD} {i : Nat} (hi : i < rs.length) : rs.getD i (0, []) = rs[i] := by simp [List.getD, hi]
theorem insL_sorted {rs : List RowD} {r : RowD} (h : SortedL rs) : SortedL (insL rs r) := by
  obtain ⟨h1, h2⟩ := insAt_spec rs r rs.length
  have hle := insAt_le rs r rs.length
  unfold insL SortedL
  generalize insAt rs r rs.length = p at *
  have hlow : ∀ x ∈ rs.take p, rowLess r x = false := by
    intro x hx
    obtain ⟨i, hi, rfl⟩ := List.getElem_of_mem hx
    rw [List.length_take] at hi
    obtain ⟨q, rfl⟩ : ∃ q, p = q + 1 := ⟨p - 1, by omega⟩
    have hq := h2 q rfl
    rw [List.getElem_take, ← getD_at (by omega)]
    by_cases e : i = q
    · rw [e]; exact hq
    · exact rowLess_ntrans _ _ _ hq (sorted_at h (by omega) (by omega))
  have hhigh : ∀ x ∈ rs.drop p, rowLess x r = false := by
    intro x hx
    obtain ⟨i, hi, rfl⟩ := List.getElem_of_mem hx
    rw [List.length_drop] at hi
    rw [List.getElem_drop, ← getD_at (by omega)]
    exact rowLess_asym (h1 (p + i) (by omega) (by omega))
  have hs : (rs.take p ++ rs.drop p).Pairwise (fun a b => rowLess b a = false) := by rw [List.take_append_drop]; exact h
  obtain ⟨s1, s2, s3⟩ := List.pairwise_append.1 hs
  refine List.pairwise_append.2 ⟨s1, List.pairwise_cons.2 ⟨hhigh, s2⟩, fun a ha b hb => ?_⟩
  rcases List.mem_cons.1 hb with rfl | hb
  · exact hlow a ha
  · exact s3 a ha b hb
theorem foldl_sorted (a : List RowD) : ∀ acc, SortedL acc → SortedL (a.foldl insL acc) := by
  induction a with
  | nil => intro acc h; exact h
  | cons r a ih => intro acc h; exact ih _ (insL_sorted h)
theorem sortL_sorted (a : List RowD) : SortedL (sortL a) := foldl_sorted a [] List.Pairwise.nil
/-- There is one sorted permutation. -/
theorem sortL_unique {a b : List RowD} (hp : b.Perm a) (hs : SortedL b) : b = sortL a :=
  List.Perm.eq_of_pairwise (le := fun x y => rowLess y x = false) (fun x y _ _ h1 h2 => rowLess_tri x y h2 h1) hs (sortL_sorted a) (hp.trans (sortL_perm a).symm)
/-! The program's comparison: a number below zero, zero, or above zero. -/
def cmpL : List Int → List Int → Int
  | [], [] => 0
  | [], _ :: _ => -1
  | _ :: _, [] => 1
  | x :: xs, y :: ys => if Lib.compareInt x y = 0 then cmpL xs ys else Lib.compareInt x y
def cmpR (a b : RowD) : Int := if Lib.compareInt a.1 b.1 = 0 then cmpL a.2 b.2 else Lib.compareInt a.1 b.1
theorem compareInt_zero (x y : Int) : Lib.compareInt x y = 0 ↔ x = y := by unfold Lib.compareInt; split <;> (try split) <;> omega
theorem compareInt_neg (x y : Int) : Lib.compareInt x y < 0 ↔ x < y := by unfold Lib.compareInt; split <;> (try split) <;> omega
theorem cmpL_less : ∀ xs ys : List Int, decide (cmpL xs ys < 0) = lessL xs ys
  | [], [] => by simp [cmpL, lessL]
  | [], _ :: _ => by simp [cmpL, lessL]
  | _ :: _, [] => by simp [cmpL, lessL]
  | x :: xs, y :: ys => by
    unfold cmpL lessL
    by_cases e : x = y
    · rw [if_pos ((compareInt_zero x y).2 e), if_pos e]
      exact cmpL_less xs ys
    · rw [if_neg (fun g => e ((compareInt_zero x y).1 g)), if_neg e]
      exact decide_eq_decide.2 (compareInt_neg x y)
theorem cmpR_less (a b : RowD) : decide (cmpR a b < 0) = rowLess a b := by
  unfold cmpR rowLess
  by_cases e : a.1 = b.1
  · rw [if_pos ((compareInt_zero _ _).2 e), if_pos e]
    exact cmpL_less _ _
  · rw [if_neg (fun g => e ((compareInt_zero _ _).1 g)), if_neg e]
    exact decide_eq_decide.2 (compareInt_neg _ _)
theorem cmpL_step {xs ys : List Int} {k : Nat} (hx : k < xs.length) (hy : k < ys.length) (h : Lib.compareInt (xs.getD k 0) (ys.getD k 0) = 0) : cmpL (xs.drop k) (ys.drop k) = cmpL (xs.drop (k + 1)) (ys.drop (k + 1)) := by
  rw [List.drop_eq_getElem_cons hx, List.drop_eq_getElem_cons hy]
  have e : Lib.compareInt xs[k] ys[k] = 0 := by simpa [List.getD, hx, hy] using h
  simp only [cmpL, e, if_true]
theorem cmpL_ne {xs ys : List Int} {k : Nat} (hx : k < xs.length) (hy : k < ys.length) (h : ¬ Lib.compareInt (xs.getD k 0) (ys.getD k 0) = 0) : cmpL (xs.drop k) (ys.drop k) = Lib.compareInt (xs.getD k 0) (ys.getD k 0) := by
  rw [List.drop_eq_getElem_cons hx, List.drop_eq_getElem_cons hy]
  have e : ¬ Lib.compareInt xs[k] ys[k] = 0 := by simpa [List.getD, hx, hy] using h
  simp only [cmpL, if_neg e]
  simp [List.getD, hx, hy]
theorem cmpL_long {xs ys : List Int} (hx : ys.length < xs.length) : cmpL (xs.drop ys.length) (ys.drop ys.length) = 1 := by
  rw [List.drop_length, List.drop_eq_getElem_cons hx]
  rfl
theorem cmpL_end {xs ys : List Int} (h : xs.length ≤ ys.length) : cmpL (xs.drop xs.length) (ys.drop xs.length) = if xs.length < ys.length then -1 else 0 := by
  rw [List.drop_length]
  by_cases e : xs.length < ys.length
  · rw [if_pos e, List.drop_eq_getElem_cons e]
    rfl
  · rw [if_neg e, List.drop_eq_nil_of_le (by omega)]
    rfl
end Go.Proofs.YtijfnabglblimaaGreatDoor
namespace Go.Proofs.YtijfnabglblimaaGreatDoor
open Go.RowKit
set_option linter.unusedVariables false
set_option linter.unusedSimpArgs false
/-- The record of a row. -/
def recV (id : Int) (xs : List Int) : Value := .agg #[.int .i64 id, .int .i64 xs.length, .int .i64 (xs.getD 0 0), .int .i64 (xs.getD 1 0), .int .i64 (xs.getD 2 0)]
theorem info_size {P : Program} {e : TypeId} {z : Option Value} {n b : Nat} (h : (P.info? e).map (fun i => (i.zero, i.size, i.bytes)) = some (z, n, b)) : (P.info? e).map (·.size) = some n := by
  cases hq : P.info? e with
  | none => rw [hq] at h; simp at h
  | some i => rw [hq] at h; simp at h; simp [h.2.1]
theorem copy_src {w : World} {a : Option Addr} {cap g : Nat} {xs : List Int} (h : Ints w (.slice a xs.length cap) xs) : 0 < ((xs.take 3).map (Value.int .i64)).length → (some ⟨g, 2, none⟩ : Option Addr) = some ⟨g, 2, none⟩ ∧ ∃ ad, a = some ad ∧ ∀ j v, ((xs.take 3).map (Value.int .i64))[j]? = some v → w.cell? (ad.add j) = some v := by
  intro h0
  refine ⟨rfl, ?_⟩
  rcases h with ⟨rfl, _⟩ | ⟨b, off, cap', e, _, _, hc⟩
  · simp at h0
  · simp only [Value.slice.injEq] at e
    obtain ⟨rfl, _, _⟩ := e
    refine ⟨_, rfl, fun j v hj => ?_⟩
    rw [Go.WideShapes.add_plain]
    rw [List.getElem?_map, List.getElem?_take] at hj
    by_cases hlt : j < 3
    · rw [if_pos hlt] at hj
      by_cases hl : j < xs.length
      · rw [hc j hl]
        rw [List.getElem?_eq_getElem hl] at hj
        simpa [List.getD, hl] using hj
      · rw [List.getElem?_eq_none (by omega)] at hj
        simp at hj
    · rw [if_neg hlt] at hj
      simp at hj
theorem splice_rec (a b : Value) (xs : List Int) : splice [a, b, .int .i64 0, .int .i64 0, .int .i64 0] 2 ((xs.take 3).map (Value.int .i64)) = [a, b, .int .i64 (xs.getD 0 0), .int .i64 (xs.getD 1 0), .int .i64 (xs.getD 2 0)] := by
  match xs with
  | [] => rfl
  | [x] => rfl
  | [x, y] => rfl
  | x :: y :: z :: r => rfl
set_option maxHeartbeats 4000000 in
set_option maxRecDepth 100000 in
theorem recordOf_any (id : Int) (vv : Value) (xs : List Int) (w : World) (h : Ints w vv xs) (hn : xs.length ≤ 1048576) :
    Calls Tryz.prog 73 #[.agg #[.int .i64 id, vv]] w fun e w' => e = .returned (recV id xs) ∧ Below w.heap.size w w' := by
  have H := Lib.hid h
  have HN := Lib.hid hn
  obtain ⟨va, vcap, rfl⟩ := ints_len h
  clear h hn
  go_enter Tryz.func73, Tryz.ntmps73
  go_wp2
  have hh : Below w.heap.size w (((w.alloc (.cells #[.int .i64 id, .slice va xs.length vcap] 36)).alloc (.cells #[.int .i64 0, .int .i64 0, .int .i64 0, .int .i64 0, .int .i64 0] 105)).alloc (.cells #[.int .i64 id, .int .i64 xs.length, .int .i64 0, .int .i64 0, .int .i64 0] 105)) := (((Below.refl _ w).alloc (Nat.le_refl _) _).alloc (by simp) _).alloc (by simp; omega) _
  have g2 : (((w.alloc (.cells #[.int .i64 id, .slice va xs.length vcap] 36)).alloc (.cells #[.int .i64 0, .int .i64 0, .int .i64 0, .int .i64 0, .int .i64 0] 105)).alloc (.cells #[.int .i64 id, .int .i64 xs.length, .int .i64 0, .int .i64 0, .int .i64 0] 105)).heap[w.heap.size + 2]? = some (.cells #[.int .i64 id, .int .i64 xs.length, .int .i64 0, .int .i64 0, .int .i64 0] 105 (0, 0)) := by
    have := heap_alloc_new ((w.alloc (.cells #[.int .i64 id, .slice va xs.length vcap] 36)).alloc (.cells #[.int .i64 0, .int .i64 0, .int .i64 0, .int .i64 0, .int .i64 0] 105)) (.cells #[.int .i64 id, .int .i64 xs.length, .int .i64 0, .int .i64 0, .int .i64 0] 105)
    simpa only [World.size_alloc] using this
  have g1 : (((w.alloc (.cells #[.int .i64 id, .slice va xs.length vcap] 36)).alloc (.cells #[.int .i64 0, .int .i64 0, .int .i64 0, .int .i64 0, .int .i64 0] 105)).alloc (.cells #[.int .i64 id, .int .i64 xs.length, .int .i64 0, .int .i64 0, .int .i64 0] 105)).heap[w.heap.size + 1]? = some (.cells #[.int .i64 0, .int .i64 0, .int .i64 0, .int .i64 0, .int .i64 0] 105 (0, 0)) := by
    rw [Below.heap_alloc _ _ _ (by simp)]
    have := heap_alloc_new (w.alloc (.cells #[.int .i64 id, .slice va xs.length vcap] 36)) (.cells #[.int .i64 0, .int .i64 0, .int .i64 0, .int .i64 0, .int .i64 0] 105)
    simpa only [World.size_alloc] using this
  have g0 : (((w.alloc (.cells #[.int .i64 id, .slice va xs.length vcap] 36)).alloc (.cells #[.int .i64 0, .int .i64 0, .int .i64 0, .int .i64 0, .int .i64 0] 105)).alloc (.cells #[.int .i64 id, .int .i64 xs.length, .int .i64 0, .int .i64 0, .int .i64 0] 105)).heap[w.heap.size]? = some (.cells #[.int .i64 id, .slice va xs.length vcap] 36 (0, 0)) := by
    rw [Below.heap_alloc _ _ _ (by simp; omega), Below.heap_alloc _ _ _ (by simp)]
    exact heap_alloc_new w _
  have hs : (((w.alloc (.cells #[.int .i64 id, .slice va xs.length vcap] 36)).alloc (.cells #[.int .i64 0, .int .i64 0, .int .i64 0, .int .i64 0, .int .i64 0] 105)).alloc (.cells #[.int .i64 id, .int .i64 xs.length, .int .i64 0, .int .i64 0, .int .i64 0] 105)).heap.size = w.heap.size + 3 := by simp [World.size_alloc]
  generalize (((w.alloc (.cells #[.int .i64 id, .slice va xs.length vcap] 36)).alloc (.cells #[.int .i64 0, .int .i64 0, .int .i64 0, .int .i64 0, .int .i64 0] 105)).alloc (.cells #[.int .i64 id, .int .i64 xs.length, .int .i64 0, .int .i64 0, .int .i64 0] 105)) = W at *
  have b0 := cell_of_row W _ 1 _ _ _ g0
  simp at b0
  have I2 := ints_below H.out hh
  refine wp_region_held_drew (S := fun w' => w'.cell? ⟨w.heap.size, 1, none⟩ = some (.slice va xs.length vcap)) (by kernel_rfl) b0 (fun hHeld => ?_)
  refine take_runs (i := 0) (v := ?_) (by simp only [List.getElem?_toArray, List.getElem?_cons_succ, List.getElem?_cons_zero]; rfl) (by kernel_rfl) (by kernel_rfl) (by kernel_rfl) rfl (by exact fun _ _ _ h => h) (by rfl) ?_ (by assumption) ?_
  rotate_left
  · intro w hSw; (try dsimp only at hSw); go_simp; try (with_reducible rfl)
  try simp only [Act.put, List.setIfInBounds_toArray, List.set_cons_zero, List.set_cons_succ]
  refine take_runs (i := 1) (v := ?_) (by simp only [List.getElem?_toArray, List.getElem?_cons_succ, List.getElem?_cons_zero]; rfl) (by kernel_rfl) (by kernel_rfl) (by kernel_rfl) rfl (by exact fun _ _ _ h => h) (by rfl) ?_ (by assumption) ?_
  rotate_left
  · intro w hSw; (try dsimp only at hSw); go_simp; try (with_reducible rfl)
  try simp only [Act.put, List.setIfInBounds_toArray, List.set_cons_zero, List.set_cons_succ]
  refine take_runs (i := 2) (v := ?_) (by simp only [List.getElem?_toArray, List.getElem?_cons_succ, List.getElem?_cons_zero]; rfl) (by kernel_rfl) (by kernel_rfl) (by kernel_rfl) rfl (by exact fun _ _ _ h => h) (by rfl) ?_ (by assumption) ?_
  rotate_left
  · intro w hSw; (try dsimp only at hSw); go_simp; try (with_reducible rfl)
  try simp only [Act.put, List.setIfInBounds_toArray, List.set_cons_zero, List.set_cons_succ]
  refine take_runs (i := 3) (v := ?_) (by simp only [List.getElem?_toArray, List.getElem?_cons_succ, List.getElem?_cons_zero]; rfl) (by kernel_rfl) (by kernel_rfl) (by kernel_rfl) rfl (by exact fun _ _ _ h => h) (by rfl) ?_ (by assumption) ?_
  rotate_left
  · intro w hSw; (try dsimp only at hSw); go_simp; try (with_reducible rfl)
  try simp only [Act.put, List.setIfInBounds_toArray, List.set_cons_zero, List.set_cons_succ]
  refine wpAnyH_ready (rs := [4]) (by kernel_rfl) (by simp) ?_
  refine AllReadyH.cons (o := _) (by simp only [List.getElem?_toArray, List.getElem?_cons_succ, List.getElem?_cons_zero]; rfl) (fun K hK => ?_) AllReadyH.nil
  refine step_copy_splice rfl (.tmp 11) (.tmp 13) 25 25 rfl 3 Tryz.underlying25 (info_size Tryz.infoI64) _ _ _ _ _ _ rfl rfl (w.heap.size + 2) 2 [.int .i64 id, .int .i64 xs.length, .int .i64 0, .int .i64 0, .int .i64 0] _ g2 ((xs.take 3).map (Value.int .i64)) (by simp [Nat.min_comm]) (copy_src I2) (by simp; omega) (fun u hu => by obtain ⟨y, _, rfl⟩ := List.mem_map.1 hu; rfl) (w.heap.size + 2) W (below_drew (Below.refl _ W)) (Nat.le_refl _) ?_
  intro W2 G2 bA
  rw [splice_rec] at G2
  have k0 := (bA.block w.heap.size (by omega)).trans g0
  have b1 := cell_of_row W2 _ 1 _ _ _ k0
  simp at b1
  refine hK.out _ _ b1 (fun hHeld2 => ?_)
  clear hK K hHeld
  try simp only [Act.put, List.setIfInBounds_toArray, List.set_cons_zero, List.set_cons_succ]
  refine wpAnyH_done (by kernel_rfl) ?_ _
  have k1 := (bA.block (w.heap.size + 1) (by omega)).trans g1
  have k2 := G2.out
  have hbb := hh.trans (bA.mono (by omega))
  clear G2 bA g0 g1 g2 I2 hHeld2 b0 b1 k0 hh hs
  obtain ⟨n, hn2⟩ : ∃ n : Nat, n = xs.length := ⟨_, rfl⟩
  have c0 := cell_of_row W2 _ 0 _ _ _ k2
  have d0 := cell_of_row W2 _ 0 _ _ _ k1
  have f0 := frozen_of_row W2 _ 0 _ _ k1
  have c1 := cell_of_row W2 _ 1 _ _ _ k2
  have d1 := cell_of_row W2 _ 1 _ _ _ k1
  have f1 := frozen_of_row W2 _ 1 _ _ k1
  have c2 := cell_of_row W2 _ 2 _ _ _ k2
  have d2 := cell_of_row W2 _ 2 _ _ _ k1
  have f2 := frozen_of_row W2 _ 2 _ _ k1
  have c3 := cell_of_row W2 _ 3 _ _ _ k2
  have d3 := cell_of_row W2 _ 3 _ _ _ k1
  have f3 := frozen_of_row W2 _ 3 _ _ k1
  have c4 := cell_of_row W2 _ 4 _ _ _ k2
  have d4 := cell_of_row W2 _ 4 _ _ _ k1
  have f4 := frozen_of_row W2 _ 4 _ _ k1
  simp at c0 c1 c2 c3 c4 d0 d1 d2 d3 d4
  clear k2 hn2
  generalize hx0 : xs[0]?.getD 0 = x0 at c2
  generalize hx1 : xs[1]?.getD 0 = x1 at c3
  generalize hx2 : xs[2]?.getD 0 = x2 at c4
  have HX := Lib.hid (And.intro hx0 (And.intro hx1 hx2))
  clear hx0 hx1 hx2
  go_wp2
  have r0 := heap_setCell_same W2 (w.heap.size + 1) 0 _ _ (.int .i64 id) k1
  have r1 := heap_setCell_same _ (w.heap.size + 1) 1 _ _ (.int .i64 xs.length) r0
  have r2 := heap_setCell_same _ (w.heap.size + 1) 2 _ _ (.int .i64 x0) r1
  have r3 := heap_setCell_same _ (w.heap.size + 1) 3 _ _ (.int .i64 x1) r2
  have r4 := heap_setCell_same _ (w.heap.size + 1) 4 _ _ (.int .i64 x2) r3
  have B4 := (((((hbb.setCell (p := ⟨w.heap.size + 1, 0, none⟩) (by simp) (.int .i64 id)).setCell (p := ⟨w.heap.size + 1, 1, none⟩) (by simp) (.int .i64 xs.length)).setCell (p := ⟨w.heap.size + 1, 2, none⟩) (by simp) (.int .i64 x0)).setCell (p := ⟨w.heap.size + 1, 3, none⟩) (by simp) (.int .i64 x1)).setCell (p := ⟨w.heap.size + 1, 4, none⟩) (by simp) (.int .i64 x2))
  clear r0 r1 r2 r3 k1
  have e0 := cell_of_row _ _ 0 _ _ _ r4
  have e1 := cell_of_row _ _ 1 _ _ _ r4
  have e2 := cell_of_row _ _ 2 _ _ _ r4
  have e3 := cell_of_row _ _ 3 _ _ _ r4
  have e4 := cell_of_row _ _ 4 _ _ _ r4
  simp at e0 e1 e2 e3 e4
  clear r4
  refine bodyPost_ret (v := .agg #[.int .i64 id, .int .i64 xs.length, .int .i64 x0, .int .i64 x1, .int .i64 x2]) ?_ rfl ?_
  · simp [results, Tryz.f73, go_sem, e0, e1, e2, e3, e4]
  · obtain ⟨rfl, rfl, rfl⟩ := HX.out
    exact ⟨by simp [recV], B4⟩
end Go.Proofs.YtijfnabglblimaaGreatDoor
namespace Go.Proofs.YtijfnabglblimaaGreatDoor
open Go.RowKit
set_option linter.unusedVariables false
set_option linter.unusedSimpArgs false
/-- A value moved into the range. -/
def limI (x : Int) : Int := min (max x 0) 99
theorem idx0 (a b c : Int) (w : World) : Sem.run Tryz.prog (Instr.index 103 (.agg #[.int .i64 a, .int .i64 b, .int .i64 c]) (.int .i64 0)) w = .ok (.int .i64 a) w := by
  have u := Tryz.underlying103
  have z := Tryz.sizeOf3
  have g := Tryz.isAgg3
  unfold Instr.index
  go_simp
theorem idx1 (a b c : Int) (w : World) : Sem.run Tryz.prog (Instr.index 103 (.agg #[.int .i64 a, .int .i64 b, .int .i64 c]) (.int .i64 1)) w = .ok (.int .i64 b) w := by
  have u := Tryz.underlying103
  have z := Tryz.sizeOf3
  have g := Tryz.isAgg3
  unfold Instr.index
  go_simp
theorem idx2 (a b c : Int) (w : World) : Sem.run Tryz.prog (Instr.index 103 (.agg #[.int .i64 a, .int .i64 b, .int .i64 c]) (.int .i64 2)) w = .ok (.int .i64 c) w := by
  have u := Tryz.underlying103
  have z := Tryz.sizeOf3
  have g := Tryz.isAgg3
  unfold Instr.index
  go_simp
set_option maxHeartbeats 4000000 in
set_option maxRecDepth 100000 in
theorem limited_any (a b c : Int) (w : World) :
    Calls Tryz.prog 99 #[.agg #[.int .i64 a, .int .i64 b, .int .i64 c]] w fun e w' => e = .returned (.agg #[.int .i64 (limI a), .int .i64 (limI b), .int .i64 (limI c)]) ∧ Below w.heap.size w w' := by
  have i0 := idx0 a b c
  have i1 := idx1 a b c
  have i2 := idx2 a b c
  go_enter Tryz.func99, Tryz.ntmps99
  go_wp2
  refine wp_loop_rounds 4 ?_
  rw [rounds_succ]
  go_wp2
  rw [rounds_succ]
  go_wp2
  rw [rounds_succ]
  go_wp2
  rw [rounds_succ]
  go_wp2
  refine bodyPost_ret (v := .agg #[.int .i64 (limI a), .int .i64 (limI b), .int .i64 (limI c)]) ?_ rfl ?_
  · simp [results, Tryz.f99, go_sem, limI]
  refine ⟨rfl, ?_⟩
  exact ((Below.refl _ w).alloc (Nat.le_refl _) _).alloc (by simp) _
end Go.Proofs.YtijfnabglblimaaGreatDoor
namespace Go.Proofs.YtijfnabglblimaaGreatDoor
open Go.RowKit
set_option linter.unusedVariables false
set_option linter.unusedSimpArgs false
theorem eqIn_arr (d : Nat) (a b c x y z : Int) (w : World) : (Op.equalIn (d + 2) 103 (.agg #[.int .i64 a, .int .i64 b, .int .i64 c]) (.agg #[.int .i64 x, .int .i64 y, .int .i64 z])).run Tryz.prog w = .ok (a == x && b == y && c == z) w := by
  have u := Tryz.underlying103
  have u3 := Tryz.underlying3
  have z3 := Tryz.sizeOf3
  have g := Tryz.isAgg3
  rw [Op.equalIn]
  simp only [Sem.run_bind, run_underlying u, Result.andThen_ok, z3]
  simp only [Std.Legacy.Range.forIn_eq_forIn_range', Std.Legacy.Range.size]
  simp [List.range', g, z3, go_sem, run_equalIn_int (P := Tryz.prog) _ d _ _ _ _ _ u3]
  by_cases h1 : a = x <;> by_cases h2 : b = y <;> by_cases h3 : c = z <;> simp [h1, h2, h3]
theorem eql_arr (a b c x y z : Int) (w : World) : Sem.run Tryz.prog (binOp .eql 103 (.agg #[.int .i64 a, .int .i64 b, .int .i64 c]) (.agg #[.int .i64 x, .int .i64 y, .int .i64 z])) w = .ok (.bool (a == x && b == y && c == z)) w := by
  rw [run_eql_struct, show (10000 : Nat) = 9998 + 2 from rfl, eqIn_arr]
  rfl
theorem guard_arr (o1 o2 : Operand) (xs ys : Array Value) (w : World) : Sem.run Tryz.prog (eqGuard .eql 103 o1 o2 (.agg xs) (.agg ys)) w = .ok () w := run_eqGuard_agg w _ _ _ _ _ _ (by kernel_rfl)
theorem guard_rec (o1 o2 : Operand) (xs ys : Array Value) (w : World) : Sem.run Tryz.prog (eqGuard .eql 105 o1 o2 (.agg xs) (.agg ys)) w = .ok () w := run_eqGuard_agg w _ _ _ _ _ _ (by kernel_rfl)
set_option maxHeartbeats 2000000 in
theorem eql_rec (i n a b c j m x y z : Int) (w : World) : Sem.run Tryz.prog (binOp .eql 105 (.agg #[.int .i64 i, .int .i64 n, .int .i64 a, .int .i64 b, .int .i64 c]) (.agg #[.int .i64 j, .int .i64 m, .int .i64 x, .int .i64 y, .int .i64 z])) w = .ok (.bool (i == j && n == m && (a == x && b == y && c == z))) w := by
  have hS : Tryz.prog.underlying 105 = some (.struct (Tryz.prog.fieldsOf 105)) := by kernel_rfl
  have hp : Tryz.prog.stoodInHeld 105 = false := by kernel_rfl
  have u := Tryz.underlying3
  have z3 := Tryz.sizeOf3
  have g := Tryz.isAgg3
  have ga := Tryz.isAgg103
  have za := Tryz.sizeOf103
  rw [run_eql_struct, show (10000 : Nat) = 9999 + 1 from rfl, run_equalIn_agg w 9999 105 _ _ hS hp]
  simp only [Program.fieldsOf, Tryz.underlying105]
  have hh := fun w => eqIn_arr 9997 a b c x y z w
  simp only [show 9997 + 2 = 9999 from rfl] at hh
  go_simp
  by_cases h1 : i = j <;> by_cases h2 : n = m <;> by_cases h3 : a = x <;> by_cases h4 : b = y <;> by_cases h5 : c = z <;> simp [h1, h2, h3, h4, h5]
end Go.Proofs.YtijfnabglblimaaGreatDoor
namespace Go.Proofs.YtijfnabglblimaaGreatDoor
open Go.RowKit
set_option linter.unusedVariables false
set_option linter.unusedSimpArgs false
theorem isRowId_yes (id : Int) (w : World) (h1 : 0 ≤ id) (h2 : id ≤ 999) : Calls Tryz.prog 98 #[.int .i64 id] w fun e w' => e = .returned (.bool true) ∧ w' = w := by
  go_enter Tryz.func98, Tryz.ntmps98
  go_wp2
  go_ret
  exact ⟨rfl, rfl⟩
theorem isRowId_no (id : Int) (w : World) (h : ¬ (0 ≤ id ∧ id ≤ 999)) : Calls Tryz.prog 98 #[.int .i64 id] w fun e w' => e = .returned (.bool false) ∧ w' = w := by
  by_cases h1 : 0 ≤ id
  · have h2 : ¬ id ≤ 999 := fun g => h ⟨h1, g⟩
    clear h
    go_enter Tryz.func98, Tryz.ntmps98
    go_wp2
    go_ret
    exact ⟨rfl, rfl⟩
  · clear h
    go_enter Tryz.func98, Tryz.ntmps98
    go_wp2
    go_ret
    exact ⟨rfl, rfl⟩
/-- Is a record valid? -/
def recB (id n a b c : Int) : Bool := decide (0 ≤ id ∧ id ≤ 999) && (decide (n = 3) && (a == limI a && b == limI b && c == limI c))
theorem lim_in (x : Int) : (x == limI x) = decide (0 ≤ x ∧ x ≤ 99) := by
  unfold limI
  by_cases h : 0 ≤ x ∧ x ≤ 99
  · rw [decide_eq_true h, beq_iff_eq]; omega
  · rw [decide_eq_false h, beq_eq_false_iff_ne]; omega
theorem recB_row (id : Int) (xs : List Int) : recB id xs.length (xs.getD 0 0) (xs.getD 1 0) (xs.getD 2 0) = rowB (id, xs) := by
  unfold recB rowB
  simp only [lim_in]
  match xs with
  | [] => simp
  | [x] => simp
  | [x, y] => simp
  | [x, y, z] => simp [List.all, Bool.and_assoc]
  | x :: y :: z :: u :: r =>
    have : ¬ ((r.length : Int) + 1 + 1 + 1 + 1 = 3) := by omega
    simp [this]
theorem below_from {W w8 w9 : World} (h : w8 = W.drew) (b : Below w8.heap.size w8 w9) : Below W.heap.size W w9 := by subst h; exact ⟨b.os, b.tape, b.output, b.size, b.block⟩
set_option maxHeartbeats 8000000 in
set_option maxRecDepth 100000 in
theorem isValid_id (id n a b c : Int) (w : World) (h : ¬ (0 ≤ id ∧ id ≤ 999)) :
    Calls Tryz.prog 74 #[.agg #[.int .i64 id, .int .i64 n, .int .i64 a, .int .i64 b, .int .i64 c]] w fun e w' => e = .returned (.bool (false)) ∧ Below w.heap.size w w' := by
  have HI := Lib.hid (fun w => isRowId_no id w h)
  clear h
  go_enter Tryz.func74, Tryz.ntmps74
  go_wp2
  have hh : Below w.heap.size w (w.alloc (.cells #[.int .i64 id, .int .i64 n, .int .i64 a, .int .i64 b, .int .i64 c] 105)) := (Below.refl _ w).alloc (Nat.le_refl _) _
  have g0 := heap_alloc_new w (.cells #[.int .i64 id, .int .i64 n, .int .i64 a, .int .i64 b, .int .i64 c] 105)
  have hlt : w.heap.size < (w.alloc (.cells #[.int .i64 id, .int .i64 n, .int .i64 a, .int .i64 b, .int .i64 c] 105)).heap.size := by simp
  generalize w.alloc (.cells #[.int .i64 id, .int .i64 n, .int .i64 a, .int .i64 b, .int .i64 c] 105) = W at *
  have q0 := cell_of_row W _ 0 _ _ _ g0
  have q1 := cell_of_row W _ 1 _ _ _ g0
  have q2 := cell_of_row W _ 2 _ _ _ g0
  have q3 := cell_of_row W _ 3 _ _ _ g0
  have q4 := cell_of_row W _ 4 _ _ _ g0
  simp at q0 q1 q2 q3 q4
  refine wp_region_held_drew (S := fun w' => w'.cell? ⟨w.heap.size, 0, none⟩ = some (.int .i64 id) ∧ w'.cell? ⟨w.heap.size, 1, none⟩ = some (.int .i64 n) ∧ w'.cell? ⟨w.heap.size, 2, none⟩ = some (.int .i64 a) ∧ w'.cell? ⟨w.heap.size, 3, none⟩ = some (.int .i64 b) ∧ w'.cell? ⟨w.heap.size, 4, none⟩ = some (.int .i64 c)) (by kernel_rfl) ⟨q0, q1, q2, q3, q4⟩ (fun hHeld => ?_)
  refine take_runs (i := 0) (v := ?_) (by simp only [List.getElem?_toArray, List.getElem?_cons_succ, List.getElem?_cons_zero]; rfl) (by kernel_rfl) (by kernel_rfl) (by kernel_rfl) rfl (by exact fun _ _ _ h => h) (by rfl) ?_ (by assumption) ?_
  rotate_left
  · intro w hSw; (try dsimp only at hSw); go_simp; try (with_reducible rfl)
  try simp only [Act.put, List.setIfInBounds_toArray, List.set_cons_zero, List.set_cons_succ]
  refine take_runs (i := 1) (v := ?_) (by simp only [List.getElem?_toArray, List.getElem?_cons_succ, List.getElem?_cons_zero]; rfl) (by kernel_rfl) (by kernel_rfl) (by kernel_rfl) rfl (by exact fun _ _ _ h => h) (by rfl) ?_ (by assumption) ?_
  rotate_left
  · intro w hSw; (try dsimp only at hSw); go_simp; try (with_reducible rfl)
  try simp only [Act.put, List.setIfInBounds_toArray, List.set_cons_zero, List.set_cons_succ]
  refine wpAnyH_ready (rs := [2]) (by kernel_rfl) (by simp) ?_
  refine AllReadyH.cons (o := _) (by simp only [List.getElem?_toArray, List.getElem?_cons_succ, List.getElem?_cons_zero]; rfl) (fun K hK => ?_) AllReadyH.nil
  go_simp
  refine (HI.out _).mono ?_
  rintro e w8 ⟨rfl, rfl⟩
  refine hK.out _ _ ⟨q0, q1, q2, q3, q4⟩ (fun hHeld => ?_)
  clear hK K
  try simp only [Act.put, List.setIfInBounds_toArray, List.set_cons_zero, List.set_cons_succ]
  refine take_runs (i := 3) (v := ?_) (by simp only [List.getElem?_toArray, List.getElem?_cons_succ, List.getElem?_cons_zero]; rfl) (by kernel_rfl) (by kernel_rfl) (by kernel_rfl) rfl (by exact fun _ _ _ h => h) (by rfl) ?_ (by assumption) ?_
  rotate_left
  · intro w hSw; (try dsimp only at hSw); go_simp; try (with_reducible rfl)
  try simp only [Act.put, List.setIfInBounds_toArray, List.set_cons_zero, List.set_cons_succ]
  refine take_over (i := 4) (by simp only [List.getElem?_toArray, List.getElem?_cons_succ, List.getElem?_cons_zero]; rfl) (by kernel_rfl) (by kernel_rfl) (by kernel_rfl) rfl (by exact fun _ _ _ h => h) (by rfl) (by assumption) ?_
  try simp only [Act.put, List.setIfInBounds_toArray, List.set_cons_zero, List.set_cons_succ]
  refine take_over (i := 5) (by simp only [List.getElem?_toArray, List.getElem?_cons_succ, List.getElem?_cons_zero]; rfl) (by kernel_rfl) (by kernel_rfl) (by kernel_rfl) rfl (by exact fun _ _ _ h => h) (by rfl) (by assumption) ?_
  try simp only [Act.put, List.setIfInBounds_toArray, List.set_cons_zero, List.set_cons_succ]
  refine take_over (i := 6) (by simp only [List.getElem?_toArray, List.getElem?_cons_succ, List.getElem?_cons_zero]; rfl) (by kernel_rfl) (by kernel_rfl) (by kernel_rfl) rfl (by exact fun _ _ _ h => h) (by rfl) (by assumption) ?_
  try simp only [Act.put, List.setIfInBounds_toArray, List.set_cons_zero, List.set_cons_succ]
  refine take_runs (i := 7) (v := ?_) (by simp only [List.getElem?_toArray, List.getElem?_cons_succ, List.getElem?_cons_zero]; rfl) (by kernel_rfl) (by kernel_rfl) (by kernel_rfl) rfl (by exact fun _ _ _ h => h) (by rfl) ?_ (by assumption) ?_
  rotate_left
  · intro w hSw; (try dsimp only at hSw); go_simp; try (with_reducible rfl)
  try simp only [Act.put, List.setIfInBounds_toArray, List.set_cons_zero, List.set_cons_succ]
  refine take_runs (i := 8) (v := ?_) (by simp only [List.getElem?_toArray, List.getElem?_cons_succ, List.getElem?_cons_zero]; rfl) (by kernel_rfl) (by kernel_rfl) (by kernel_rfl) rfl (by exact fun _ _ _ h => h) (by rfl) ?_ (by assumption) ?_
  rotate_left
  · intro w hSw; (try dsimp only at hSw); go_simp; try (with_reducible rfl)
  try simp only [Act.put, List.setIfInBounds_toArray, List.set_cons_zero, List.set_cons_succ]
  refine take_over (i := 9) (by simp only [List.getElem?_toArray, List.getElem?_cons_succ, List.getElem?_cons_zero]; rfl) (by kernel_rfl) (by kernel_rfl) (by kernel_rfl) rfl (by exact fun _ _ _ h => h) (by rfl) (by assumption) ?_
  try simp only [Act.put, List.setIfInBounds_toArray, List.set_cons_zero, List.set_cons_succ]
  refine take_over (i := 10) (by simp only [List.getElem?_toArray, List.getElem?_cons_succ, List.getElem?_cons_zero]; rfl) (by kernel_rfl) (by kernel_rfl) (by kernel_rfl) rfl (by exact fun _ _ _ h => h) (by rfl) (by assumption) ?_
  try simp only [Act.put, List.setIfInBounds_toArray, List.set_cons_zero, List.set_cons_succ]
  refine take_over (i := 11) (by simp only [List.getElem?_toArray, List.getElem?_cons_succ, List.getElem?_cons_zero]; rfl) (by kernel_rfl) (by kernel_rfl) (by kernel_rfl) rfl (by exact fun _ _ _ h => h) (by rfl) (by assumption) ?_
  try simp only [Act.put, List.setIfInBounds_toArray, List.set_cons_zero, List.set_cons_succ]
  refine take_over (i := 12) (by simp only [List.getElem?_toArray, List.getElem?_cons_succ, List.getElem?_cons_zero]; rfl) (by kernel_rfl) (by kernel_rfl) (by kernel_rfl) rfl (by exact fun _ _ _ h => h) (by rfl) (by assumption) ?_
  try simp only [Act.put, List.setIfInBounds_toArray, List.set_cons_zero, List.set_cons_succ]
  refine take_over (i := 13) (by simp only [List.getElem?_toArray, List.getElem?_cons_succ, List.getElem?_cons_zero]; rfl) (by kernel_rfl) (by kernel_rfl) (by kernel_rfl) rfl (by exact fun _ _ _ h => h) (by rfl) (by assumption) ?_
  try simp only [Act.put, List.setIfInBounds_toArray, List.set_cons_zero, List.set_cons_succ]
  refine take_over (i := 14) (by simp only [List.getElem?_toArray, List.getElem?_cons_succ, List.getElem?_cons_zero]; rfl) (by kernel_rfl) (by kernel_rfl) (by kernel_rfl) rfl (by exact fun _ _ _ h => h) (by rfl) (by assumption) ?_
  try simp only [Act.put, List.setIfInBounds_toArray, List.set_cons_zero, List.set_cons_succ]
  refine take_runs (i := 15) (v := ?_) (by simp only [List.getElem?_toArray, List.getElem?_cons_succ, List.getElem?_cons_zero]; rfl) (by kernel_rfl) (by kernel_rfl) (by kernel_rfl) rfl (by exact fun _ _ _ h => h) (by rfl) ?_ (by assumption) ?_
  rotate_left
  · intro w hSw; (try dsimp only at hSw); go_simp; try (with_reducible rfl)
  try simp only [Act.put, List.setIfInBounds_toArray, List.set_cons_zero, List.set_cons_succ]
  refine take_runs (i := 16) (v := ?_) (by simp only [List.getElem?_toArray, List.getElem?_cons_succ, List.getElem?_cons_zero]; rfl) (by kernel_rfl) (by kernel_rfl) (by kernel_rfl) rfl (by exact fun _ _ _ h => h) (by rfl) ?_ (by assumption) ?_
  rotate_left
  · intro w hSw; (try dsimp only at hSw); go_simp; try (with_reducible rfl)
  try simp only [Act.put, List.setIfInBounds_toArray, List.set_cons_zero, List.set_cons_succ]
  refine wpAnyH_done (by kernel_rfl) ?_ _
  have b11 : Below w.heap.size w W.drew := below_drew hh
  clear hHeld
  go_wp2
  go_ret
  exact ⟨rfl, b11⟩
set_option maxHeartbeats 8000000 in
set_option maxRecDepth 100000 in
theorem isValid_count (id n a b c : Int) (w : World) (h1 : 0 ≤ id) (h2 : id ≤ 999) (h3 : ¬ n = 3) :
    Calls Tryz.prog 74 #[.agg #[.int .i64 id, .int .i64 n, .int .i64 a, .int .i64 b, .int .i64 c]] w fun e w' => e = .returned (.bool (false)) ∧ Below w.heap.size w w' := by
  have HI := Lib.hid (fun w => isRowId_yes id w h1 h2)
  clear h1 h2
  have hd : (n == 3) = false := by simpa using h3
  clear h3
  go_enter Tryz.func74, Tryz.ntmps74
  go_wp2
  have hh : Below w.heap.size w (w.alloc (.cells #[.int .i64 id, .int .i64 n, .int .i64 a, .int .i64 b, .int .i64 c] 105)) := (Below.refl _ w).alloc (Nat.le_refl _) _
  have g0 := heap_alloc_new w (.cells #[.int .i64 id, .int .i64 n, .int .i64 a, .int .i64 b, .int .i64 c] 105)
  have hlt : w.heap.size < (w.alloc (.cells #[.int .i64 id, .int .i64 n, .int .i64 a, .int .i64 b, .int .i64 c] 105)).heap.size := by simp
  generalize w.alloc (.cells #[.int .i64 id, .int .i64 n, .int .i64 a, .int .i64 b, .int .i64 c] 105) = W at *
  have q0 := cell_of_row W _ 0 _ _ _ g0
  have q1 := cell_of_row W _ 1 _ _ _ g0
  have q2 := cell_of_row W _ 2 _ _ _ g0
  have q3 := cell_of_row W _ 3 _ _ _ g0
  have q4 := cell_of_row W _ 4 _ _ _ g0
  simp at q0 q1 q2 q3 q4
  refine wp_region_held_drew (S := fun w' => w'.cell? ⟨w.heap.size, 0, none⟩ = some (.int .i64 id) ∧ w'.cell? ⟨w.heap.size, 1, none⟩ = some (.int .i64 n) ∧ w'.cell? ⟨w.heap.size, 2, none⟩ = some (.int .i64 a) ∧ w'.cell? ⟨w.heap.size, 3, none⟩ = some (.int .i64 b) ∧ w'.cell? ⟨w.heap.size, 4, none⟩ = some (.int .i64 c)) (by kernel_rfl) ⟨q0, q1, q2, q3, q4⟩ (fun hHeld => ?_)
  refine take_runs (i := 0) (v := ?_) (by simp only [List.getElem?_toArray, List.getElem?_cons_succ, List.getElem?_cons_zero]; rfl) (by kernel_rfl) (by kernel_rfl) (by kernel_rfl) rfl (by exact fun _ _ _ h => h) (by rfl) ?_ (by assumption) ?_
  rotate_left
  · intro w hSw; (try dsimp only at hSw); go_simp; try (with_reducible rfl)
  try simp only [Act.put, List.setIfInBounds_toArray, List.set_cons_zero, List.set_cons_succ]
  refine take_runs (i := 1) (v := ?_) (by simp only [List.getElem?_toArray, List.getElem?_cons_succ, List.getElem?_cons_zero]; rfl) (by kernel_rfl) (by kernel_rfl) (by kernel_rfl) rfl (by exact fun _ _ _ h => h) (by rfl) ?_ (by assumption) ?_
  rotate_left
  · intro w hSw; (try dsimp only at hSw); go_simp; try (with_reducible rfl)
  try simp only [Act.put, List.setIfInBounds_toArray, List.set_cons_zero, List.set_cons_succ]
  refine wpAnyH_ready (rs := [2]) (by kernel_rfl) (by simp) ?_
  refine AllReadyH.cons (o := _) (by simp only [List.getElem?_toArray, List.getElem?_cons_succ, List.getElem?_cons_zero]; rfl) (fun K hK => ?_) AllReadyH.nil
  go_simp
  refine (HI.out _).mono ?_
  rintro e w8 ⟨rfl, rfl⟩
  refine hK.out _ _ ⟨q0, q1, q2, q3, q4⟩ (fun hHeld => ?_)
  clear hK K
  try simp only [Act.put, List.setIfInBounds_toArray, List.set_cons_zero, List.set_cons_succ]
  refine take_runs (i := 3) (v := ?_) (by simp only [List.getElem?_toArray, List.getElem?_cons_succ, List.getElem?_cons_zero]; rfl) (by kernel_rfl) (by kernel_rfl) (by kernel_rfl) rfl (by exact fun _ _ _ h => h) (by rfl) ?_ (by assumption) ?_
  rotate_left
  · intro w hSw; (try dsimp only at hSw); go_simp; try (with_reducible rfl)
  try simp only [Act.put, List.setIfInBounds_toArray, List.set_cons_zero, List.set_cons_succ]
  refine take_runs (i := 4) (v := ?_) (by simp only [List.getElem?_toArray, List.getElem?_cons_succ, List.getElem?_cons_zero]; rfl) (by kernel_rfl) (by kernel_rfl) (by kernel_rfl) rfl (by exact fun _ _ _ h => h) (by rfl) ?_ (by assumption) ?_
  rotate_left
  · intro w hSw; (try dsimp only at hSw); go_simp; try (with_reducible rfl)
  try simp only [Act.put, List.setIfInBounds_toArray, List.set_cons_zero, List.set_cons_succ]
  refine take_runs (i := 5) (v := ?_) (by simp only [List.getElem?_toArray, List.getElem?_cons_succ, List.getElem?_cons_zero]; rfl) (by kernel_rfl) (by kernel_rfl) (by kernel_rfl) rfl (by exact fun _ _ _ h => h) (by rfl) ?_ (by assumption) ?_
  rotate_left
  · intro w hSw; (try dsimp only at hSw); go_simp; try (with_reducible rfl)
  try simp only [Act.put, List.setIfInBounds_toArray, List.set_cons_zero, List.set_cons_succ]
  refine take_runs (i := 6) (v := ?_) (by simp only [List.getElem?_toArray, List.getElem?_cons_succ, List.getElem?_cons_zero]; rfl) (by kernel_rfl) (by kernel_rfl) (by kernel_rfl) rfl (by exact fun _ _ _ h => h) (by rfl) ?_ (by assumption) ?_
  rotate_left
  · intro w hSw; (try dsimp only at hSw); go_simp; try (with_reducible rfl)
  try simp only [Act.put, List.setIfInBounds_toArray, List.set_cons_zero, List.set_cons_succ]
  refine take_runs (i := 7) (v := ?_) (by simp only [List.getElem?_toArray, List.getElem?_cons_succ, List.getElem?_cons_zero]; rfl) (by kernel_rfl) (by kernel_rfl) (by kernel_rfl) rfl (by exact fun _ _ _ h => h) (by rfl) ?_ (by assumption) ?_
  rotate_left
  · intro w hSw; (try dsimp only at hSw); go_simp; try (with_reducible rfl)
  try simp only [Act.put, List.setIfInBounds_toArray, List.set_cons_zero, List.set_cons_succ]
  refine take_runs (i := 8) (v := ?_) (by simp only [List.getElem?_toArray, List.getElem?_cons_succ, List.getElem?_cons_zero]; rfl) (by kernel_rfl) (by kernel_rfl) (by kernel_rfl) rfl (by exact fun _ _ _ h => h) (by rfl) ?_ (by assumption) ?_
  rotate_left
  · intro w hSw; (try dsimp only at hSw); go_simp; try (with_reducible rfl)
  try simp only [Act.put, List.setIfInBounds_toArray, List.set_cons_zero, List.set_cons_succ]
  refine take_over (i := 9) (by simp only [List.getElem?_toArray, List.getElem?_cons_succ, List.getElem?_cons_zero]; rfl) (by kernel_rfl) (by kernel_rfl) (by kernel_rfl) rfl (by exact fun _ _ _ h => h) (by rfl) (by assumption) ?_
  try simp only [Act.put, List.setIfInBounds_toArray, List.set_cons_zero, List.set_cons_succ]
  refine take_over (i := 10) (by simp only [List.getElem?_toArray, List.getElem?_cons_succ, List.getElem?_cons_zero]; rfl) (by kernel_rfl) (by kernel_rfl) (by kernel_rfl) rfl (by exact fun _ _ _ h => h) (by rfl) (by assumption) ?_
  try simp only [Act.put, List.setIfInBounds_toArray, List.set_cons_zero, List.set_cons_succ]
  refine take_over (i := 11) (by simp only [List.getElem?_toArray, List.getElem?_cons_succ, List.getElem?_cons_zero]; rfl) (by kernel_rfl) (by kernel_rfl) (by kernel_rfl) rfl (by exact fun _ _ _ h => h) (by rfl) (by assumption) ?_
  try simp only [Act.put, List.setIfInBounds_toArray, List.set_cons_zero, List.set_cons_succ]
  refine take_over (i := 12) (by simp only [List.getElem?_toArray, List.getElem?_cons_succ, List.getElem?_cons_zero]; rfl) (by kernel_rfl) (by kernel_rfl) (by kernel_rfl) rfl (by exact fun _ _ _ h => h) (by rfl) (by assumption) ?_
  try simp only [Act.put, List.setIfInBounds_toArray, List.set_cons_zero, List.set_cons_succ]
  refine take_over (i := 13) (by simp only [List.getElem?_toArray, List.getElem?_cons_succ, List.getElem?_cons_zero]; rfl) (by kernel_rfl) (by kernel_rfl) (by kernel_rfl) rfl (by exact fun _ _ _ h => h) (by rfl) (by assumption) ?_
  try simp only [Act.put, List.setIfInBounds_toArray, List.set_cons_zero, List.set_cons_succ]
  refine take_over (i := 14) (by simp only [List.getElem?_toArray, List.getElem?_cons_succ, List.getElem?_cons_zero]; rfl) (by kernel_rfl) (by kernel_rfl) (by kernel_rfl) rfl (by exact fun _ _ _ h => h) (by rfl) (by assumption) ?_
  try simp only [Act.put, List.setIfInBounds_toArray, List.set_cons_zero, List.set_cons_succ]
  refine take_runs (i := 15) (v := ?_) (by simp only [List.getElem?_toArray, List.getElem?_cons_succ, List.getElem?_cons_zero]; rfl) (by kernel_rfl) (by kernel_rfl) (by kernel_rfl) rfl (by exact fun _ _ _ h => h) (by rfl) ?_ (by assumption) ?_
  rotate_left
  · intro w hSw; (try dsimp only at hSw); go_simp; try (with_reducible rfl)
  try simp only [Act.put, List.setIfInBounds_toArray, List.set_cons_zero, List.set_cons_succ]
  refine take_runs (i := 16) (v := ?_) (by simp only [List.getElem?_toArray, List.getElem?_cons_succ, List.getElem?_cons_zero]; rfl) (by kernel_rfl) (by kernel_rfl) (by kernel_rfl) rfl (by exact fun _ _ _ h => h) (by rfl) ?_ (by assumption) ?_
  rotate_left
  · intro w hSw; (try dsimp only at hSw); go_simp; try (with_reducible rfl)
  try simp only [Act.put, List.setIfInBounds_toArray, List.set_cons_zero, List.set_cons_succ]
  refine wpAnyH_done (by kernel_rfl) ?_ _
  have b11 : Below w.heap.size w W.drew := below_drew hh
  clear hHeld
  go_wp2
  go_ret
  exact ⟨rfl, b11⟩
set_option maxHeartbeats 8000000 in
set_option maxRecDepth 100000 in
theorem isValid_all (id n a b c : Int) (w : World) (h1 : 0 ≤ id) (h2 : id ≤ 999) (h3 : n = 3) :
    Calls Tryz.prog 74 #[.agg #[.int .i64 id, .int .i64 n, .int .i64 a, .int .i64 b, .int .i64 c]] w fun e w' => e = .returned (.bool (a == limI a && b == limI b && c == limI c)) ∧ Below w.heap.size w w' := by
  have HI := Lib.hid (fun w => isRowId_yes id w h1 h2)
  clear h1 h2
  have hd : (n == 3) = true := by simpa using h3
  clear h3
  have HL := Lib.hid (fun w => limited_any a b c w)
  have he := fun w => eql_arr a b c (limI a) (limI b) (limI c) w
  have hgd := fun (o1 o2 : Operand) (xs ys : Array Value) (w : World) => guard_arr o1 o2 xs ys w
  generalize hr : (a == limI a && b == limI b && c == limI c) = r at he ⊢
  clear hr
  go_enter Tryz.func74, Tryz.ntmps74
  go_wp2
  have hh : Below w.heap.size w (w.alloc (.cells #[.int .i64 id, .int .i64 n, .int .i64 a, .int .i64 b, .int .i64 c] 105)) := (Below.refl _ w).alloc (Nat.le_refl _) _
  have g0 := heap_alloc_new w (.cells #[.int .i64 id, .int .i64 n, .int .i64 a, .int .i64 b, .int .i64 c] 105)
  have hlt : w.heap.size < (w.alloc (.cells #[.int .i64 id, .int .i64 n, .int .i64 a, .int .i64 b, .int .i64 c] 105)).heap.size := by simp
  generalize w.alloc (.cells #[.int .i64 id, .int .i64 n, .int .i64 a, .int .i64 b, .int .i64 c] 105) = W at *
  have q0 := cell_of_row W _ 0 _ _ _ g0
  have q1 := cell_of_row W _ 1 _ _ _ g0
  have q2 := cell_of_row W _ 2 _ _ _ g0
  have q3 := cell_of_row W _ 3 _ _ _ g0
  have q4 := cell_of_row W _ 4 _ _ _ g0
  simp at q0 q1 q2 q3 q4
  refine wp_region_held_drew (S := fun w' => w'.cell? ⟨w.heap.size, 0, none⟩ = some (.int .i64 id) ∧ w'.cell? ⟨w.heap.size, 1, none⟩ = some (.int .i64 n) ∧ w'.cell? ⟨w.heap.size, 2, none⟩ = some (.int .i64 a) ∧ w'.cell? ⟨w.heap.size, 3, none⟩ = some (.int .i64 b) ∧ w'.cell? ⟨w.heap.size, 4, none⟩ = some (.int .i64 c)) (by kernel_rfl) ⟨q0, q1, q2, q3, q4⟩ (fun hHeld => ?_)
  refine take_runs (i := 0) (v := ?_) (by simp only [List.getElem?_toArray, List.getElem?_cons_succ, List.getElem?_cons_zero]; rfl) (by kernel_rfl) (by kernel_rfl) (by kernel_rfl) rfl (by exact fun _ _ _ h => h) (by rfl) ?_ (by assumption) ?_
  rotate_left
  · intro w hSw; (try dsimp only at hSw); go_simp; try (with_reducible rfl)
  try simp only [Act.put, List.setIfInBounds_toArray, List.set_cons_zero, List.set_cons_succ]
  refine take_runs (i := 1) (v := ?_) (by simp only [List.getElem?_toArray, List.getElem?_cons_succ, List.getElem?_cons_zero]; rfl) (by kernel_rfl) (by kernel_rfl) (by kernel_rfl) rfl (by exact fun _ _ _ h => h) (by rfl) ?_ (by assumption) ?_
  rotate_left
  · intro w hSw; (try dsimp only at hSw); go_simp; try (with_reducible rfl)
  try simp only [Act.put, List.setIfInBounds_toArray, List.set_cons_zero, List.set_cons_succ]
  refine wpAnyH_ready (rs := [2]) (by kernel_rfl) (by simp) ?_
  refine AllReadyH.cons (o := _) (by simp only [List.getElem?_toArray, List.getElem?_cons_succ, List.getElem?_cons_zero]; rfl) (fun K hK => ?_) AllReadyH.nil
  go_simp
  refine (HI.out _).mono ?_
  rintro e w8 ⟨rfl, rfl⟩
  refine hK.out _ _ ⟨q0, q1, q2, q3, q4⟩ (fun hHeld => ?_)
  clear hK K
  try simp only [Act.put, List.setIfInBounds_toArray, List.set_cons_zero, List.set_cons_succ]
  refine take_runs (i := 3) (v := ?_) (by simp only [List.getElem?_toArray, List.getElem?_cons_succ, List.getElem?_cons_zero]; rfl) (by kernel_rfl) (by kernel_rfl) (by kernel_rfl) rfl (by exact fun _ _ _ h => h) (by rfl) ?_ (by assumption) ?_
  rotate_left
  · intro w hSw; (try dsimp only at hSw); go_simp; try (with_reducible rfl)
  try simp only [Act.put, List.setIfInBounds_toArray, List.set_cons_zero, List.set_cons_succ]
  refine take_runs (i := 4) (v := ?_) (by simp only [List.getElem?_toArray, List.getElem?_cons_succ, List.getElem?_cons_zero]; rfl) (by kernel_rfl) (by kernel_rfl) (by kernel_rfl) rfl (by exact fun _ _ _ h => h) (by rfl) ?_ (by assumption) ?_
  rotate_left
  · intro w hSw; (try dsimp only at hSw); go_simp; try (with_reducible rfl)
  try simp only [Act.put, List.setIfInBounds_toArray, List.set_cons_zero, List.set_cons_succ]
  refine take_runs (i := 5) (v := ?_) (by simp only [List.getElem?_toArray, List.getElem?_cons_succ, List.getElem?_cons_zero]; rfl) (by kernel_rfl) (by kernel_rfl) (by kernel_rfl) rfl (by exact fun _ _ _ h => h) (by rfl) ?_ (by assumption) ?_
  rotate_left
  · intro w hSw; (try dsimp only at hSw); go_simp; try (with_reducible rfl)
  try simp only [Act.put, List.setIfInBounds_toArray, List.set_cons_zero, List.set_cons_succ]
  refine take_runs (i := 6) (v := ?_) (by simp only [List.getElem?_toArray, List.getElem?_cons_succ, List.getElem?_cons_zero]; rfl) (by kernel_rfl) (by kernel_rfl) (by kernel_rfl) rfl (by exact fun _ _ _ h => h) (by rfl) ?_ (by assumption) ?_
  rotate_left
  · intro w hSw; (try dsimp only at hSw); go_simp; try (with_reducible rfl)
  try simp only [Act.put, List.setIfInBounds_toArray, List.set_cons_zero, List.set_cons_succ]
  refine take_runs (i := 7) (v := ?_) (by simp only [List.getElem?_toArray, List.getElem?_cons_succ, List.getElem?_cons_zero]; rfl) (by kernel_rfl) (by kernel_rfl) (by kernel_rfl) rfl (by exact fun _ _ _ h => h) (by rfl) ?_ (by assumption) ?_
  rotate_left
  · intro w hSw; (try dsimp only at hSw); go_simp; try (with_reducible rfl)
  try simp only [Act.put, List.setIfInBounds_toArray, List.set_cons_zero, List.set_cons_succ]
  refine take_runs (i := 8) (v := ?_) (by simp only [List.getElem?_toArray, List.getElem?_cons_succ, List.getElem?_cons_zero]; rfl) (by kernel_rfl) (by kernel_rfl) (by kernel_rfl) rfl (by exact fun _ _ _ h => h) (by rfl) ?_ (by assumption) ?_
  rotate_left
  · intro w hSw; (try dsimp only at hSw); go_simp; try (with_reducible rfl)
  try simp only [Act.put, List.setIfInBounds_toArray, List.set_cons_zero, List.set_cons_succ]
  refine take_runs (i := 9) (v := ?_) (by simp only [List.getElem?_toArray, List.getElem?_cons_succ, List.getElem?_cons_zero]; rfl) (by kernel_rfl) (by kernel_rfl) (by kernel_rfl) rfl (by exact fun _ _ _ h => h) (by rfl) ?_ (by assumption) ?_
  rotate_left
  · intro w hSw; (try dsimp only at hSw); go_simp; try (with_reducible rfl)
  try simp only [Act.put, List.setIfInBounds_toArray, List.set_cons_zero, List.set_cons_succ]
  refine take_runs (i := 10) (v := ?_) (by simp only [List.getElem?_toArray, List.getElem?_cons_succ, List.getElem?_cons_zero]; rfl) (by kernel_rfl) (by kernel_rfl) (by kernel_rfl) rfl (by exact fun _ _ _ h => h) (by rfl) ?_ (by assumption) ?_
  rotate_left
  · intro w hSw; (try dsimp only at hSw); go_simp; try (with_reducible rfl)
  try simp only [Act.put, List.setIfInBounds_toArray, List.set_cons_zero, List.set_cons_succ]
  refine take_runs (i := 11) (v := ?_) (by simp only [List.getElem?_toArray, List.getElem?_cons_succ, List.getElem?_cons_zero]; rfl) (by kernel_rfl) (by kernel_rfl) (by kernel_rfl) rfl (by exact fun _ _ _ h => h) (by rfl) ?_ (by assumption) ?_
  rotate_left
  · intro w hSw; (try dsimp only at hSw); go_simp; try (with_reducible rfl)
  try simp only [Act.put, List.setIfInBounds_toArray, List.set_cons_zero, List.set_cons_succ]
  refine take_runs (i := 12) (v := ?_) (by simp only [List.getElem?_toArray, List.getElem?_cons_succ, List.getElem?_cons_zero]; rfl) (by kernel_rfl) (by kernel_rfl) (by kernel_rfl) rfl (by exact fun _ _ _ h => h) (by rfl) ?_ (by assumption) ?_
  rotate_left
  · intro w hSw; (try dsimp only at hSw); go_simp; try (with_reducible rfl)
  try simp only [Act.put, List.setIfInBounds_toArray, List.set_cons_zero, List.set_cons_succ]
  refine wpAnyH_ready (rs := [13]) (by kernel_rfl) (by simp) ?_
  refine AllReadyH.cons (o := _) (by simp only [List.getElem?_toArray, List.getElem?_cons_succ, List.getElem?_cons_zero]; rfl) (fun K hK => ?_) AllReadyH.nil
  go_simp
  refine (HL.out _).mono ?_
  rintro e w9 ⟨rfl, b9⟩
  have b10 : Below W.heap.size W w9 := below_from rfl b9
  have g2 := (b10.block w.heap.size hlt).trans g0
  have r0 := cell_of_row w9 _ 0 _ _ _ g2
  have r1 := cell_of_row w9 _ 1 _ _ _ g2
  have r2 := cell_of_row w9 _ 2 _ _ _ g2
  have r3 := cell_of_row w9 _ 3 _ _ _ g2
  have r4 := cell_of_row w9 _ 4 _ _ _ g2
  simp at r0 r1 r2 r3 r4
  refine hK.out _ _ ⟨r0, r1, r2, r3, r4⟩ (fun hHeld => ?_)
  clear hK K
  try simp only [Act.put, List.setIfInBounds_toArray, List.set_cons_zero, List.set_cons_succ]
  refine take_runs (i := 14) (v := ?_) (by simp only [List.getElem?_toArray, List.getElem?_cons_succ, List.getElem?_cons_zero]; rfl) (by kernel_rfl) (by kernel_rfl) (by kernel_rfl) rfl (by exact fun _ _ _ h => h) (by rfl) ?_ (by assumption) ?_
  rotate_left
  · intro w hSw; (try dsimp only at hSw); go_simp; try (with_reducible rfl)
  try simp only [Act.put, List.setIfInBounds_toArray, List.set_cons_zero, List.set_cons_succ]
  refine take_runs (i := 15) (v := ?_) (by simp only [List.getElem?_toArray, List.getElem?_cons_succ, List.getElem?_cons_zero]; rfl) (by kernel_rfl) (by kernel_rfl) (by kernel_rfl) rfl (by exact fun _ _ _ h => h) (by rfl) ?_ (by assumption) ?_
  rotate_left
  · intro w hSw; (try dsimp only at hSw); go_simp; try (with_reducible rfl)
  try simp only [Act.put, List.setIfInBounds_toArray, List.set_cons_zero, List.set_cons_succ]
  refine take_runs (i := 16) (v := ?_) (by simp only [List.getElem?_toArray, List.getElem?_cons_succ, List.getElem?_cons_zero]; rfl) (by kernel_rfl) (by kernel_rfl) (by kernel_rfl) rfl (by exact fun _ _ _ h => h) (by rfl) ?_ (by assumption) ?_
  rotate_left
  · intro w hSw; (try dsimp only at hSw); go_simp; try (with_reducible rfl)
  try simp only [Act.put, List.setIfInBounds_toArray, List.set_cons_zero, List.set_cons_succ]
  refine wpAnyH_done (by kernel_rfl) ?_ _
  have b11 := hh.trans (b10.mono hh.size)
  clear hHeld b9 b10
  go_wp2
  go_ret
  exact ⟨rfl, b11⟩
theorem isValid_any (id n a b c : Int) (w : World) :
    Calls Tryz.prog 74 #[.agg #[.int .i64 id, .int .i64 n, .int .i64 a, .int .i64 b, .int .i64 c]] w fun e w' => e = .returned (.bool (recB id n a b c)) ∧ Below w.heap.size w w' := by
  by_cases h : 0 ≤ id ∧ id ≤ 999
  · by_cases h3 : n = 3
    · have e : recB id n a b c = (a == limI a && b == limI b && c == limI c) := by unfold recB; rw [decide_eq_true h, decide_eq_true h3]; simp
      rw [e]
      exact isValid_all id n a b c w h.1 h.2 h3
    · have e : recB id n a b c = false := by unfold recB; rw [decide_eq_false h3]; simp
      rw [e]
      exact isValid_count id n a b c w h.1 h.2 h3
  · have e : recB id n a b c = false := by unfold recB; rw [decide_eq_false h]; simp
    rw [e]
    exact isValid_id id n a b c w h
set_option maxHeartbeats 4000000 in
set_option maxRecDepth 100000 in
theorem implIsRow (id : Int) (vv : Value) (xs : List Int) (w : World) (h : Ints w vv xs) (hn : xs.length ≤ 1048576) :
    Calls Tryz.prog 43 #[.agg #[.int .i64 id, vv]] w fun e w' => e = .returned (.bool (rowB (id, xs))) ∧ Below w.heap.size w w' := by
  have HR := Lib.hid (fun w h => recordOf_any id vv xs w h hn)
  have HV := Lib.hid (fun w => isValid_any id xs.length (xs.getD 0 0) (xs.getD 1 0) (xs.getD 2 0) w)
  rw [recB_row] at HV
  have H := Lib.hid h
  unfold recV at HR
  clear h hn
  generalize xs.getD 0 0 = x0 at *
  generalize xs.getD 1 0 = x1 at *
  generalize xs.getD 2 0 = x2 at *
  generalize rowB (id, xs) = r at *
  go_enter Tryz.func43, Tryz.ntmps43
  go_wp2_with fail
  have hb : Below w.heap.size w (w.alloc (.cells #[.int .i64 id, vv] 36)) := (Below.refl _ w).alloc (Nat.le_refl _) _
  refine (HR.out _ (ints_below H.out hb)).mono ?_
  rintro e w1 ⟨rfl, b1⟩
  have b2 := hb.trans (b1.mono hb.size)
  clear hb b1
  go_wp2_with fail
  refine (HV.out _).mono ?_
  rintro e w2 ⟨rfl, b3⟩
  have b4 := b2.trans (b3.mono b2.size)
  clear b2 b3
  go_wp2
  go_ret
  exact ⟨rfl, b4⟩
end Go.Proofs.YtijfnabglblimaaGreatDoor
namespace Go.Proofs.YtijfnabglblimaaGreatDoor
open Go.RowKit
set_option linter.unusedVariables false
set_option linter.unusedSimpArgs false
set_option maxHeartbeats 2000000 in
set_option maxRecDepth 100000 in
theorem equalInts (v u : Value) (xs ys : List Int) (w : World) (h : Ints w v xs) (g : Ints w u ys) (hn : xs.length ≤ 1048576) (hm : ys.length ≤ 1048576) :
    Calls Tryz.prog 75 #[v, u] w fun e w' => e = .returned (.bool (decide (xs = ys))) ∧ Below w.heap.size w w' := by
  have H := Lib.hid h
  have G := Lib.hid g
  obtain ⟨a, cap, rfl⟩ := ints_len h
  obtain ⟨a2, cap2, rfl⟩ := ints_len g
  clear h g
  by_cases hl : xs.length = ys.length
  · have HL := Lib.hid hl
    have hne : ((xs.length : Int) != (ys.length : Int)) = false := by rw [hl]; simp
    clear hl
    go_enter Tryz.func75, Tryz.ntmps75
    go_wp2
    clear hne
    go_loopw [13] (fun i wr => ∃ k : Nat, k ≤ xs.length ∧ i = .int .i64 k ∧ Hid (∀ j, j < k → xs.getD j 0 = ys.getD j 0) ∧ Below w.heap.size w wr) (fun i _ => xs.length - (intOf i).toNat)
    case atStart => exact ⟨0, Nat.zero_le _, rfl, Lib.hid (fun j hj => by omega), Below.refl _ _⟩
    case round =>
      obtain ⟨k, hk, rfl, hall, hbel⟩ := hrel
      by_cases hlt : k < xs.length
      · obtain ⟨b, off, cap', hv, hbl, hc⟩ := ints_cell H.out (by omega)
        simp only [Value.slice.injEq] at hv
        obtain ⟨rfl, _, rfl⟩ := hv
        obtain ⟨b2, off2, cap2', hv2, hbl2, hc2⟩ := ints_cell G.out (by have := HL.out; omega)
        simp only [Value.slice.injEq] at hv2
        obtain ⟨rfl, _, rfl⟩ := hv2
        have hcell := (hbel.cell (p := ⟨b, off + k, none⟩) hbl).trans (hc k hlt)
        have hcell2 := (hbel.cell (p := ⟨b2, off2 + k, none⟩) hbl2).trans (hc2 k (by have := HL.out; omega))
        have i1 : (0 : Int) ≤ (k : Int) := by omega
        have i2 : (k : Int) < (xs.length : Int) := by omega
        have i3 : (k : Int) < (ys.length : Int) := by have := HL.out; omega
        clear hc hc2
        by_cases he : xs.getD k 0 = ys.getD k 0
        · have HA : Hid (∀ j, j < k + 1 → xs.getD j 0 = ys.getD j 0) := Lib.hid (fun j hj => by
            by_cases e : j = k
            · exact e ▸ he
            · exact hall.out j (by omega))
          rw [← he] at hcell2
          clear he hall
          generalize xs.getD k 0 = y at hcell hcell2
          go_wp2
          go_quiet (fail)
          go_wp2
          go_roundw
          case rel => exact ⟨k + 1, by omega, by go_num, HA, below_dn hbel _⟩
          case measure => simp [intOf]; omega
        · have HF := Lib.hid (decide_eq_false (list_ne_at hlt he))
          have heq : (xs.getD k 0 != ys.getD k 0) = true := by rw [bne_iff_ne]; exact he
          clear he hall
          generalize xs.getD k 0 = y at hcell heq
          generalize ys.getD k 0 = z at hcell2 heq
          go_wp2
          go_quiet (fail)
          go_wp2
          go_ret
          exact ⟨ret_b HF.out.symm, below_dn hbel _⟩
      · obtain rfl : k = xs.length := by omega
        have HT := Lib.hid (decide_eq_true (list_eq_all HL.out hall.out))
        clear hall
        go_wp2
        go_ret
        exact ⟨ret_b HT.out.symm, hbel⟩
  · have HF := Lib.hid (decide_eq_false (show ¬ xs = ys from fun e => hl (by rw [e])))
    have hne : ((xs.length : Int) != (ys.length : Int)) = true := by rw [bne_iff_ne]; omega
    clear hl
    go_enter Tryz.func75, Tryz.ntmps75
    go_wp2
    go_ret
    exact ⟨ret_b HF.out.symm, Below.refl _ _⟩
theorem ints_zero {w : World} {a : Option Addr} {n cap : Nat} (h : n = 0) : Ints w (.slice a n cap) [] := by subst h; exact Or.inl ⟨rfl, _, _, rfl⟩
theorem beyond_ints {W w : World} {b off cap : Nat} {xs : List Int} (hb : Below W.heap.size W w) (h2 : xs.length ≤ cap) (h3 : b < W.heap.size) (H : ∀ (j : Nat), j < xs.length → W.cell? ⟨b, off + j, none⟩ = some (.int .i64 (xs.getD j 0))) :
    Ints w (.slice (some ⟨b, off + (min 3 (xs.length : Int)).toNat, none⟩) (xs.length - (min 3 (xs.length : Int)).toNat) (cap - (min 3 (xs.length : Int)).toNat)) (xs.drop 3) := by
  by_cases hl : xs.length ≤ 3
  · have e : xs.drop 3 = [] := List.drop_eq_nil_of_le hl
    have e2 : xs.length - (min 3 (xs.length : Int)).toNat = 0 := by omega
    rw [e, e2]
    exact Or.inl ⟨rfl, _, _, rfl⟩
  · have e2 : (min 3 (xs.length : Int)).toNat = 3 := by omega
    rw [e2]
    refine Or.inr ⟨b, off + 3, cap - 3, by rw [List.length_drop], by rw [List.length_drop]; omega, Nat.lt_of_lt_of_le h3 hb.size, fun j hj => ?_⟩
    rw [List.length_drop] at hj
    have := (hb.cell (p := ⟨b, off + (3 + j), none⟩) h3).trans (H (3 + j) (by omega))
    rw [← Nat.add_assoc] at this
    rw [this]
    congr 2
    simp [List.getD, List.getElem?_drop]
set_option maxHeartbeats 4000000 in
set_option maxRecDepth 100000 in
theorem valuesBeyond_any (id : Int) (vv : Value) (xs : List Int) (w : World) (h : Ints w vv xs) (hn : xs.length ≤ 1048576) :
    Calls Tryz.prog 76 #[.agg #[.int .i64 id, vv]] w fun e w' => ∃ u, e = .returned u ∧ Ints w' u (xs.drop 3) ∧ Below w.heap.size w w' := by
  rcases h with ⟨rfl, a, cap, rfl⟩ | ⟨b, off, cap, rfl, h2, h3, h4⟩
  · go_enter Tryz.func76, Tryz.ntmps76
    go_wp2
    all_goals
      go_ret
      exact ⟨_, rfl, Or.inl ⟨rfl, _, _, rfl⟩, (Below.refl _ w).alloc (Nat.le_refl _) _⟩
  · have H := Lib.hid h4
    clear h4
    go_enter Tryz.func76, Tryz.ntmps76
    go_wp2
    · go_ret
      have e : xs.drop 3 = [] := List.drop_eq_nil_of_le (by omega)
      have e2 : xs.length - (min 3 (xs.length : Int)).toNat = 0 := by omega
      refine ⟨_, rfl, ?_, (Below.refl _ w).alloc (Nat.le_refl _) _⟩
      rw [e]
      exact ints_zero e2
    · go_ret
      exact ⟨_, rfl, beyond_ints ((Below.refl _ w).alloc (Nat.le_refl _) _) h2 h3 H.out, (Below.refl _ w).alloc (Nat.le_refl _) _⟩
theorem row_eq_parts (id id2 : Int) (xs ys : List Int) : decide (((id, xs) : RowD) = (id2, ys)) = ((id == id2 && (xs.length : Int) == (ys.length : Int) && (xs.getD 0 0 == ys.getD 0 0 && xs.getD 1 0 == ys.getD 1 0 && xs.getD 2 0 == ys.getD 2 0)) && decide (xs.drop 3 = ys.drop 3)) := by
  rw [Bool.eq_iff_iff]
  simp only [Bool.and_eq_true, decide_eq_true_eq, beq_iff_eq, Prod.mk.injEq]
  constructor
  · rintro ⟨rfl, rfl⟩
    exact ⟨⟨⟨rfl, rfl⟩, ⟨rfl, rfl⟩, rfl⟩, rfl⟩
  · rintro ⟨⟨⟨rfl, hl⟩, ⟨h0, h1⟩, h2⟩, h3⟩
    refine ⟨rfl, ?_⟩
    have hl' : xs.length = ys.length := by omega
    match xs, ys, hl', h0, h1, h2, h3 with
    | [], [], _, _, _, _, _ => rfl
    | [x], [y], _, h0, _, _, _ => simp at h0; rw [h0]
    | [x, x2], [y, y2], _, h0, h1, _, _ => simp at h0 h1; rw [h0, h1]
    | x :: x2 :: x3 :: r, y :: y2 :: y3 :: q, _, h0, h1, h2, h3 => simp at h0 h1 h2 h3; rw [h0, h1, h2, h3]
    | [], _ :: _, h, _, _, _, _ => simp at h
    | _ :: _, [], h, _, _, _, _ => simp at h
    | [_], _ :: _ :: _, h, _, _, _, _ => simp at h
    | _ :: _ :: _, [_], h, _, _, _, _ => simp at h
    | [_, _], _ :: _ :: _ :: _, h, _, _, _, _ => simp at h
    | _ :: _ :: _ :: _, [_, _], h, _, _, _, _ => simp at h
theorem box2 {W w : World} {g : Nat} {i j x y : Value} (g0 : W.heap[g]? = some (.cells #[i, x] 36 (0, 0))) (g1 : W.heap[g + 1]? = some (.cells #[j, y] 36 (0, 0))) (hz : g + 1 < W.heap.size) (hb : Below W.heap.size W w) :
    w.cell? ⟨g, 0, none⟩ = some i ∧ w.cell? ⟨g, 1, none⟩ = some x ∧ w.cell? ⟨g + 1, 0, none⟩ = some j ∧ w.cell? ⟨g + 1, 1, none⟩ = some y := by
  have h0 := (hb.block g (by omega)).trans g0
  have h1 := (hb.block (g + 1) hz).trans g1
  have a0 := cell_of_row w _ 0 _ _ _ h0
  have a1 := cell_of_row w _ 1 _ _ _ h0
  have a2 := cell_of_row w _ 0 _ _ _ h1
  have a3 := cell_of_row w _ 1 _ _ _ h1
  simp at a0 a1 a2 a3
  exact ⟨a0, a1, a2, a3⟩
set_option maxHeartbeats 8000000 in
set_option maxRecDepth 100000 in
theorem equalRow_any (id id2 : Int) (v u : Value) (xs ys : List Int) (w : World) (h : Ints w v xs) (g : Ints w u ys) (hn : xs.length ≤ 1048576) (hm : ys.length ≤ 1048576) :
    Calls Tryz.prog 47 #[.agg #[.int .i64 id, v], .agg #[.int .i64 id2, u]] w fun e w' => e = .returned (.bool (decide (((id, xs) : RowD) = (id2, ys)))) ∧ Below w.heap.size w w' := by
  have HP := Lib.hid (row_eq_parts id id2 xs ys)
  have HR1 := Lib.hid (fun w h => recordOf_any id v xs w h hn)
  have HR2 := Lib.hid (fun w h => recordOf_any id2 u ys w h hm)
  have HB1 := Lib.hid (fun w h => valuesBeyond_any id v xs w h hn)
  have HB2 := Lib.hid (fun w h => valuesBeyond_any id2 u ys w h hm)
  have HE := Lib.hid (fun w p q h g => equalInts p q (xs.drop 3) (ys.drop 3) w h g (by rw [List.length_drop]; omega) (by rw [List.length_drop]; omega))
  have HQ := Lib.hid (fun w => eql_rec id xs.length (xs.getD 0 0) (xs.getD 1 0) (xs.getD 2 0) id2 ys.length (ys.getD 0 0) (ys.getD 1 0) (ys.getD 2 0) w)
  have hgd := fun (o1 o2 : Operand) (xs ys : Array Value) (w : World) => guard_rec o1 o2 xs ys w
  have HV := Lib.hid h
  have HU := Lib.hid g
  unfold recV at HR1 HR2
  obtain ⟨a, cap, rfl⟩ := ints_len h
  obtain ⟨a2, cap2, rfl⟩ := ints_len g
  clear h g hn hm
  generalize xs.getD 0 0 = x0 at *
  generalize xs.getD 1 0 = x1 at *
  generalize xs.getD 2 0 = x2 at *
  generalize ys.getD 0 0 = y0 at *
  generalize ys.getD 1 0 = y1 at *
  generalize ys.getD 2 0 = y2 at *
  generalize decide (((id, xs) : RowD) = (id2, ys)) = r at *
  generalize decide (xs.drop 3 = ys.drop 3) = r2 at *
  generalize (id == id2 && (xs.length : Int) == (ys.length : Int) && (x0 == y0 && x1 == y1 && x2 == y2)) = r1 at *
  have hq := HQ.out
  clear HQ
  cases r1 with
  | false =>
    have HF : Hid (r = false) := Lib.hid (by rw [HP.out]; simp)
    clear HP
    go_enter Tryz.func47, Tryz.ntmps47
    go_wp2
    have hh : Below w.heap.size w ((w.alloc (.cells #[.int .i64 id, .slice a xs.length cap] 36)).alloc (.cells #[.int .i64 id2, .slice a2 ys.length cap2] 36)) := ((Below.refl _ w).alloc (Nat.le_refl _) _).alloc (by simp) _
    have g1 : ((w.alloc (.cells #[.int .i64 id, .slice a xs.length cap] 36)).alloc (.cells #[.int .i64 id2, .slice a2 ys.length cap2] 36)).heap[w.heap.size + 1]? = some (.cells #[.int .i64 id2, .slice a2 ys.length cap2] 36 (0, 0)) := by
      have := heap_alloc_new (w.alloc (.cells #[.int .i64 id, .slice a xs.length cap] 36)) (.cells #[.int .i64 id2, .slice a2 ys.length cap2] 36)
      simpa only [World.size_alloc] using this
    have g0 : ((w.alloc (.cells #[.int .i64 id, .slice a xs.length cap] 36)).alloc (.cells #[.int .i64 id2, .slice a2 ys.length cap2] 36)).heap[w.heap.size]? = some (.cells #[.int .i64 id, .slice a xs.length cap] 36 (0, 0)) := by
      rw [Below.heap_alloc _ _ _ (by simp)]
      exact heap_alloc_new w _
    have hz1 : w.heap.size + 1 < ((w.alloc (.cells #[.int .i64 id, .slice a xs.length cap] 36)).alloc (.cells #[.int .i64 id2, .slice a2 ys.length cap2] 36)).heap.size := by simp
    generalize ((w.alloc (.cells #[.int .i64 id, .slice a xs.length cap] 36)).alloc (.cells #[.int .i64 id2, .slice a2 ys.length cap2] 36)) = W at *
    have z1 := box2 g0 g1 hz1 (Below.refl _ W)
    refine wp_region_held_drew (S := fun w' => w'.cell? ⟨w.heap.size, 0, none⟩ = some (.int .i64 id) ∧ w'.cell? ⟨w.heap.size, 1, none⟩ = some (.slice a xs.length cap) ∧ w'.cell? ⟨w.heap.size + 1, 0, none⟩ = some (.int .i64 id2) ∧ w'.cell? ⟨w.heap.size + 1, 1, none⟩ = some (.slice a2 ys.length cap2)) (by kernel_rfl) ⟨z1.1, z1.2.1, z1.2.2.1, z1.2.2.2⟩ (fun hHeld => ?_)
    have cD : Below W.heap.size W W.drew := below_drew (Below.refl _ W)
    refine take_runs (i := 0) (v := ?_) (by simp only [List.getElem?_toArray, List.getElem?_cons_succ, List.getElem?_cons_zero]; rfl) (by kernel_rfl) (by kernel_rfl) (by kernel_rfl) rfl (by exact fun _ _ _ h => h) (by rfl) ?_ (by assumption) ?_
    rotate_left
    · intro w hSw; (try dsimp only at hSw); go_simp; try (with_reducible rfl)
    try simp only [Act.put, List.setIfInBounds_toArray, List.set_cons_zero, List.set_cons_succ]
    refine take_runs (i := 2) (v := ?_) (by simp only [List.getElem?_toArray, List.getElem?_cons_succ, List.getElem?_cons_zero]; rfl) (by kernel_rfl) (by kernel_rfl) (by kernel_rfl) rfl (by exact fun _ _ _ h => h) (by rfl) ?_ (by assumption) ?_
    rotate_left
    · intro w hSw; (try dsimp only at hSw); go_simp; try (with_reducible rfl)
    try simp only [Act.put, List.setIfInBounds_toArray, List.set_cons_zero, List.set_cons_succ]
    refine wpAnyH_ready (rs := [1]) (by kernel_rfl) (by simp) ?_
    refine AllReadyH.cons (o := _) (by simp only [List.getElem?_toArray, List.getElem?_cons_succ, List.getElem?_cons_zero]; rfl) (fun K hK => ?_) AllReadyH.nil
    go_simp
    refine (HR1.out _ (ints_below HV.out (hh.trans (cD.mono hh.size)))).mono ?_
    rintro e w1 ⟨rfl, bw1⟩
    have cw1 := cD.trans (bw1.mono cD.size)
    have z2 := box2 g0 g1 hz1 cw1
    refine hK.out _ _ ⟨z2.1, z2.2.1, z2.2.2.1, z2.2.2.2⟩ (fun hHeld => ?_)
    clear hK K
    try simp only [Act.put, List.setIfInBounds_toArray, List.set_cons_zero, List.set_cons_succ]
    refine wpAnyH_ready (rs := [3]) (by kernel_rfl) (by simp) ?_
    refine AllReadyH.cons (o := _) (by simp only [List.getElem?_toArray, List.getElem?_cons_succ, List.getElem?_cons_zero]; rfl) (fun K hK => ?_) AllReadyH.nil
    go_simp
    refine (HR2.out _ (ints_below HU.out (hh.trans (cw1.mono hh.size)))).mono ?_
    rintro e w2 ⟨rfl, bw2⟩
    have cw2 := cw1.trans (bw2.mono cw1.size)
    have z3 := box2 g0 g1 hz1 cw2
    refine hK.out _ _ ⟨z3.1, z3.2.1, z3.2.2.1, z3.2.2.2⟩ (fun hHeld => ?_)
    clear hK K
    try simp only [Act.put, List.setIfInBounds_toArray, List.set_cons_zero, List.set_cons_succ]
    refine take_runs (i := 4) (v := ?_) (by simp only [List.getElem?_toArray, List.getElem?_cons_succ, List.getElem?_cons_zero]; rfl) (by kernel_rfl) (by kernel_rfl) (by kernel_rfl) rfl (by exact fun _ _ _ h => h) (by rfl) ?_ (by assumption) ?_
    rotate_left
    · intro w hSw; (try dsimp only at hSw); go_simp; try (with_reducible rfl)
    try simp only [Act.put, List.setIfInBounds_toArray, List.set_cons_zero, List.set_cons_succ]
    refine take_runs (i := 5) (v := ?_) (by simp only [List.getElem?_toArray, List.getElem?_cons_succ, List.getElem?_cons_zero]; rfl) (by kernel_rfl) (by kernel_rfl) (by kernel_rfl) rfl (by exact fun _ _ _ h => h) (by rfl) ?_ (by assumption) ?_
    rotate_left
    · intro w hSw; (try dsimp only at hSw); go_simp; try (with_reducible rfl)
    try simp only [Act.put, List.setIfInBounds_toArray, List.set_cons_zero, List.set_cons_succ]
    refine take_over (i := 6) (by simp only [List.getElem?_toArray, List.getElem?_cons_succ, List.getElem?_cons_zero]; rfl) (by kernel_rfl) (by kernel_rfl) (by kernel_rfl) rfl (by exact fun _ _ _ h => h) (by rfl) (by assumption) ?_
    try simp only [Act.put, List.setIfInBounds_toArray, List.set_cons_zero, List.set_cons_succ]
    refine take_over (i := 7) (by simp only [List.getElem?_toArray, List.getElem?_cons_succ, List.getElem?_cons_zero]; rfl) (by kernel_rfl) (by kernel_rfl) (by kernel_rfl) rfl (by exact fun _ _ _ h => h) (by rfl) (by assumption) ?_
    try simp only [Act.put, List.setIfInBounds_toArray, List.set_cons_zero, List.set_cons_succ]
    refine take_over (i := 8) (by simp only [List.getElem?_toArray, List.getElem?_cons_succ, List.getElem?_cons_zero]; rfl) (by kernel_rfl) (by kernel_rfl) (by kernel_rfl) rfl (by exact fun _ _ _ h => h) (by rfl) (by assumption) ?_
    try simp only [Act.put, List.setIfInBounds_toArray, List.set_cons_zero, List.set_cons_succ]
    refine take_over (i := 9) (by simp only [List.getElem?_toArray, List.getElem?_cons_succ, List.getElem?_cons_zero]; rfl) (by kernel_rfl) (by kernel_rfl) (by kernel_rfl) rfl (by exact fun _ _ _ h => h) (by rfl) (by assumption) ?_
    try simp only [Act.put, List.setIfInBounds_toArray, List.set_cons_zero, List.set_cons_succ]
    refine take_over (i := 10) (by simp only [List.getElem?_toArray, List.getElem?_cons_succ, List.getElem?_cons_zero]; rfl) (by kernel_rfl) (by kernel_rfl) (by kernel_rfl) rfl (by exact fun _ _ _ h => h) (by rfl) (by assumption) ?_
    try simp only [Act.put, List.setIfInBounds_toArray, List.set_cons_zero, List.set_cons_succ]
    refine take_runs (i := 11) (v := ?_) (by simp only [List.getElem?_toArray, List.getElem?_cons_succ, List.getElem?_cons_zero]; rfl) (by kernel_rfl) (by kernel_rfl) (by kernel_rfl) rfl (by exact fun _ _ _ h => h) (by rfl) ?_ (by assumption) ?_
    rotate_left
    · intro w hSw; (try dsimp only at hSw); go_simp; try (with_reducible rfl)
    try simp only [Act.put, List.setIfInBounds_toArray, List.set_cons_zero, List.set_cons_succ]
    refine take_runs (i := 12) (v := ?_) (by simp only [List.getElem?_toArray, List.getElem?_cons_succ, List.getElem?_cons_zero]; rfl) (by kernel_rfl) (by kernel_rfl) (by kernel_rfl) rfl (by exact fun _ _ _ h => h) (by rfl) ?_ (by assumption) ?_
    rotate_left
    · intro w hSw; (try dsimp only at hSw); go_simp; try (with_reducible rfl)
    try simp only [Act.put, List.setIfInBounds_toArray, List.set_cons_zero, List.set_cons_succ]
    refine wpAnyH_done (by kernel_rfl) ?_ _
    have b11 := hh.trans (cw2.mono hh.size)
    go_wp2
    go_ret
    exact ⟨ret_b HF.out.symm, b11⟩
  | true =>
    have HF : Hid (r = r2) := Lib.hid (by rw [HP.out]; simp)
    clear HP
    go_enter Tryz.func47, Tryz.ntmps47
    go_wp2
    have hh : Below w.heap.size w ((w.alloc (.cells #[.int .i64 id, .slice a xs.length cap] 36)).alloc (.cells #[.int .i64 id2, .slice a2 ys.length cap2] 36)) := ((Below.refl _ w).alloc (Nat.le_refl _) _).alloc (by simp) _
    have g1 : ((w.alloc (.cells #[.int .i64 id, .slice a xs.length cap] 36)).alloc (.cells #[.int .i64 id2, .slice a2 ys.length cap2] 36)).heap[w.heap.size + 1]? = some (.cells #[.int .i64 id2, .slice a2 ys.length cap2] 36 (0, 0)) := by
      have := heap_alloc_new (w.alloc (.cells #[.int .i64 id, .slice a xs.length cap] 36)) (.cells #[.int .i64 id2, .slice a2 ys.length cap2] 36)
      simpa only [World.size_alloc] using this
    have g0 : ((w.alloc (.cells #[.int .i64 id, .slice a xs.length cap] 36)).alloc (.cells #[.int .i64 id2, .slice a2 ys.length cap2] 36)).heap[w.heap.size]? = some (.cells #[.int .i64 id, .slice a xs.length cap] 36 (0, 0)) := by
      rw [Below.heap_alloc _ _ _ (by simp)]
      exact heap_alloc_new w _
    have hz1 : w.heap.size + 1 < ((w.alloc (.cells #[.int .i64 id, .slice a xs.length cap] 36)).alloc (.cells #[.int .i64 id2, .slice a2 ys.length cap2] 36)).heap.size := by simp
    generalize ((w.alloc (.cells #[.int .i64 id, .slice a xs.length cap] 36)).alloc (.cells #[.int .i64 id2, .slice a2 ys.length cap2] 36)) = W at *
    have z1 := box2 g0 g1 hz1 (Below.refl _ W)
    refine wp_region_held_drew (S := fun w' => w'.cell? ⟨w.heap.size, 0, none⟩ = some (.int .i64 id) ∧ w'.cell? ⟨w.heap.size, 1, none⟩ = some (.slice a xs.length cap) ∧ w'.cell? ⟨w.heap.size + 1, 0, none⟩ = some (.int .i64 id2) ∧ w'.cell? ⟨w.heap.size + 1, 1, none⟩ = some (.slice a2 ys.length cap2)) (by kernel_rfl) ⟨z1.1, z1.2.1, z1.2.2.1, z1.2.2.2⟩ (fun hHeld => ?_)
    have cD : Below W.heap.size W W.drew := below_drew (Below.refl _ W)
    refine take_runs (i := 0) (v := ?_) (by simp only [List.getElem?_toArray, List.getElem?_cons_succ, List.getElem?_cons_zero]; rfl) (by kernel_rfl) (by kernel_rfl) (by kernel_rfl) rfl (by exact fun _ _ _ h => h) (by rfl) ?_ (by assumption) ?_
    rotate_left
    · intro w hSw; (try dsimp only at hSw); go_simp; try (with_reducible rfl)
    try simp only [Act.put, List.setIfInBounds_toArray, List.set_cons_zero, List.set_cons_succ]
    refine take_runs (i := 2) (v := ?_) (by simp only [List.getElem?_toArray, List.getElem?_cons_succ, List.getElem?_cons_zero]; rfl) (by kernel_rfl) (by kernel_rfl) (by kernel_rfl) rfl (by exact fun _ _ _ h => h) (by rfl) ?_ (by assumption) ?_
    rotate_left
    · intro w hSw; (try dsimp only at hSw); go_simp; try (with_reducible rfl)
    try simp only [Act.put, List.setIfInBounds_toArray, List.set_cons_zero, List.set_cons_succ]
    refine wpAnyH_ready (rs := [1]) (by kernel_rfl) (by simp) ?_
    refine AllReadyH.cons (o := _) (by simp only [List.getElem?_toArray, List.getElem?_cons_succ, List.getElem?_cons_zero]; rfl) (fun K hK => ?_) AllReadyH.nil
    go_simp
    refine (HR1.out _ (ints_below HV.out (hh.trans (cD.mono hh.size)))).mono ?_
    rintro e w1 ⟨rfl, bw1⟩
    have cw1 := cD.trans (bw1.mono cD.size)
    have z2 := box2 g0 g1 hz1 cw1
    refine hK.out _ _ ⟨z2.1, z2.2.1, z2.2.2.1, z2.2.2.2⟩ (fun hHeld => ?_)
    clear hK K
    try simp only [Act.put, List.setIfInBounds_toArray, List.set_cons_zero, List.set_cons_succ]
    refine wpAnyH_ready (rs := [3]) (by kernel_rfl) (by simp) ?_
    refine AllReadyH.cons (o := _) (by simp only [List.getElem?_toArray, List.getElem?_cons_succ, List.getElem?_cons_zero]; rfl) (fun K hK => ?_) AllReadyH.nil
    go_simp
    refine (HR2.out _ (ints_below HU.out (hh.trans (cw1.mono hh.size)))).mono ?_
    rintro e w2 ⟨rfl, bw2⟩
    have cw2 := cw1.trans (bw2.mono cw1.size)
    have z3 := box2 g0 g1 hz1 cw2
    refine hK.out _ _ ⟨z3.1, z3.2.1, z3.2.2.1, z3.2.2.2⟩ (fun hHeld => ?_)
    clear hK K
    try simp only [Act.put, List.setIfInBounds_toArray, List.set_cons_zero, List.set_cons_succ]
    refine take_runs (i := 4) (v := ?_) (by simp only [List.getElem?_toArray, List.getElem?_cons_succ, List.getElem?_cons_zero]; rfl) (by kernel_rfl) (by kernel_rfl) (by kernel_rfl) rfl (by exact fun _ _ _ h => h) (by rfl) ?_ (by assumption) ?_
    rotate_left
    · intro w hSw; (try dsimp only at hSw); go_simp; try (with_reducible rfl)
    try simp only [Act.put, List.setIfInBounds_toArray, List.set_cons_zero, List.set_cons_succ]
    refine take_runs (i := 5) (v := ?_) (by simp only [List.getElem?_toArray, List.getElem?_cons_succ, List.getElem?_cons_zero]; rfl) (by kernel_rfl) (by kernel_rfl) (by kernel_rfl) rfl (by exact fun _ _ _ h => h) (by rfl) ?_ (by assumption) ?_
    rotate_left
    · intro w hSw; (try dsimp only at hSw); go_simp; try (with_reducible rfl)
    try simp only [Act.put, List.setIfInBounds_toArray, List.set_cons_zero, List.set_cons_succ]
    refine take_runs (i := 6) (v := ?_) (by simp only [List.getElem?_toArray, List.getElem?_cons_succ, List.getElem?_cons_zero]; rfl) (by kernel_rfl) (by kernel_rfl) (by kernel_rfl) rfl (by exact fun _ _ _ h => h) (by rfl) ?_ (by assumption) ?_
    rotate_left
    · intro w hSw; (try dsimp only at hSw); go_simp; try (with_reducible rfl)
    try simp only [Act.put, List.setIfInBounds_toArray, List.set_cons_zero, List.set_cons_succ]
    refine take_runs (i := 8) (v := ?_) (by simp only [List.getElem?_toArray, List.getElem?_cons_succ, List.getElem?_cons_zero]; rfl) (by kernel_rfl) (by kernel_rfl) (by kernel_rfl) rfl (by exact fun _ _ _ h => h) (by rfl) ?_ (by assumption) ?_
    rotate_left
    · intro w hSw; (try dsimp only at hSw); go_simp; try (with_reducible rfl)
    try simp only [Act.put, List.setIfInBounds_toArray, List.set_cons_zero, List.set_cons_succ]
    refine wpAnyH_ready (rs := [7]) (by kernel_rfl) (by simp) ?_
    refine AllReadyH.cons (o := _) (by simp only [List.getElem?_toArray, List.getElem?_cons_succ, List.getElem?_cons_zero]; rfl) (fun K hK => ?_) AllReadyH.nil
    go_simp
    refine (HB1.out _ (ints_below HV.out (hh.trans (cw2.mono hh.size)))).mono ?_
    rintro e w3 ⟨xw3, rfl, iw3, bw3⟩
    have cw3 := cw2.trans (bw3.mono cw2.size)
    have z4 := box2 g0 g1 hz1 cw3
    refine hK.out _ _ ⟨z4.1, z4.2.1, z4.2.2.1, z4.2.2.2⟩ (fun hHeld => ?_)
    clear hK K
    try simp only [Act.put, List.setIfInBounds_toArray, List.set_cons_zero, List.set_cons_succ]
    refine wpAnyH_ready (rs := [9]) (by kernel_rfl) (by simp) ?_
    refine AllReadyH.cons (o := _) (by simp only [List.getElem?_toArray, List.getElem?_cons_succ, List.getElem?_cons_zero]; rfl) (fun K hK => ?_) AllReadyH.nil
    go_simp
    refine (HB2.out _ (ints_below HU.out (hh.trans (cw3.mono hh.size)))).mono ?_
    rintro e w4 ⟨xw4, rfl, iw4, bw4⟩
    have cw4 := cw3.trans (bw4.mono cw3.size)
    have z5 := box2 g0 g1 hz1 cw4
    refine hK.out _ _ ⟨z5.1, z5.2.1, z5.2.2.1, z5.2.2.2⟩ (fun hHeld => ?_)
    clear hK K
    try simp only [Act.put, List.setIfInBounds_toArray, List.set_cons_zero, List.set_cons_succ]
    refine wpAnyH_ready (rs := [10]) (by kernel_rfl) (by simp) ?_
    refine AllReadyH.cons (o := _) (by simp only [List.getElem?_toArray, List.getElem?_cons_succ, List.getElem?_cons_zero]; rfl) (fun K hK => ?_) AllReadyH.nil
    go_simp
    refine (HE.out _ xw3 xw4 (ints_below iw3 bw4) iw4).mono ?_
    rintro e w5 ⟨rfl, bw5⟩
    have cw5 := cw4.trans (bw5.mono cw4.size)
    have z6 := box2 g0 g1 hz1 cw5
    refine hK.out _ _ ⟨z6.1, z6.2.1, z6.2.2.1, z6.2.2.2⟩ (fun hHeld => ?_)
    clear hK K
    try simp only [Act.put, List.setIfInBounds_toArray, List.set_cons_zero, List.set_cons_succ]
    refine take_runs (i := 11) (v := ?_) (by simp only [List.getElem?_toArray, List.getElem?_cons_succ, List.getElem?_cons_zero]; rfl) (by kernel_rfl) (by kernel_rfl) (by kernel_rfl) rfl (by exact fun _ _ _ h => h) (by rfl) ?_ (by assumption) ?_
    rotate_left
    · intro w hSw; (try dsimp only at hSw); go_simp; try (with_reducible rfl)
    try simp only [Act.put, List.setIfInBounds_toArray, List.set_cons_zero, List.set_cons_succ]
    refine take_runs (i := 12) (v := ?_) (by simp only [List.getElem?_toArray, List.getElem?_cons_succ, List.getElem?_cons_zero]; rfl) (by kernel_rfl) (by kernel_rfl) (by kernel_rfl) rfl (by exact fun _ _ _ h => h) (by rfl) ?_ (by assumption) ?_
    rotate_left
    · intro w hSw; (try dsimp only at hSw); go_simp; try (with_reducible rfl)
    try simp only [Act.put, List.setIfInBounds_toArray, List.set_cons_zero, List.set_cons_succ]
    refine wpAnyH_done (by kernel_rfl) ?_ _
    have b11 := hh.trans (cw5.mono hh.size)
    go_wp2
    go_ret
    exact ⟨ret_b HF.out.symm, b11⟩
end Go.Proofs.YtijfnabglblimaaGreatDoor
namespace Go.Proofs.YtijfnabglblimaaGreatDoor
open Go.RowKit
set_option linter.unusedVariables false
set_option linter.unusedSimpArgs false
set_option maxHeartbeats 4000000 in
set_option maxRecDepth 100000 in
theorem cmpOr_any (b : Nat) (x y : Int) (w : World) (h0 : w.cell? ⟨b, 0, none⟩ = some (.int .i64 x)) (h1 : w.cell? ⟨b, 1, none⟩ = some (.int .i64 y)) :
    Calls Tryz.prog 81 #[.slice (some ⟨b, 0, none⟩) 2 2] w fun e w' => e = .returned (.int .i64 (if x = 0 then y else x)) ∧ w' = w := by
  by_cases hx : x = 0
  · subst hx
    rw [if_pos rfl]
    by_cases hy : y = 0
    · subst hy
      go_enter Tryz.func81, Tryz.ntmps81
      go_wp2
      refine wp_loop_rounds 3 ?_
      rw [rounds_succ]
      go_wp2
      rw [rounds_succ]
      go_wp2
      rw [rounds_succ]
      go_wp2
      go_ret
      exact ⟨rfl, rfl⟩
    · have hd : (y != 0) = true := by simpa using hy
      go_enter Tryz.func81, Tryz.ntmps81
      go_wp2
      refine wp_loop_rounds 3 ?_
      rw [rounds_succ]
      go_wp2
      rw [rounds_succ]
      go_wp2
      go_ret
      exact ⟨rfl, rfl⟩
  · rw [if_neg hx]
    have hd : (x != 0) = true := by simpa using hx
    go_enter Tryz.func81, Tryz.ntmps81
    go_wp2
    refine wp_loop_rounds 3 ?_
    rw [rounds_succ]
    go_wp2
    go_ret
    exact ⟨rfl, rfl⟩
theorem ret_ii {a b : Int} (h : a = b) : Ending.returned (.int .i64 a) = .returned (.int .i64 b) := by rw [h]
set_option maxHeartbeats 8000000 in
set_option maxRecDepth 100000 in
theorem compareInts_any (v u : Value) (xs ys : List Int) (w : World) (h : Ints w v xs) (g : Ints w u ys) (hn : xs.length ≤ 1048576) (hm : ys.length ≤ 1048576) :
    Calls Tryz.prog 83 #[v, u] w fun e w' => e = .returned (.int .i64 (cmpL xs ys)) ∧ w' = w := by
  have H := Lib.hid h
  have G := Lib.hid g
  obtain ⟨a, cap, rfl⟩ := ints_len h
  obtain ⟨a2, cap2, rfl⟩ := ints_len g
  clear h g
  have HC := Lib.hid (fun x y w => Tryz.cmp_Compare_int x y w)
  go_enter Tryz.func83, Tryz.ntmps83
  go_wp2
  go_loopw [11] (fun i wr => ∃ k : Nat, k ≤ xs.length ∧ k ≤ ys.length ∧ i = .int .i64 k ∧ Hid (cmpL (xs.drop k) (ys.drop k) = cmpL xs ys) ∧ wr = w) (fun i _ => xs.length - (intOf i).toNat)
  case atStart => exact ⟨0, Nat.zero_le _, Nat.zero_le _, rfl, Lib.hid (by simp), rfl⟩
  case round =>
    obtain ⟨k, hk, hk2, rfl, hall, rfl⟩ := hrel
    by_cases hlt : k < xs.length
    · by_cases hlt2 : k < ys.length
      · obtain ⟨b, off, cap', hv, hbl, hc⟩ := ints_cell H.out (by omega)
        obtain ⟨b2, off2, cap2', hv2, hbl2, hc2⟩ := ints_cell G.out (by omega)
        simp only [Value.slice.injEq] at hv hv2
        obtain ⟨rfl, _, rfl⟩ := hv
        obtain ⟨rfl, _, rfl⟩ := hv2
        have hcell := hc k hlt
        have hcell2 := hc2 k hlt2
        have i1 : (0 : Int) ≤ (k : Int) := by omega
        have i2 : (k : Int) < (xs.length : Int) := by omega
        have i3 : (k : Int) < (ys.length : Int) := by omega
        have i4 : ¬ (ys.length : Int) ≤ (k : Int) := by omega
        clear hc hc2
        by_cases he : Lib.compareInt (xs.getD k 0) (ys.getD k 0) = 0
        · have HA : Hid (cmpL (xs.drop (k + 1)) (ys.drop (k + 1)) = cmpL xs ys) := Lib.hid ((cmpL_step hlt hlt2 he).symm.trans hall.out)
          have HCC := Lib.hid (HC.out (xs.getD k 0) (ys.getD k 0))
          rw [he] at HCC
          clear he hall HC
          generalize xs.getD k 0 = y at *
          generalize ys.getD k 0 = z at *
          go_wp2_with fail
          refine (HCC.out _).mono ?_
          rintro e w8 ⟨rfl, rfl⟩
          go_wp2
          go_roundw
          case rel => exact ⟨k + 1, by omega, by omega, by go_num, HA, by simp⟩
          case measure => simp [intOf]; omega
        · have HF := Lib.hid ((cmpL_ne hlt hlt2 he).symm.trans hall.out)
          have HCC := Lib.hid (HC.out (xs.getD k 0) (ys.getD k 0))
          generalize Lib.compareInt (xs.getD k 0) (ys.getD k 0) = r at *
          have hd : (r != 0) = true := by simpa using he
          clear he hall HC
          generalize xs.getD k 0 = y at *
          generalize ys.getD k 0 = z at *
          go_wp2_with fail
          refine (HCC.out _).mono ?_
          rintro e w8 ⟨rfl, rfl⟩
          go_wp2
          go_ret
          exact ⟨ret_ii HF.out, rfl⟩
      · obtain rfl : k = ys.length := by omega
        obtain ⟨b, off, cap', hv, hbl, hc⟩ := ints_cell H.out (by omega)
        simp only [Value.slice.injEq] at hv
        obtain ⟨rfl, _, rfl⟩ := hv
        have hcell := hc ys.length hlt
        have i2 : (ys.length : Int) < (xs.length : Int) := by omega
        have HF := Lib.hid ((cmpL_long hlt).symm.trans hall.out)
        clear hc hall
        generalize xs.getD ys.length 0 = y at *
        go_wp2
        go_ret
        exact ⟨ret_ii HF.out, rfl⟩
    · obtain rfl : k = xs.length := by omega
      have HF := Lib.hid ((cmpL_end hk2).symm.trans hall.out)
      clear hall
      by_cases hl : xs.length < ys.length
      · rw [if_pos hl] at HF
        have i2 : (xs.length : Int) < (ys.length : Int) := by omega
        go_wp2
        go_ret
        exact ⟨ret_ii HF.out, rfl⟩
      · rw [if_neg hl] at HF
        have i2 : ¬ (xs.length : Int) < (ys.length : Int) := by omega
        go_wp2
        go_ret
        exact ⟨ret_ii HF.out, rfl⟩
set_option maxHeartbeats 8000000 in
set_option maxRecDepth 100000 in
theorem compareRows_any (id id2 : Int) (v u : Value) (xs ys : List Int) (w : World) (h : Ints w v xs) (g : Ints w u ys) (hn : xs.length ≤ 1048576) (hm : ys.length ≤ 1048576) :
    Calls Tryz.prog 50 #[.agg #[.int .i64 id, v], .agg #[.int .i64 id2, u]] w fun e w' => e = .returned (.int .i64 (cmpR (id, xs) (id2, ys))) ∧ ∃ q os, w' = Sort.grow (w.drewN q) os := by
  have H1 := Lib.hid (fun w => Tryz.cmp_Compare_int id id2 w)
  have H2 := Lib.hid (fun w h g => compareInts_any v u xs ys w h g hn hm)
  have HV := Lib.hid h
  have HU := Lib.hid g
  have HP : Hid (cmpR (id, xs) (id2, ys) = if Lib.compareInt id id2 = 0 then cmpL xs ys else Lib.compareInt id id2) := Lib.hid rfl
  obtain ⟨a, cap, rfl⟩ := ints_len h
  obtain ⟨a2, cap2, rfl⟩ := ints_len g
  clear h g hn hm
  generalize Lib.compareInt id id2 = c1 at *
  generalize cmpL xs ys = c2 at *
  generalize cmpR (id, xs) (id2, ys) = c3 at *
  have HO := Lib.hid (fun b w h0 h1 => cmpOr_any b c1 c2 w h0 h1)
  go_enter Tryz.func50, Tryz.ntmps50
  go_wp2
  have hh : Below w.heap.size w ((w.alloc (.cells #[.int .i64 id, .slice a xs.length cap] 36)).alloc (.cells #[.int .i64 id2, .slice a2 ys.length cap2] 36)) := ((Below.refl _ w).alloc (Nat.le_refl _) _).alloc (by simp) _
  have g1 : ((w.alloc (.cells #[.int .i64 id, .slice a xs.length cap] 36)).alloc (.cells #[.int .i64 id2, .slice a2 ys.length cap2] 36)).heap[w.heap.size + 1]? = some (.cells #[.int .i64 id2, .slice a2 ys.length cap2] 36 (0, 0)) := by
    have := heap_alloc_new (w.alloc (.cells #[.int .i64 id, .slice a xs.length cap] 36)) (.cells #[.int .i64 id2, .slice a2 ys.length cap2] 36)
    simpa only [World.size_alloc] using this
  have g0 : ((w.alloc (.cells #[.int .i64 id, .slice a xs.length cap] 36)).alloc (.cells #[.int .i64 id2, .slice a2 ys.length cap2] 36)).heap[w.heap.size]? = some (.cells #[.int .i64 id, .slice a xs.length cap] 36 (0, 0)) := by
    rw [Below.heap_alloc _ _ _ (by simp)]
    exact heap_alloc_new w _
  have hz1 : w.heap.size + 1 < ((w.alloc (.cells #[.int .i64 id, .slice a xs.length cap] 36)).alloc (.cells #[.int .i64 id2, .slice a2 ys.length cap2] 36)).heap.size := by simp
  have hg : Hid (((w.alloc (.cells #[.int .i64 id, .slice a xs.length cap] 36)).alloc (.cells #[.int .i64 id2, .slice a2 ys.length cap2] 36)) = Sort.grow w #[(.cells #[.int .i64 id, .slice a xs.length cap] 36), (.cells #[.int .i64 id2, .slice a2 ys.length cap2] 36)]) := Lib.hid (by rw [Sort.alloc_eq_grow, Sort.alloc_eq_grow, Sort.grow_grow]; rfl)
  generalize ((w.alloc (.cells #[.int .i64 id, .slice a xs.length cap] 36)).alloc (.cells #[.int .i64 id2, .slice a2 ys.length cap2] 36)) = W at *
  have z1 := box2 g0 g1 hz1 (Below.refl _ W)
  refine wp_region_held_drew (S := fun w' => w'.cell? ⟨w.heap.size, 0, none⟩ = some (.int .i64 id) ∧ w'.cell? ⟨w.heap.size, 1, none⟩ = some (.slice a xs.length cap) ∧ w'.cell? ⟨w.heap.size + 1, 0, none⟩ = some (.int .i64 id2) ∧ w'.cell? ⟨w.heap.size + 1, 1, none⟩ = some (.slice a2 ys.length cap2)) (by kernel_rfl) ⟨z1.1, z1.2.1, z1.2.2.1, z1.2.2.2⟩ (fun hHeld => ?_)
  refine take_runs (i := 0) (v := ?_) (by simp only [List.getElem?_toArray, List.getElem?_cons_succ, List.getElem?_cons_zero]; rfl) (by kernel_rfl) (by kernel_rfl) (by kernel_rfl) rfl (by exact fun _ _ _ h => h) (by rfl) ?_ (by assumption) ?_
  rotate_left
  · intro w hSw; (try dsimp only at hSw); go_simp; try (with_reducible rfl)
  try simp only [Act.put, List.setIfInBounds_toArray, List.set_cons_zero, List.set_cons_succ]
  refine take_runs (i := 1) (v := ?_) (by simp only [List.getElem?_toArray, List.getElem?_cons_succ, List.getElem?_cons_zero]; rfl) (by kernel_rfl) (by kernel_rfl) (by kernel_rfl) rfl (by exact fun _ _ _ h => h) (by rfl) ?_ (by assumption) ?_
  rotate_left
  · intro w hSw; (try dsimp only at hSw); go_simp; try (with_reducible rfl)
  try simp only [Act.put, List.setIfInBounds_toArray, List.set_cons_zero, List.set_cons_succ]
  refine take_runs (i := 2) (v := ?_) (by simp only [List.getElem?_toArray, List.getElem?_cons_succ, List.getElem?_cons_zero]; rfl) (by kernel_rfl) (by kernel_rfl) (by kernel_rfl) rfl (by exact fun _ _ _ h => h) (by rfl) ?_ (by assumption) ?_
  rotate_left
  · intro w hSw; (try dsimp only at hSw); go_simp; try (with_reducible rfl)
  try simp only [Act.put, List.setIfInBounds_toArray, List.set_cons_zero, List.set_cons_succ]
  refine take_runs (i := 3) (v := ?_) (by simp only [List.getElem?_toArray, List.getElem?_cons_succ, List.getElem?_cons_zero]; rfl) (by kernel_rfl) (by kernel_rfl) (by kernel_rfl) rfl (by exact fun _ _ _ h => h) (by rfl) ?_ (by assumption) ?_
  rotate_left
  · intro w hSw; (try dsimp only at hSw); go_simp; try (with_reducible rfl)
  try simp only [Act.put, List.setIfInBounds_toArray, List.set_cons_zero, List.set_cons_succ]
  refine take_runs (i := 5) (v := ?_) (by simp only [List.getElem?_toArray, List.getElem?_cons_succ, List.getElem?_cons_zero]; rfl) (by kernel_rfl) (by kernel_rfl) (by kernel_rfl) rfl (by exact fun _ _ _ h => h) (by rfl) ?_ (by assumption) ?_
  rotate_left
  · intro w hSw; (try dsimp only at hSw); go_simp; try (with_reducible rfl)
  try simp only [Act.put, List.setIfInBounds_toArray, List.set_cons_zero, List.set_cons_succ]
  refine take_runs (i := 6) (v := ?_) (by simp only [List.getElem?_toArray, List.getElem?_cons_succ, List.getElem?_cons_zero]; rfl) (by kernel_rfl) (by kernel_rfl) (by kernel_rfl) rfl (by exact fun _ _ _ h => h) (by rfl) ?_ (by assumption) ?_
  rotate_left
  · intro w hSw; (try dsimp only at hSw); go_simp; try (with_reducible rfl)
  try simp only [Act.put, List.setIfInBounds_toArray, List.set_cons_zero, List.set_cons_succ]
  refine take_runs (i := 7) (v := ?_) (by simp only [List.getElem?_toArray, List.getElem?_cons_succ, List.getElem?_cons_zero]; rfl) (by kernel_rfl) (by kernel_rfl) (by kernel_rfl) rfl (by exact fun _ _ _ h => h) (by rfl) ?_ (by assumption) ?_
  rotate_left
  · intro w hSw; (try dsimp only at hSw); go_simp; try (with_reducible rfl)
  try simp only [Act.put, List.setIfInBounds_toArray, List.set_cons_zero, List.set_cons_succ]
  refine take_runs (i := 8) (v := ?_) (by simp only [List.getElem?_toArray, List.getElem?_cons_succ, List.getElem?_cons_zero]; rfl) (by kernel_rfl) (by kernel_rfl) (by kernel_rfl) rfl (by exact fun _ _ _ h => h) (by rfl) ?_ (by assumption) ?_
  rotate_left
  · intro w hSw; (try dsimp only at hSw); go_simp; try (with_reducible rfl)
  try simp only [Act.put, List.setIfInBounds_toArray, List.set_cons_zero, List.set_cons_succ]
  refine wpAnyH_ready (rs := [4]) (by kernel_rfl) (by simp) ?_
  refine AllReadyH.cons (o := _) (by simp only [List.getElem?_toArray, List.getElem?_cons_succ, List.getElem?_cons_zero]; rfl) (fun K hK => ?_) AllReadyH.nil
  go_simp
  refine (H1.out _).mono ?_
  rintro e w8 ⟨rfl, rfl⟩
  refine hK.out _ _ ⟨z1.1, z1.2.1, z1.2.2.1, z1.2.2.2⟩ (fun hHeld => ?_)
  clear hK K
  try simp only [Act.put, List.setIfInBounds_toArray, List.set_cons_zero, List.set_cons_succ]
  refine wpAnyH_ready (rs := [9]) (by kernel_rfl) (by simp) ?_
  refine AllReadyH.cons (o := _) (by simp only [List.getElem?_toArray, List.getElem?_cons_succ, List.getElem?_cons_zero]; rfl) (fun K hK => ?_) AllReadyH.nil
  go_simp
  refine (H2.out _ (ints_below HV.out (below_drew hh)) (ints_below HU.out (below_drew hh))).mono ?_
  rintro e w8 ⟨rfl, rfl⟩
  refine hK.out _ _ ⟨z1.1, z1.2.1, z1.2.2.1, z1.2.2.2⟩ (fun hHeld => ?_)
  clear hK K
  try simp only [Act.put, List.setIfInBounds_toArray, List.set_cons_zero, List.set_cons_succ]
  refine wpAnyH_ready (rs := [10]) (by kernel_rfl) (by simp) ?_
  refine AllReadyH.cons (o := _) (by simp only [List.getElem?_toArray, List.getElem?_cons_succ, List.getElem?_cons_zero]; rfl) (fun K hK => ?_) AllReadyH.nil
  go_simp
  have hA : Below W.heap.size W (W.alloc (.cells #[.int .i64 c1, .int .i64 c2] 3)).drew := below_drew ((Below.refl _ W).alloc (Nat.le_refl _) _)
  have q0 : (W.alloc (.cells #[.int .i64 c1, .int .i64 c2] 3)).drew.cell? ⟨W.heap.size, 0, none⟩ = some (.int .i64 c1) := cell_lit W _ _ 0
  have q1 : (W.alloc (.cells #[.int .i64 c1, .int .i64 c2] 3)).drew.cell? ⟨W.heap.size, 1, none⟩ = some (.int .i64 c2) := cell_lit W _ _ 1
  have hg2 : Hid (∃ q os, (W.alloc (.cells #[.int .i64 c1, .int .i64 c2] 3)).drew = Sort.grow (w.drewN q) os) := Lib.hid ⟨1, _, by rw [hg.out, Sort.alloc_eq_grow, Sort.grow_grow, Sort.drew_grow]; rfl⟩
  generalize (W.alloc (.cells #[.int .i64 c1, .int .i64 c2] 3)).drew = W2 at *
  have z2 := box2 g0 g1 hz1 hA
  refine hK.out _ _ ⟨z2.1, z2.2.1, z2.2.2.1, z2.2.2.2⟩ (fun hHeld2 => ?_)
  clear hK K hHeld
  try simp only [Act.put, List.setIfInBounds_toArray, List.set_cons_zero, List.set_cons_succ]
  refine wpAnyH_ready (rs := [11]) (by kernel_rfl) (by simp) ?_
  refine AllReadyH.cons (o := _) (by simp only [List.getElem?_toArray, List.getElem?_cons_succ, List.getElem?_cons_zero]; rfl) (fun K hK => ?_) AllReadyH.nil
  go_simp
  refine (HO.out _ _ q0 q1).mono ?_
  rintro e w8 ⟨rfl, rfl⟩
  refine hK.out _ _ ⟨z2.1, z2.2.1, z2.2.2.1, z2.2.2.2⟩ (fun hHeld => ?_)
  clear hK K
  try simp only [Act.put, List.setIfInBounds_toArray, List.set_cons_zero, List.set_cons_succ]
  refine take_runs (i := 12) (v := ?_) (by simp only [List.getElem?_toArray, List.getElem?_cons_succ, List.getElem?_cons_zero]; rfl) (by kernel_rfl) (by kernel_rfl) (by kernel_rfl) rfl (by exact fun _ _ _ h => h) (by rfl) ?_ (by assumption) ?_
  rotate_left
  · intro w hSw; (try dsimp only at hSw); go_simp; try (with_reducible rfl)
  try simp only [Act.put, List.setIfInBounds_toArray, List.set_cons_zero, List.set_cons_succ]
  refine wpAnyH_done (by kernel_rfl) ?_ _
  clear q0 q1
  rw [← HP.out]
  go_wp2
  go_ret
  exact ⟨rfl, hg2.out⟩
end Go.Proofs.YtijfnabglblimaaGreatDoor
namespace Go.Proofs.YtijfnabglblimaaGreatDoor
open Go.RowKit
set_option linter.unusedVariables false
end Go.Proofs.YtijfnabglblimaaGreatDoor
namespace Go.Proofs.YtijfnabglblimaaGreatDoor
open Go.RowKit
set_option linter.unusedVariables false
end Go.Proofs.YtijfnabglblimaaGreatDoor
namespace Go.Proofs.YtijfnabglblimaaGreatDoor
open Go.RowKit
/-- Numbers in new memory are answered. -/
def FreshInts (w : World) (xs : List Int) (e : Ending) (w' : World) : Prop := ∃ v, e = .returned v ∧ OwnsN w' w.heap.size v xs ∧ Below w.heap.size w w'
end Go.Proofs.YtijfnabglblimaaGreatDoor
namespace Go.Proofs.YtijfnabglblimaaGreatDoor
open Go.RowKit
set_option linter.unusedVariables false
set_option linter.unusedSimpArgs false
theorem wpl_app_ints {w : World} {ops : Array Oper} {rest : List Oper} {o : Oper} {a : Act} {Q : Exit → Act → World → Prop} (hgd : o.guard = none) (s x : Operand)
    (ho : o.op = .call { callee := .builtin .append, args := #[s, x], argTypes := #[25, 25] })
    (B : Nat) (v u : Value) (xs ys : List Int) (hs : a.eval s = v) (hx : a.eval x = u) (hown : OwnsN w B v xs) (hu : Ints w u ys) (hB : B ≤ w.heap.size) (h63 : xs.length + ys.length ≤ 17592186044416)
    (h : ∀ v' w', OwnsN w' B v' (xs ++ ys) → Below B w w' → wpList Tryz.prog ops Q rest (a.put o.dst v') w') : wpList Tryz.prog ops Q (o :: rest) a w := by
  refine wpList_plain hgd fun K hK => ?_
  obtain ⟨v', w', hr, h2, h3⟩ := run_append_ints o.type hown hu hB h63
  unfold Oper.wp
  simp [execOp, ho, resolve, invoke, builtin, hs, hx, hr, Result.andThen]
  exact hK _ _ (h v' w' h2 h3)
end Go.Proofs.YtijfnabglblimaaGreatDoor
namespace Go.Proofs.YtijfnabglblimaaGreatDoor
open Go.RowKit
set_option linter.unusedVariables false
set_option linter.unusedSimpArgs false
set_option maxHeartbeats 2000000 in
set_option maxRecDepth 100000 in
theorem copyInts_any (v : Value) (xs : List Int) (w : World) (h : Ints w v xs) (hn : xs.length ≤ 1048576) :
    Calls Tryz.prog 100 #[v] w (FreshInts w xs) := by
  have H := Lib.hid h
  have HN := Lib.hid hn
  obtain ⟨a, cap, rfl⟩ := ints_len h
  clear h hn
  go_enter Tryz.func100, Tryz.ntmps100
  go_wp2_with (at_builtin; refine wpl_app_ints rfl _ (.tmp 3) rfl w.heap.size _ _ [] xs rfl rfl (ownsN_nil _ _) H.out (Nat.le_refl _) (by have := HN.out; simp; omega) ?_)
  intro u w4 oB bB
  obtain ⟨pa, pc, rfl⟩ := ints_len (ownsN_ints oB)
  go_wp2
  go_ret
  exact ⟨_, rfl, oB, bB⟩
end Go.Proofs.YtijfnabglblimaaGreatDoor
namespace Go.Proofs.YtijfnabglblimaaGreatDoor
open Go.RowKit
set_option linter.unusedVariables false
set_option linter.unusedSimpArgs false
/-- 'append(out, xs...)' of the numbers of a slice that came from anywhere. -/
theorem wpl_append_ints {w : World} {ops : Array Oper} {rest : List Oper} {o : Oper} {a : Act} {Q : Exit → Act → World → Prop} (hgd : o.guard = none) (s x : Operand)
    (ho : o.op = .call { callee := .builtin .append, args := #[s, x], argTypes := #[25, 25] })
    (B : Nat) (v u : Value) (xs ys : List Int) (hs : a.eval s = v) (hx : a.eval x = u) (hown : OwnsN w B v xs) (hu : Ints w u ys) (hB : B ≤ w.heap.size) (h63 : xs.length + ys.length ≤ 17592186044416)
    (h : ∀ v' w', OwnsN w' B v' (xs ++ ys) → Below B w w' → wpList Tryz.prog ops Q rest (a.put o.dst v') w') : wpList Tryz.prog ops Q (o :: rest) a w := by
  refine wpList_plain hgd fun K hK => ?_
  obtain ⟨v', w', hr, h2, h3⟩ := run_append_ints o.type hown hu hB h63
  unfold Oper.wp
  simp [execOp, ho, resolve, invoke, builtin, hs, hx, hr, Result.andThen]
  exact hK _ _ (h v' w' h2 h3)
set_option maxHeartbeats 4000000 in
set_option maxRecDepth 100000 in
theorem copyRow_any (id : Int) (vv : Value) (xs : List Int) (w : World) (h : Ints w vv xs) (hn : xs.length ≤ 1048576) :
    Calls Tryz.prog 78 #[.agg #[.int .i64 id, vv]] w (FreshRow w (id, xs)) := by
  have H := Lib.hid h
  have HN := Lib.hid hn
  obtain ⟨va, vcap, rfl⟩ := ints_len h
  clear h hn
  have hb : Below w.heap.size w ((w.alloc (.cells #[.int .i64 id, .slice va xs.length vcap] 36)).alloc (.cells #[.int .i64 0, .slice none 0 0] 36)) := ((Below.refl _ w).alloc (Nat.le_refl _) _).alloc (by simp) _
  have g2 : ((w.alloc (.cells #[.int .i64 id, .slice va xs.length vcap] 36)).alloc (.cells #[.int .i64 0, .slice none 0 0] 36)).heap[w.heap.size + 1]? = some (.cells #[.int .i64 0, .slice none 0 0] 36 (0, 0)) := by
    have := heap_alloc_new (w.alloc (.cells #[.int .i64 id, .slice va xs.length vcap] 36)) (.cells #[.int .i64 0, .slice none 0 0] 36)
    simpa only [World.size_alloc] using this
  have g1 : ((w.alloc (.cells #[.int .i64 id, .slice va xs.length vcap] 36)).alloc (.cells #[.int .i64 0, .slice none 0 0] 36)).heap[w.heap.size]? = some (.cells #[.int .i64 id, .slice va xs.length vcap] 36 (0, 0)) := by
    rw [Below.heap_alloc _ _ _ (by simp)]
    exact heap_alloc_new w _
  have hs : ((w.alloc (.cells #[.int .i64 id, .slice va xs.length vcap] 36)).alloc (.cells #[.int .i64 0, .slice none 0 0] 36)).heap.size = w.heap.size + 2 := by simp [World.size_alloc]
  have HG := Lib.hid (And.intro g1 (And.intro g2 (And.intro hs hb)))
  clear g1 g2 hs hb
  go_enter Tryz.func78, Tryz.ntmps78
  go_wp2_with fail
  refine (copyInts_any (.slice va xs.length vcap) xs _ (ints_below H.out HG.out.2.2.2) HN.out).mono ?_
  rintro e W3 ⟨u, rfl, oB0, bB0⟩
  have hs := HG.out.2.2.1
  rw [hs] at oB0 bB0
  have oB := oB0
  have bB := bB0
  clear oB0 bB0 hs
  obtain ⟨ua, ucap, rfl⟩ := ints_len (ownsN_ints oB)
  have k1 := (bB.block w.heap.size (by omega)).trans HG.out.1
  have k2 := (bB.block (w.heap.size + 1) (by omega)).trans HG.out.2.1
  have c0 := cell_of_row W3 _ 0 _ _ _ k1
  have c1 := cell_of_row W3 _ 1 _ _ _ k1
  have f1 := frozen_of_row W3 _ 1 _ _ k1
  have d0 := cell_of_row W3 _ 0 _ _ _ k2
  have d1 := cell_of_row W3 _ 1 _ _ _ k2
  have e0 := frozen_of_row W3 _ 0 _ _ k2
  have e1 := frozen_of_row W3 _ 1 _ _ k2
  simp at c0 c1 d0 d1
  have HK := Lib.hid k2
  have bC := Lib.hid (HG.out.2.2.2.trans (bB.mono (by omega)))
  clear k1 k2 bB
  go_wp2
  have hne : (w.heap.size + 1 = w.heap.size) = False := by simp
  have m2 := (heap_setCell_other W3 ⟨w.heap.size, 1, none⟩ (w.heap.size + 1) (.slice ua xs.length ucap) (by simp)).trans HK.out
  have r1 := heap_setCell_same _ (w.heap.size + 1) 0 _ _ (.int .i64 id) m2
  have r2 := heap_setCell_same _ (w.heap.size + 1) 1 _ _ (.slice ua xs.length ucap) r1
  have o4 := ownsN_low (ownsN_low (ownsN_low oB (b := w.heap.size) (by omega) 1 (.slice ua xs.length ucap)) (b := w.heap.size + 1) (by omega) 0 (.int .i64 id)) (b := w.heap.size + 1) (by omega) 1 (.slice ua xs.length ucap)
  have B4 := ((bC.out.setCell (p := ⟨w.heap.size, 1, none⟩) (by simp) (.slice ua xs.length ucap)).setCell (p := ⟨w.heap.size + 1, 0, none⟩) (by simp) (.int .i64 id)).setCell (p := ⟨w.heap.size + 1, 1, none⟩) (by simp) (.slice ua xs.length ucap)
  have e0 := cell_of_row _ _ 0 _ _ _ r2
  have e1 := cell_of_row _ _ 1 _ _ _ r2
  simp at e0 e1
  refine bodyPost_ret (v := .agg #[.int .i64 id, .slice ua xs.length ucap]) ?_ rfl ?_
  · simp [results, Tryz.f78, go_sem, e0, e1]
  · exact ⟨_, rfl, ownsN_up o4 (by omega), B4⟩
set_option maxHeartbeats 4000000 in
set_option maxRecDepth 100000 in
theorem copyEachRow_any (v : Value) (rs : List RowD) (w : World) (h : RowsR w v rs) (hs : szL rs ≤ 1048576) :
    Calls Tryz.prog 77 #[v, .func (.func 78) #[] #[]] w (FreshRows w rs) := by
  obtain ⟨i0, hi, hz0, hz1⟩ : ∃ i, Tryz.prog.info? 36 = some i ∧ i.zero = some (.agg #[.int .i64 0, .slice none 0 0]) ∧ i.size = 2 := by
    have := Tryz.infoRow
    cases e : Tryz.prog.info? 36 with
    | none => rw [e] at this; simp at this
    | some i => rw [e] at this; simp at this; exact ⟨i, rfl, this.1, this.2⟩
  have hz2 : i0.bytes = 32 := by
    have := row_bytes
    rw [hi] at this; simpa using this
  have HI := Lib.hid hi; have HZ0 := Lib.hid hz0; have HZ1 := Lib.hid hz1; have HZ2 := Lib.hid hz2
  clear hi hz0 hz1 hz2
  have H := Lib.hid h
  have hlen : rs.length ≤ 1048576 := by have := szTo_le (rs := rs) (Nat.zero_le _); rw [szTo_zero] at this; omega
  have HS := Lib.hid hs
  obtain ⟨a, cap, rfl⟩ := rowsR_len h
  clear h hs
  go_enter Tryz.func77, Tryz.ntmps77
  go_wp2_with (at_make; refine wpList_make_full _ rfl (.tmp 9) (.tmp 9) 28 rfl w.heap.size 36 i0 (.agg #[.int .i64 0, .slice none 0 0]) 2 Tryz.underlying28 HI.out HZ0.out HZ1.out _ _ _ _ rs.length rfl rfl rfl rfl (by rw [HZ2.out]; omega) (by unfold maxLen; omega) (Nat.le_refl _) ?_)
  intro w1 hown0 hg0
  have hown1 := ownsR_made hown0
  have hbel1 := (Below.refl w.heap.size w).grown hg0 (Nat.le_refl _) (fun k hk => by cases hk)
  clear hown0 hg0
  go_wp2
  go_loopw [13] (fun i wr => ∃ k : Nat, k ≤ rs.length ∧ i = .int .i64 k ∧ OwnsR wr w.heap.size (.slice (some ⟨w.heap.size, 0, none⟩) rs.length rs.length) (rs.take k ++ List.replicate (rs.length - k) (0, [])) ∧ Below w.heap.size w wr) (fun i _ => rs.length - (intOf i).toNat)
  case atStart => exact ⟨0, Nat.zero_le _, rfl, by simpa using hown1, hbel1⟩
  case round =>
    obtain ⟨k, hk, rfl, hown, hbel⟩ := hrel
    by_cases hlt : k < rs.length
    · obtain ⟨b, off, cap', vv, hv, hbl, hc1, hc2, hI⟩ := rowsR_at (rowsR_below H.out hbel) hlt
      simp only [Value.slice.injEq] at hv
      obtain ⟨rfl, _, rfl⟩ := hv
      have hxl : (rs.getD k (0, [])).2.length ≤ 1048576 := by
        have h1 := szTo_step hlt
        have h2 := szTo_le (rs := rs) (k := k + 1) (by omega)
        have := HS.out
        omega
      have hset := rows_copied rs k hlt
      have hkl : k < (rs.take k ++ List.replicate (rs.length - k) ((0, []) : RowD)).length := by simp; omega
      have i1 : (0 : Int) ≤ (k : Int) := by omega
      have i2 : (k : Int) < (rs.length : Int) := by omega
      have HSET := Lib.hid hset
      have HKL := Lib.hid hkl
      clear hset hkl hown1 hbel1
      generalize rs.getD k (0, []) = r at *
      obtain ⟨id, xs⟩ := r
      simp only at hc1 hc2 hI hxl
      obtain ⟨va, vcap, rfl⟩ := ints_len hI
      have bb := (Below.refl wr.heap.size wr).alloc (Nat.le_refl _) (.cells #[.int .i64 id, .slice va xs.length vcap] 36)
      go_wp2_with fail
      refine (copyRow_any id (.slice va xs.length vcap) xs _ (ints_below hI bb) hxl).mono ?_
      rintro e w2 ⟨uv, rfl, ou, b2⟩
      replace ou := ownsN_up ou bb.size
      replace b2 := bb.trans (b2.mono bb.size)
      clear bb
      have hst := Lib.hid (ownsR_store hown b2 hbel.size HKL.out (id, xs) ou)
      rw [HSET.out] at hst
      have b3 := hbel.trans (b2.mono hbel.size)
      have hg : w.heap.size < w2.heap.size := by
        obtain ⟨cs, vs, h1, _⟩ := hown
        have := (h1.lt w.heap.size rfl).2
        have := b2.size
        omega
      obtain ⟨ua, uc, rfl⟩ := ints_len (ownsN_ints ou)
      obtain ⟨q0, q1, f0, f1⟩ : (∃ x, w2.cell? ⟨w.heap.size, k * 2, none⟩ = some x) ∧ (∃ x, w2.cell? ⟨w.heap.size, k * 2 + 1, none⟩ = some x) ∧ w2.frozen? ⟨w.heap.size, k * 2, none⟩ = false ∧ w2.frozen? ⟨w.heap.size, k * 2 + 1, none⟩ = false := by
        obtain ⟨cs, vs, h1, h2, _⟩ := ownsR_below hown b2
        have hl0 : (rs.take k ++ List.replicate (rs.length - k) ((0, []) : RowD)).length = rs.length := by simp; omega
        rw [hl0] at h1 h2
        obtain ⟨g1, g2, _, _⟩ := h2 k hlt
        exact ⟨⟨_, (World.ownsRow.cellAt h1 (k * 2) (by omega)).trans g1⟩, ⟨_, (World.ownsRow.cellAt h1 (k * 2 + 1) (by omega)).trans g2⟩, World.ownsRow.frozenAt h1 _, World.ownsRow.frozenAt h1 _⟩
      obtain ⟨x0, q0⟩ := q0
      obtain ⟨x1, q1⟩ := q1
      have B3 := (b3.setCell (p := ⟨w.heap.size, k * 2, none⟩) (Nat.le_refl _) (.int .i64 id)).setCell (p := ⟨w.heap.size, k * 2 + 1, none⟩) (Nat.le_refl _) (.slice ua xs.length uc)
      clear hown hbel b2 ou hc1 hc2 hI
      go_wp2
      go_roundw
      case rel => exact ⟨k + 1, by omega, by go_num, hst.out, B3⟩
      case measure => simp [intOf]; omega
    · obtain rfl : k = rs.length := by omega
      have HE : Hid (rs.take rs.length ++ List.replicate (rs.length - rs.length) ((0, []) : RowD) = rs) := Lib.hid (by simp)
      rw [HE.out] at hown
      go_wp2
      go_ret
      exact ⟨_, rfl, hown, hbel⟩
set_option maxHeartbeats 2000000 in
set_option maxRecDepth 100000 in
theorem copyRows_any (v : Value) (rs : List RowD) (w : World) (h : RowsR w v rs) (hs : szL rs ≤ 1048576) :
    Calls Tryz.prog 48 #[v] w (FreshRows w rs) := by
  have H := Lib.hid (fun w h => copyEachRow_any v rs w h hs)
  have HV := Lib.hid h
  clear h hs
  go_enter Tryz.func48, Tryz.ntmps48
  go_wp2_with fail
  refine (H.out _ HV.out).mono ?_
  rintro e w1 ⟨u, rfl, o1, b1⟩
  obtain ⟨ua, uc, rfl⟩ := rowsR_len (ownsR_rows o1)
  go_wp2
  go_ret
  exact ⟨_, rfl, o1, b1⟩
end Go.Proofs.YtijfnabglblimaaGreatDoor
namespace Go.Proofs.YtijfnabglblimaaGreatDoor
open Go.RowKit
set_option linter.unusedVariables false
/-- A condition: field, low, high. -/
abbrev CondD := Int × Int × Int
theorem Tryz.infoCond : (Tryz.prog.info? 67).map (fun i => (i.zero, i.size, i.bytes)) = some (some (.agg #[.int .i64 0, .int .i64 0, .int .i64 0]), 3, 24) := by kernel_rfl
/-- The cells of conditions. -/
def flatC (cs : List CondD) : List Value := cs.flatMap fun c => [.int .i64 c.1, .int .i64 c.2.1, .int .i64 c.2.2]
theorem flatC_len (cs : List CondD) : (flatC cs).length = cs.length * 3 := by
  induction cs with
  | nil => rfl
  | cons c cs ih => simp only [flatC, List.flatMap_cons, List.length_append, List.length_cons, List.length_nil] at ih ⊢; rw [ih]; omega
theorem flatC_cons (c : CondD) (cs : List CondD) : flatC (c :: cs) = [.int .i64 c.1, .int .i64 c.2.1, .int .i64 c.2.2] ++ flatC cs := rfl
theorem flatC_app (a b : List CondD) : flatC (a ++ b) = flatC a ++ flatC b := by simp [flatC]
theorem flatC_at : ∀ (cs : List CondD) (j : Nat), j < cs.length → (flatC cs)[j * 3]? = some (.int .i64 (cs.getD j (0, 0, 0)).1) ∧ (flatC cs)[j * 3 + 1]? = some (.int .i64 (cs.getD j (0, 0, 0)).2.1) ∧ (flatC cs)[j * 3 + 2]? = some (.int .i64 (cs.getD j (0, 0, 0)).2.2)
  | [], j, h => by simp at h
  | c :: cs, 0, _ => ⟨rfl, rfl, rfl⟩
  | c :: cs, j + 1, h => by
    obtain ⟨h1, h2, h3⟩ := flatC_at cs j (by simpa using h)
    rw [flatC_cons]
    refine ⟨?_, ?_, ?_⟩
    · rw [List.getElem?_append_right (by simp; omega), show (j + 1) * 3 - [Value.int .i64 c.1, .int .i64 c.2.1, .int .i64 c.2.2].length = j * 3 by simp; omega, h1]; rfl
    · rw [List.getElem?_append_right (by simp; omega), show (j + 1) * 3 + 1 - [Value.int .i64 c.1, .int .i64 c.2.1, .int .i64 c.2.2].length = j * 3 + 1 by simp; omega, h2]; rfl
    · rw [List.getElem?_append_right (by simp; omega), show (j + 1) * 3 + 2 - [Value.int .i64 c.1, .int .i64 c.2.1, .int .i64 c.2.2].length = j * 3 + 2 by simp; omega, h3]; rfl
theorem flatC_one : ∀ (cs : List CondD), ∀ u ∈ flatC cs, u.oneCell' = true := by
  intro cs u hu
  simp only [flatC, List.mem_flatMap, List.mem_cons, List.not_mem_nil, or_false] at hu
  obtain ⟨c, _, rfl | rfl | rfl⟩ := hu <;> rfl
/-- The slice v reads as the conditions cs. -/
def CondsR (w : World) (v : Value) (cs : List CondD) : Prop :=
  (cs = [] ∧ ∃ a cap, v = .slice a 0 cap) ∨ ∃ b off cap, v = .slice (some ⟨b, off, none⟩) cs.length cap ∧ cs.length ≤ cap ∧ b < w.heap.size ∧ ∀ j, j < cs.length →
    w.cell? ⟨b, off + j * 3, none⟩ = some (.int .i64 (cs.getD j (0, 0, 0)).1) ∧ w.cell? ⟨b, off + j * 3 + 1, none⟩ = some (.int .i64 (cs.getD j (0, 0, 0)).2.1) ∧ w.cell? ⟨b, off + j * 3 + 2, none⟩ = some (.int .i64 (cs.getD j (0, 0, 0)).2.2)
theorem condsR_len {w : World} {v : Value} {cs : List CondD} (h : CondsR w v cs) : ∃ a cap, v = .slice a cs.length cap := by
  rcases h with ⟨rfl, a, cap, rfl⟩ | ⟨b, off, cap, rfl, _⟩
  · exact ⟨a, cap, rfl⟩
  · exact ⟨_, cap, rfl⟩
theorem condsR_below {W w : World} {v : Value} {cs : List CondD} (h : CondsR W v cs) (hb : Below W.heap.size W w) : CondsR w v cs := by
  rcases h with h | ⟨b, off, cap, h1, h2, h3, h4⟩
  · exact Or.inl h
  · exact Or.inr ⟨b, off, cap, h1, h2, Nat.lt_of_lt_of_le h3 hb.size, fun j hj => ⟨(hb.cell (p := ⟨b, off + j * 3, none⟩) h3).trans (h4 j hj).1, (hb.cell (p := ⟨b, off + j * 3 + 1, none⟩) h3).trans (h4 j hj).2.1, (hb.cell (p := ⟨b, off + j * 3 + 2, none⟩) h3).trans (h4 j hj).2.2⟩⟩
theorem condsR_at {w : World} {v : Value} {cs : List CondD} (h : CondsR w v cs) {k : Nat} (hk : k < cs.length) : ∃ (b off cap : Nat), v = .slice (some ⟨b, off, none⟩) cs.length cap ∧ b < w.heap.size ∧
    w.cell? ⟨b, off + k * 3, none⟩ = some (.int .i64 (cs.getD k (0, 0, 0)).1) ∧ w.cell? ⟨b, off + k * 3 + 1, none⟩ = some (.int .i64 (cs.getD k (0, 0, 0)).2.1) ∧ w.cell? ⟨b, off + k * 3 + 2, none⟩ = some (.int .i64 (cs.getD k (0, 0, 0)).2.2) := by
  rcases h with ⟨rfl, _⟩ | ⟨b, off, cap, h1, h2, h3, h4⟩
  · simp at hk
  · exact ⟨b, off, cap, h1, h3, h4 k hk⟩
/-- The slice v owns the conditions cs, in a block from B on. -/
def OwnsC (w : World) (B : Nat) (v : Value) (cs : List CondD) : Prop := w.ownsRow B 67 3 v cs.length (flatC cs)
theorem ownsC_nil (w : World) (B : Nat) : OwnsC w B (.slice none 0 0) [] := World.ownsRow_nil w B _ _
theorem ownsC_conds {w : World} {B : Nat} {v : Value} {cs : List CondD} (h : OwnsC w B v cs) : CondsR w v cs := by
  have h1' := h
  rcases h.2 with ⟨rfl, h0⟩ | ⟨g, cap, cur, rfl, hb, hg, hn, hm, hcs, htake⟩
  · exact Or.inl ⟨List.eq_nil_of_length_eq_zero h0, none, 0, rfl⟩
  · refine Or.inr ⟨g, 0, cap, rfl, hn, (Array.getElem?_eq_some_iff.1 hg).1, fun j hj => ?_⟩
    obtain ⟨f1, f2, f3⟩ := flatC_at cs j hj
    refine ⟨?_, ?_, ?_⟩
    · rw [Nat.zero_add, World.ownsRow.cellAt h1' (j * 3) (by omega)]; exact f1
    · rw [Nat.zero_add, World.ownsRow.cellAt h1' (j * 3 + 1) (by omega)]; exact f2
    · rw [Nat.zero_add, World.ownsRow.cellAt h1' (j * 3 + 2) (by omega)]; exact f3
theorem ownsC_below {w w' : World} {B : Nat} {v : Value} {cs : List CondD} (h : OwnsC w B v cs) (hb : Below w.heap.size w w') : OwnsC w' B v cs := ownsRow_below h hb
theorem ownsC_up {w : World} {B C : Nat} {v : Value} {cs : List CondD} (h : OwnsC w C v cs) (hb : B ≤ C) : OwnsC w B v cs := by
  refine ⟨h.1, ?_⟩
  rcases h.2 with hn | ⟨g, cap, cur, e, hb', rest⟩
  · exact .inl hn
  · exact .inr ⟨g, cap, cur, e, Nat.le_trans hb hb', rest⟩
theorem ownsC_low {w : World} {C : Nat} {v : Value} {cs : List CondD} (h : OwnsC w C v cs) {b : Nat} (hb : b < C) (j : Nat) (u : Value) : OwnsC (w.setCell ⟨b, j, none⟩ u) C v cs := by
  refine h.kept (grow_set w b j u) ?_
  cases hv : v.ownBlock with
  | none => exact Or.inl rfl
  | some k => exact Or.inr (by intro e; have := (h.lt k hv).1; simp at e; omega)
theorem ownsC_len {w : World} {B : Nat} {v : Value} {cs : List CondD} (h : OwnsC w B v cs) : ∃ a cap, v = .slice a cs.length cap := condsR_len (ownsC_conds h)
end Go.Proofs.YtijfnabglblimaaGreatDoor
namespace Go.Proofs.YtijfnabglblimaaGreatDoor
open Go.RowKit
set_option linter.unusedVariables false
set_option linter.unusedSimpArgs false
def condB (c : CondD) : Bool := decide (0 ≤ c.1 ∧ c.1 ≤ 2) && (decide (0 ≤ c.2.1 ∧ c.2.1 ≤ c.2.2) && decide (c.2.2 ≤ 99))
abbrev condV (f l h : Int) : Value := .agg #[.int .i64 f, .int .i64 l, .int .i64 h]
set_option maxHeartbeats 4000000 in
set_option maxRecDepth 100000 in
theorem specIsCond (f l h : Int) (w : World) :
    Calls Tryz.prog 40 #[condV f l h] w fun e w' => e = .returned (.bool (condB (f, l, h))) ∧ Below w.heap.size w w' := by
  have hb : Below w.heap.size w (w.alloc (.cells #[.int .i64 f, .int .i64 l, .int .i64 h] 67)) := (Below.refl _ w).alloc (Nat.le_refl _) _
  by_cases h1 : 0 ≤ f ∧ f ≤ 2
  · have H1 := Lib.hid (fun w => in_yes f 0 2 w h1.1 h1.2)
    by_cases h2 : 0 ≤ l ∧ l ≤ h
    · have H2 := Lib.hid (fun w => in_yes l 0 h w h2.1 h2.2)
      have HF : Hid (condB (f, l, h) = decide (h ≤ 99)) := Lib.hid (by unfold condB; rw [decide_eq_true h1, decide_eq_true h2]; simp)
      by_cases h3 : h ≤ 99
      · have HT : Hid (condB (f, l, h) = true) := Lib.hid (by rw [HF.out]; exact decide_eq_true h3)
        clear h1 h2 HF
        go_enter Tryz.func40, Tryz.ntmps40
        go_wp2_with fail
        refine (H1.out _).mono ?_
        rintro e w1 ⟨rfl, rfl⟩
        go_wp2_with fail
        refine (H2.out _).mono ?_
        rintro e w2 ⟨rfl, rfl⟩
        go_wp2
        go_ret
        exact ⟨ret_b HT.out.symm, hb⟩
      · have HT : Hid (condB (f, l, h) = false) := Lib.hid (by rw [HF.out]; exact decide_eq_false h3)
        clear h1 h2 HT
        go_enter Tryz.func40, Tryz.ntmps40
        go_wp2_with fail
        refine (H1.out _).mono ?_
        rintro e w1 ⟨rfl, rfl⟩
        go_wp2_with fail
        refine (H2.out _).mono ?_
        rintro e w2 ⟨rfl, rfl⟩
        go_wp2
        go_ret
        exact ⟨ret_b HF.out.symm, hb⟩
    · have H2 := Lib.hid (fun w => in_no l 0 h w h2)
      have HT : Hid (condB (f, l, h) = false) := Lib.hid (by unfold condB; rw [decide_eq_false h2]; simp)
      clear h1 h2
      go_enter Tryz.func40, Tryz.ntmps40
      go_wp2_with fail
      refine (H1.out _).mono ?_
      rintro e w1 ⟨rfl, rfl⟩
      go_wp2_with fail
      refine (H2.out _).mono ?_
      rintro e w2 ⟨rfl, rfl⟩
      go_wp2
      go_ret
      exact ⟨ret_b HT.out.symm, hb⟩
  · have H1 := Lib.hid (fun w => in_no f 0 2 w h1)
    have HT : Hid (condB (f, l, h) = false) := Lib.hid (by unfold condB; rw [decide_eq_false h1]; simp)
    clear h1
    go_enter Tryz.func40, Tryz.ntmps40
    go_wp2_with fail
    refine (H1.out _).mono ?_
    rintro e w1 ⟨rfl, rfl⟩
    go_wp2
    go_ret
    exact ⟨ret_b HT.out.symm, hb⟩
end Go.Proofs.YtijfnabglblimaaGreatDoor
namespace Go.Proofs.YtijfnabglblimaaGreatDoor
open Go.RowKit
set_option linter.unusedVariables false
set_option linter.unusedSimpArgs false
abbrev qV (id tn : Int) (cv ov : Value) : Value := .agg #[.int .i64 id, .int .i64 tn, cv, ov]
end Go.Proofs.YtijfnabglblimaaGreatDoor
