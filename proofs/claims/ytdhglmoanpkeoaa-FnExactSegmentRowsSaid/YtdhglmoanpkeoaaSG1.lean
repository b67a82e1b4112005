/-
  Texts of the proof, merged: Ints, LawInts, RowVal, SetMath, SetSpec, RowSpec, RowSl, RowOwn, RowLaw1, RowLaws, RowEq, Take, RowAre, RowLess, AppInts, RowCopy, RowMark, RowMarkW, RowIns, VerMath, VerSpec1, Ty, TyInt, TVersion, TVersionS, TVersionSS, TRow, TRowS, TyApp, Raw, VerBr, VerSpec2, TCond, FlatT, VerSpec3.
-/
import Derived.Test.YtdhglmoanpkeoaaRows
import Derived.WalkKit
import Derived.Below
import Derived.Lib.Hide
import Derived.OwnWalk
import Derived.BigQuiet
import Derived.Deep.QuietTactic
import Derived.WalkSpells
import Derived.Deep.RegionHeld3
import Derived.IntWalk
import Derived.Deep.Upon
import Derived.Maps.AppendAt
import Derived.Laws.OwnMore
import Derived.Laws.MakeOwn
import Derived.Deep.Slices
namespace Go.Proofs.Ytdhglmoanpkeoaa
open Go.RowKit
set_option linter.unusedVariables false
theorem Try.infoI64 : (Try.prog.info? 3).map (fun i => (i.zero, i.size, i.bytes)) = some (some (.int .i64 0), 1, 8) := by kernel_rfl
/-- The slice v reads as the numbers xs. -/
def Ints (w : World) (v : Value) (xs : List Int) : Prop :=
  (xs = [] ∧ ∃ a cap, v = .slice a 0 cap) ∨ ∃ b off cap, v = .slice (some ⟨b, off, none⟩) xs.length cap ∧ xs.length ≤ cap ∧ b < w.heap.size ∧ ∀ j, j < xs.length → w.cell? ⟨b, off + j, none⟩ = some (.int .i64 (xs.getD j 0))
/-- The slice v owns the numbers xs, in a block from B on. -/
def OwnsN (w : World) (B : Nat) (v : Value) (xs : List Int) : Prop := w.ownsRow B 3 1 v xs.length (xs.map (Value.int .i64))
theorem below_same {B : Nat} {a w w' : World} (h : Below B a w) (h1 : w'.heap = w.heap) (h2 : w'.os = w.os) (h3 : w'.tape = w.tape) (h4 : w'.output = w.output) : Below B a w' :=
  ⟨h2.trans h.os, h3.trans h.tape, h4.trans h.output, by rw [h1]; exact h.size, fun k hk => by rw [h1]; exact h.block k hk⟩
theorem ints_len {w : World} {v : Value} {xs : List Int} (h : Ints w v xs) : ∃ a cap, v = .slice a xs.length cap := by
  rcases h with ⟨rfl, a, cap, rfl⟩ | ⟨b, off, cap, rfl, _⟩
  · exact ⟨a, cap, rfl⟩
  · exact ⟨_, cap, rfl⟩
theorem ints_below {W w : World} {v : Value} {xs : List Int} (h : Ints W v xs) (hb : Below W.heap.size W w) : Ints w v xs := by
  rcases h with h | ⟨b, off, cap, h1, h2, h3, h4⟩
  · exact Or.inl h
  · exact Or.inr ⟨b, off, cap, h1, h2, Nat.lt_of_lt_of_le h3 hb.size, fun j hj => (hb.cell (p := ⟨b, off + j, none⟩) h3).trans (h4 j hj)⟩
/-- What 'make([]int, n)' owns. -/
theorem ownsN_made {w : World} {B g n : Nat} (h : w.ownsRow B 3 1 (.slice (some ⟨g, 0, none⟩) n n) n (madeCells #[Value.int .i64 0] n).toList) : OwnsN w B (.slice (some ⟨g, 0, none⟩) n n) (List.replicate n 0) := by
  have e : (madeCells #[Value.int .i64 0] n).toList = List.replicate n (.int .i64 0) := toList_madeCells_one (.int .i64 0) n
  rw [e] at h
  unfold OwnsN
  simpa using h
theorem ownsN_len {w : World} {B : Nat} {a : Option Addr} {n cap : Nat} {xs : List Int} (h : OwnsN w B (.slice a n cap) xs) : n = xs.length := by
  rcases h.2 with ⟨h', h0⟩ | ⟨_, _, _, h', _⟩
  · simp only [Value.slice.injEq] at h'; omega
  · simp only [Value.slice.injEq] at h'; exact h'.2.1
theorem ownsN_cell {w : World} {B g n cap j : Nat} {xs : List Int} {x : Int} (h : OwnsN w B (.slice (some ⟨g, 0, none⟩) n cap) xs) (hx : xs[j]? = some x) : w.cell? ⟨g, j, none⟩ = some (.int .i64 x) := by
  have := World.ownsRow.cells h (g := g) rfl j (.int .i64 x) (by simp [hx])
  have e : (⟨g, 0, none⟩ : Addr).add j = ⟨g, j, none⟩ := by unfold Addr.add; split <;> simp_all
  rwa [e] at this
theorem ownsN_frozen {w : World} {B g n cap : Nat} {xs : List Int} (h : OwnsN w B (.slice (some ⟨g, 0, none⟩) n cap) xs) (j : Nat) : w.frozen? ⟨g, j, none⟩ = false := by
  obtain rfl := ownsN_len h
  exact World.ownsRow.frozenAt h j
theorem ownsN_store {w : World} {B g n cap : Nat} {xs : List Int} (h : OwnsN w B (.slice (some ⟨g, 0, none⟩) n cap) xs) (j : Nat) (x : Int) : OwnsN (w.setCell ⟨g, j, none⟩ (.int .i64 x)) B (.slice (some ⟨g, 0, none⟩) n cap) (xs.set j x) := by
  obtain rfl := ownsN_len h
  have := (World.ownsRow.stored h j (.int .i64 x)).1
  unfold OwnsN
  rw [List.length_set, List.map_set]
  exact this
/-- The form of what is owned: nil, or the head of a block. -/
theorem ownsN_form {w : World} {B : Nat} {v : Value} {xs : List Int} (h : OwnsN w B v xs) : (v = .slice none 0 0 ∧ xs = []) ∨ ∃ g cap, v = .slice (some ⟨g, 0, none⟩) xs.length cap ∧ B ≤ g ∧ g < w.heap.size := by
  rcases h.2 with ⟨rfl, h0⟩ | ⟨g, cap, cur, rfl, hb, hg, _⟩
  · exact .inl ⟨rfl, List.eq_nil_of_length_eq_zero h0⟩
  · exact .inr ⟨g, cap, rfl, hb, (Array.getElem?_eq_some_iff.1 hg).1⟩
end Go.Proofs.Ytdhglmoanpkeoaa
namespace Go.Proofs.Ytdhglmoanpkeoaa
open Go.RowKit
set_option linter.unusedVariables false
/-- A slice in new memory that holds the numbers xs. -/
def Fresh (w : World) (xs : List Int) (e : Ending) (w' : World) : Prop := ∃ v', e = .returned v' ∧ OwnsN w' w.heap.size v' xs ∧ Below w.heap.size w w'
theorem ints_cell {w : World} {v : Value} {xs : List Int} (h : Ints w v xs) (hp : 0 < xs.length) : ∃ b off cap, v = .slice (some ⟨b, off, none⟩) xs.length cap ∧ b < w.heap.size ∧ ∀ j, j < xs.length → w.cell? ⟨b, off + j, none⟩ = some (.int .i64 (xs.getD j 0)) := by
  rcases h with ⟨rfl, _⟩ | ⟨b, off, cap, h1, h2, h3, h4⟩
  · simp at hp
  · exact ⟨b, off, cap, h1, h3, h4⟩
theorem copy_step (xs : List Int) (k : Nat) (h : k < xs.length) : (xs.take k ++ List.replicate (xs.length - k) 0).set k (xs.getD k 0) = xs.take (k + 1) ++ List.replicate (xs.length - (k + 1)) 0 := by
  have hk : (xs.take k).length = k := by rw [List.length_take]; omega
  rw [List.set_append_right _ _ (by omega), hk, Nat.sub_self, show xs.length - k = (xs.length - (k + 1)) + 1 by omega, List.replicate_succ, List.set_cons_zero, List.take_succ_eq_append_getElem h, List.append_assoc]
  simp [List.getD, h]
theorem copy_at (xs : List Int) (k : Nat) (h : k < xs.length) : (xs.take k ++ List.replicate (xs.length - k) 0)[k]? = some 0 := by
  have hk : (xs.take k).length = k := by rw [List.length_take]; omega
  rw [List.getElem?_append_right (by omega), hk, Nat.sub_self, List.getElem?_replicate, if_pos (by omega)]
set_option maxRecDepth 100000 in
theorem toIntS_any (v : Value) (xs : List Int) (w : World) (h : Ints w v xs) (hn : xs.length ≤ 1048576) :
    Calls Try.prog 59 #[v] w (Fresh w xs) := by
  obtain ⟨i0, hi, hz0, hz1, hz2⟩ := info_parts Try.infoI64
  have HI := Lib.hid hi; have HZ0 := Lib.hid hz0; have HZ1 := Lib.hid hz1; have HZ2 := Lib.hid hz2
  clear hi hz0 hz1 hz2
  have H := Lib.hid h
  obtain ⟨a, cap, rfl⟩ := ints_len h
  clear h
  go_enter Try.func59, Try.ntmps59
  go_wp2_with (at_make; refine wpList_make_full _ rfl (.tmp 6) (.tmp 6) 37 rfl w.heap.size 3 i0 (.int .i64 0) 1 Try.underlying37 HI.out HZ0.out HZ1.out _ _ _ _ xs.length rfl rfl rfl rfl (by rw [HZ2.out]; omega) (by unfold maxLen; omega) (Nat.le_refl _) ?_)
  intro w1 hown0 hg0
  have hown1 := ownsN_made hown0
  have hbel1 := (Below.refl w.heap.size w).grown hg0 (Nat.le_refl _) (fun k hk => by cases hk)
  clear hown0 hg0
  go_wp2
  go_loopw [4] (fun i wr => ∃ k : Nat, k ≤ xs.length ∧ i = .int .i64 k ∧ OwnsN wr w.heap.size (.slice (some ⟨w.heap.size, 0, none⟩) xs.length xs.length) (xs.take k ++ List.replicate (xs.length - k) 0) ∧ Below w.heap.size w wr) (fun i _ => xs.length - (intOf i).toNat)
  case atStart => exact ⟨0, Nat.zero_le _, rfl, by simpa using hown1, hbel1⟩
  case round =>
    obtain ⟨k, hk, rfl, hown, hbel⟩ := hrel
    by_cases hlt : k < xs.length
    · obtain ⟨b, off, cap', hv, hbl, hc⟩ := ints_cell H.out (by omega)
      simp only [Value.slice.injEq] at hv
      obtain ⟨rfl, _, rfl⟩ := hv
      have hcell := (hbel.cell (p := ⟨b, off + k, none⟩) hbl).trans (hc k hlt)
      have hset := copy_step xs k hlt
      have i1 : (0 : Int) ≤ (k : Int) := by omega
      have i2 : (k : Int) < (xs.length : Int) := by omega
      have c1 := ownsN_cell hown (copy_at xs k hlt)
      have f1 := ownsN_frozen hown k
      have hst := ownsN_store hown k (xs.getD k 0)
      rw [hset] at hst
      have hb2 := hbel.setCell (p := ⟨w.heap.size, k, none⟩) (Nat.le_refl _) (.int .i64 (xs.getD k 0))
      have HST := Lib.hid hst
      clear hst hset hc hown hbel hown1 hbel1
      generalize xs.getD k 0 = y at *
      go_wp2
      go_roundw
      case rel => exact ⟨k + 1, by omega, by go_num, HST.out, hb2⟩
      case measure => simp [intOf]; omega
    · obtain rfl : k = xs.length := by omega
      rw [List.take_of_length_le (Nat.le_refl _), Nat.sub_self, List.replicate_zero, List.append_nil] at hown
      go_wp2
      go_ret
      exact ⟨_, rfl, hown, hbel⟩
set_option maxRecDepth 100000 in
theorem eqIntS_same (v u : Value) (xs : List Int) (w : World) (h : Ints w v xs) (g : Ints w u xs) (hn : xs.length ≤ 1048576) :
    Calls Try.prog 44 #[v, u] w fun e w' => e = .returned (.bool true) ∧ Below w.heap.size w w' := by
  have H := Lib.hid h
  have G := Lib.hid g
  obtain ⟨a, cap, rfl⟩ := ints_len h
  obtain ⟨a2, cap2, rfl⟩ := ints_len g
  clear h g
  go_enter Try.func44, Try.ntmps44
  go_wp2
  go_loopw [5] (fun i wr => ∃ k : Nat, k ≤ xs.length ∧ i = .int .i64 k ∧ Below w.heap.size w wr) (fun i _ => xs.length - (intOf i).toNat)
  case atStart => exact ⟨0, Nat.zero_le _, rfl, Below.refl _ _⟩
  case round =>
    obtain ⟨k, hk, rfl, hbel⟩ := hrel
    by_cases hlt : k < xs.length
    · obtain ⟨b, off, cap', hv, hbl, hc⟩ := ints_cell H.out (by omega)
      obtain ⟨b2, off2, cap2', hv2, hbl2, hc2⟩ := ints_cell G.out (by omega)
      simp only [Value.slice.injEq] at hv hv2
      obtain ⟨rfl, _, rfl⟩ := hv
      obtain ⟨rfl, _, rfl⟩ := hv2
      have hcell := (hbel.cell (p := ⟨b, off + k, none⟩) hbl).trans (hc k hlt)
      have hcell2 := (hbel.cell (p := ⟨b2, off2 + k, none⟩) hbl2).trans (hc2 k hlt)
      have i1 : (0 : Int) ≤ (k : Int) := by omega
      have i2 : (k : Int) < (xs.length : Int) := by omega
      clear hc hc2
      generalize xs.getD k 0 = y at *
      go_wp2
      go_quiet (fail)
      go_wp2
      go_roundw
      case rel => exact ⟨k + 1, by omega, by go_num, below_same hbel rfl rfl rfl rfl⟩
      case measure => simp [intOf]; omega
    · obtain rfl : k = xs.length := by omega
      go_wp2
      go_ret
      exact ⟨rfl, hbel⟩
/-- The numbers k, k + 1, ... -/
def marks (k : Int) (n : Nat) : List Int := (List.range n).map fun i : Nat => k + (i : Int)
theorem marks_length (k : Int) (n : Nat) : (marks k n).length = n := by simp [marks]
theorem marks_at (k : Int) (n j : Nat) (h : j < n) : (marks k n).getD j 0 = k + (j : Int) := by simp [marks, List.getD, h]
/-- The first j numbers marked. -/
def markedTo (xs : List Int) (k : Int) (j : Nat) : List Int := marks k j ++ xs.drop j
theorem markedTo_step (xs : List Int) (k : Int) (j : Nat) (h : j < xs.length) : (markedTo xs k j).set j (k + (j : Int)) = markedTo xs k (j + 1) := by
  unfold markedTo
  rw [List.set_append_right _ _ (by rw [marks_length]; exact Nat.le_refl _), marks_length, Nat.sub_self, List.drop_eq_getElem_cons h, List.set_cons_zero]
  simp [marks, List.range_succ]
theorem markedTo_at (xs : List Int) (k : Int) (j : Nat) (h : j < xs.length) : (markedTo xs k j)[j]? = some xs[j] := by
  unfold markedTo
  rw [List.getElem?_append_right (by rw [marks_length]; exact Nat.le_refl _), marks_length, Nat.sub_self, List.drop_eq_getElem_cons h]
  rfl
theorem markedTo_all (xs : List Int) (k : Int) : markedTo xs k xs.length = marks k xs.length := by unfold markedTo; simp
/-- What marking leaves. -/
def Marked (w : World) (B : Nat) (v : Value) (n : Nat) (k : Int) (e : Ending) (w' : World) : Prop := e = .returned (.int .i64 (k + (n : Int))) ∧ OwnsN w' B v (marks k n) ∧ w.grownBy w' v.ownBlock
theorem grownBy_store (w : World) (g j : Nat) (u : Value) : w.grownBy (w.setCell ⟨g, j, none⟩ u) (some g) :=
  ⟨rfl, rfl, rfl, by simp [World.setCell], fun k _ hk => heap_setCell_other w ⟨g, j, none⟩ k u (fun e => hk (by simp [e]))⟩
theorem grown_more {a b c : World} {r : Option Nat} (h : a.grownBy b r) (k : b.grownBy c r) : a.grownBy c r :=
  ⟨k.os.trans h.os, k.tape.trans h.tape, k.output.trans h.output, Nat.le_trans h.size k.size, fun i hi hne => (k.block i (Nat.lt_of_lt_of_le hi h.size) hne).trans (h.block i hi hne)⟩
set_option maxRecDepth 100000 in
theorem markIntS_any (v : Value) (xs : List Int) (B : Nat) (k : Int) (w : World) (h : OwnsN w B v xs) (hn : xs.length ≤ 1048576) (k0 : 0 ≤ k) (k1 : k ≤ 1073741824) :
    Calls Try.prog 39 #[v, .int .i64 k] w (Marked w B v xs.length k) := by
  have H := Lib.hid h
  rcases ownsN_form h with ⟨rfl, rfl⟩ | ⟨g, cap, rfl, hBg, hgl⟩
  · clear h
    go_enter Try.func39, Try.ntmps39
    go_wp2
    go_loop [1, 5] (fun m i => i = .int .i64 0 ∧ m = .int .i64 k) (fun _ _ => 0)
    case atStart => exact ⟨rfl, rfl⟩
    case round =>
      obtain ⟨rfl, rfl⟩ := hrel
      go_wp2
      go_ret
      exact ⟨by simp, by rw [show marks k 0 = [] from rfl]; exact H.out, World.grownBy.refl _ _⟩
  · clear h
    go_enter Try.func39, Try.ntmps39
    go_wp2
    go_loopw [1, 5] (fun m i wr => ∃ j : Nat, j ≤ xs.length ∧ i = .int .i64 j ∧ m = .int .i64 (k + (j : Int)) ∧ OwnsN wr B (.slice (some ⟨g, 0, none⟩) xs.length cap) (markedTo xs k j) ∧ w.grownBy wr (some g)) (fun _ i _ => xs.length - (intOf i).toNat)
    case atStart => exact ⟨0, Nat.zero_le _, rfl, by simp, by rw [show markedTo xs k 0 = xs by simp [markedTo, marks]]; exact H.out, World.grownBy.refl _ _⟩
    case round =>
      obtain ⟨j, hj, rfl, rfl, hown, hgr⟩ := hrel
      by_cases hlt : j < xs.length
      · have i1 : (0 : Int) ≤ (j : Int) := by omega
        have i2 : (j : Int) < (xs.length : Int) := by omega
        have c1 := ownsN_cell hown (markedTo_at xs k j hlt)
        have f1 := ownsN_frozen hown j
        have hst := ownsN_store hown j (k + (j : Int))
        rw [markedTo_step xs k j hlt] at hst
        have hg2 := grown_more hgr (grownBy_store wr g j (.int .i64 (k + (j : Int))))
        have HST := Lib.hid hst
        clear hst hown hgr
        go_wp2
        go_roundw
        case rel => exact ⟨j + 1, by omega, by go_num, by simp; omega, HST.out, hg2⟩
        case measure => simp [intOf]; omega
      · obtain rfl : j = xs.length := by omega
        rw [markedTo_all] at hown
        go_wp2
        go_ret
        exact ⟨rfl, hown, hgr⟩
set_option maxRecDepth 100000 in
theorem heldIntS_any (v : Value) (n : Nat) (k : Int) (w : World) (h : Ints w v (marks k n)) (hn : n ≤ 1048576) (k0 : 0 ≤ k) (k1 : k ≤ 1073741824) :
    Calls Try.prog 40 #[v, .int .i64 k] w fun e w' => e = .returned (.int .i64 (k + (n : Int))) ∧ w = w' := by
  have H := Lib.hid h
  obtain ⟨a, cap, rfl⟩ := ints_len h
  clear h
  have hl := Lib.hid (marks_length k n)
  rw [hl.out]
  go_enter Try.func40, Try.ntmps40
  go_wp2
  go_loop [1, 5] (fun m i => ∃ j : Nat, j ≤ n ∧ i = .int .i64 j ∧ m = .int .i64 (k + (j : Int))) (fun _ i => n - (intOf i).toNat)
  case atStart => exact ⟨0, Nat.zero_le _, rfl, by simp⟩
  case round =>
    obtain ⟨j, hj, rfl, rfl⟩ := hrel
    by_cases hlt : j < n
    · obtain ⟨b, off, cap', hv, hbl, hc⟩ := ints_cell H.out (by rw [hl.out]; omega)
      rw [hl.out] at hv hc
      simp only [Value.slice.injEq] at hv
      obtain ⟨rfl, _, rfl⟩ := hv
      have hcell := hc j hlt
      rw [marks_at k n j hlt] at hcell
      have i1 : (0 : Int) ≤ (j : Int) := by omega
      have i2 : (j : Int) < (n : Int) := by omega
      clear hc
      go_wp2
      go_round
      case rel => exact ⟨j + 1, by omega, by go_num, by simp; omega⟩
      case measure => simp [intOf]; omega
    · obtain rfl : j = n := by omega
      go_wp2
      go_ret
      exact ⟨rfl, rfl⟩
end Go.Proofs.Ytdhglmoanpkeoaa
namespace Go.Proofs.Ytdhglmoanpkeoaa
open Go.RowKit
set_option linter.unusedVariables false
/-- A row: its number and its values. -/
abbrev RowD := Int × List Int
theorem szInt_yes (a : Option Addr) (cap n : Nat) (k : Int) (w : World) (h : (n : Int) ≤ k) (hk : k ≤ 1048576) :
    Calls Try.prog 55 #[.slice a n cap, .int .i64 k] w fun e w' => e = .returned (.int .i64 (k - (n : Int))) ∧ w' = w := by
  have h0 : ¬ k - (n : Int) < 0 := by omega
  go_enter Try.func55, Try.ntmps55
  go_wp2
  go_ret
  exact ⟨rfl, rfl⟩
theorem szInt_no (a : Option Addr) (cap n : Nat) (k : Int) (w : World) (h : k < (n : Int)) (hk : 0 ≤ k) (hn : (n : Int) ≤ 9223372036854775807) :
    Calls Try.prog 55 #[.slice a n cap, .int .i64 k] w fun e w' => e = .returned (.int .i64 (-1)) ∧ w' = w := by
  have h0 : k - (n : Int) < 0 := by omega
  go_enter Try.func55, Try.ntmps55
  go_wp2
  go_ret
  exact ⟨rfl, rfl⟩
end Go.Proofs.Ytdhglmoanpkeoaa
namespace Go.Proofs.Ytdhglmoanpkeoaa
end Go.Proofs.Ytdhglmoanpkeoaa
namespace Go.Proofs.Ytdhglmoanpkeoaa
open Go.RowKit
set_option linter.unusedVariables false
theorem ret_b {b c : Bool} (h : b = c) : Ending.returned (.bool b) = .returned (.bool c) := by rw [h]
theorem in_yes (a l h : Int) (w : World) (h1 : l ≤ a) (h2 : a ≤ h) : Calls Try.prog 29 #[.int .i64 a, .int .i64 l, .int .i64 h] w fun e w' => e = .returned (.bool true) ∧ w' = w := by
  go_enter Try.func29, Try.ntmps29
  go_wp2
  go_ret
  exact ⟨rfl, rfl⟩
theorem in_no (a l h : Int) (w : World) (hh : ¬ (l ≤ a ∧ a ≤ h)) : Calls Try.prog 29 #[.int .i64 a, .int .i64 l, .int .i64 h] w fun e w' => e = .returned (.bool false) ∧ w' = w := by
  by_cases h1 : l ≤ a
  · have h2 : ¬ a ≤ h := by omega
    clear hh
    go_enter Try.func29, Try.ntmps29
    go_wp2
    go_ret
    exact ⟨rfl, rfl⟩
  · clear hh
    go_enter Try.func29, Try.ntmps29
    go_wp2
    go_ret
    exact ⟨rfl, rfl⟩
/-! ### HasMember -/
/-! ### IsSet -/
end Go.Proofs.Ytdhglmoanpkeoaa
namespace Go.Proofs.Ytdhglmoanpkeoaa
open Go.RowKit
set_option linter.unusedVariables false
/-- Is it a row? -/
def rowB (r : RowD) : Bool := decide (0 ≤ r.1 ∧ r.1 ≤ 999) && (r.2.all (fun x => decide (0 ≤ x ∧ x ≤ 99)) && decide (r.2.length = 3))
theorem rowB_bad {id : Int} {xs : List Int} {k : Nat} (hk : k < xs.length) (h : ¬ (0 ≤ xs.getD k 0 ∧ xs.getD k 0 ≤ 99)) : rowB (id, xs) = false := by
  have e : xs.getD k 0 = xs[k] := by simp [List.getD, hk]
  rw [e] at h
  have : (xs.all fun x => decide (0 ≤ x ∧ x ≤ 99)) = false := by
    rw [Bool.eq_false_iff]
    intro g
    rw [List.all_eq_true] at g
    exact h (of_decide_eq_true (g _ (List.getElem_mem hk)))
  unfold rowB
  simp only [this]
  simp
theorem rowB_all {id : Int} {xs : List Int} (h : ∀ k, k < xs.length → 0 ≤ xs.getD k 0 ∧ xs.getD k 0 ≤ 99) : rowB (id, xs) = (decide (0 ≤ id ∧ id ≤ 999) && decide (xs.length = 3)) := by
  have : (xs.all fun x => decide (0 ≤ x ∧ x ≤ 99)) = true := by
    rw [List.all_eq_true]
    intro x hx
    obtain ⟨k, hk, rfl⟩ := List.getElem_of_mem hx
    have := h k hk
    have e : xs.getD k 0 = xs[k] := by simp [List.getD, hk]
    rw [e] at this
    exact decide_eq_true this
  unfold rowB
  simp only [this, Bool.true_and]
set_option maxHeartbeats 2000000 in
set_option maxRecDepth 100000 in
theorem specIsRow (id : Int) (vv : Value) (xs : List Int) (w : World) (h : Ints w vv xs) (hn : xs.length ≤ 1048576) :
    Calls Try.prog 118 #[.agg #[.int .i64 id, vv]] w fun e w' => e = .returned (.bool (rowB (id, xs))) ∧ Below w.heap.size w w' := by
  have H := Lib.hid h
  obtain ⟨a, cap, rfl⟩ := ints_len h
  clear h
  go_enter Try.func118, Try.ntmps118
  go_wp2
  have hb0 : Below w.heap.size w (w.alloc (.cells #[.int .i64 id, .slice a xs.length cap] 73)) := (Below.refl _ w).alloc (Nat.le_refl _) _
  have hc0 : (w.alloc (.cells #[.int .i64 id, .slice a xs.length cap] 73)).heap[w.heap.size]? = some (.cells #[.int .i64 id, .slice a xs.length cap] 73 (0, 0)) := heap_alloc_new w _
  have d0 := (cell_of_row _ _ 0 _ _ _ hc0).trans (show _ = some (Value.int .i64 id) from rfl)
  have d1 := (cell_of_row _ _ 1 _ _ _ hc0).trans (show _ = some (Value.slice a xs.length cap) from rfl)
  have H1 := Lib.hid (ints_below H.out hb0)
  have hlt1 : w.heap.size < (w.alloc (.cells #[.int .i64 id, .slice a xs.length cap] 73)).heap.size := by simp [World.size_alloc]
  generalize w.alloc (.cells #[.int .i64 id, .slice a xs.length cap] 73) = W at *
  clear hc0
  go_loopw [3] (fun i wr => ∃ k : Nat, k ≤ xs.length ∧ i = .int .i64 k ∧ Hid (∀ j, j < k → 0 ≤ xs.getD j 0 ∧ xs.getD j 0 ≤ 99) ∧ Below W.heap.size W wr) (fun i _ => xs.length - (intOf i).toNat)
  case atStart => exact ⟨0, Nat.zero_le _, rfl, Lib.hid (fun j hj => by omega), Below.refl _ _⟩
  case round =>
    obtain ⟨k, hk, rfl, hall, hbel⟩ := hrel
    have c0 := (hbel.cell (p := ⟨w.heap.size, 0, none⟩) hlt1).trans d0
    have c1 := (hbel.cell (p := ⟨w.heap.size, 1, none⟩) hlt1).trans d1
    by_cases hlt : k < xs.length
    · obtain ⟨b, off, cap', hv, hbl, hc⟩ := ints_cell H1.out (by omega)
      simp only [Value.slice.injEq] at hv
      obtain ⟨rfl, _, rfl⟩ := hv
      have hcell := (hbel.cell (p := ⟨b, off + k, none⟩) hbl).trans (hc k hlt)
      have i1 : (0 : Int) ≤ (k : Int) := by omega
      have i2 : (k : Int) < (xs.length : Int) := by omega
      clear hc
      by_cases hr : 0 ≤ xs.getD k 0 ∧ xs.getD k 0 ≤ 99
      · have HA : Hid (∀ j, j < k + 1 → 0 ≤ xs.getD j 0 ∧ xs.getD j 0 ≤ 99) := Lib.hid (fun j hj => by
          by_cases e : j = k
          · exact e ▸ hr
          · exact hall.out j (by omega))
        have HI := Lib.hid (fun w => in_yes (xs.getD k 0) 0 99 w hr.1 hr.2)
        clear hr hall
        generalize xs.getD k 0 = y at *
        go_wp2_with fail
        refine (HI.out _).mono ?_
        rintro e wx ⟨rfl, rfl⟩
        go_wp2
        go_roundw
        case rel => exact ⟨k + 1, by omega, by go_num, HA, hbel⟩
        case measure => simp [intOf]; omega
      · have HF := Lib.hid (rowB_bad (id := id) hlt hr)
        have HI := Lib.hid (fun w => in_no (xs.getD k 0) 0 99 w hr)
        clear hr hall
        generalize xs.getD k 0 = y at *
        go_wp2_with fail
        refine (HI.out _).mono ?_
        rintro e wx ⟨rfl, rfl⟩
        go_wp2
        go_ret
        exact ⟨ret_b HF.out.symm, hb0.trans (hbel.mono hb0.size)⟩
    · obtain rfl : k = xs.length := by omega
      have HF := Lib.hid (rowB_all (id := id) hall.out)
      clear hall
      by_cases hr : 0 ≤ id ∧ id ≤ 999
      · have HI := Lib.hid (fun w => in_yes id 0 999 w hr.1 hr.2)
        have HD := Lib.hid (decide_eq_true hr)
        rw [HD.out] at HF
        clear hr HD
        go_wp2_with fail
        refine (HI.out _).mono ?_
        rintro e wx ⟨rfl, rfl⟩
        by_cases h3 : xs.length = 3
        · have h3' : ((xs.length : Int) == 3) = true := by rw [beq_iff_eq]; omega
          have HE : Hid (rowB (id, xs) = true) := Lib.hid (by rw [HF.out, decide_eq_true h3]; rfl)
          clear h3
          go_wp2
          go_ret
          exact ⟨ret_b HE.out.symm, hb0.trans (hbel.mono hb0.size)⟩
        · have h3' : ((xs.length : Int) == 3) = false := by rw [beq_eq_false_iff_ne]; omega
          have HE : Hid (rowB (id, xs) = false) := Lib.hid (by rw [HF.out, decide_eq_false h3]; rfl)
          clear h3
          go_wp2
          go_ret
          exact ⟨ret_b HE.out.symm, hb0.trans (hbel.mono hb0.size)⟩
      · have HI := Lib.hid (fun w => in_no id 0 999 w hr)
        have HE : Hid (rowB (id, xs) = false) := Lib.hid (by rw [HF.out, decide_eq_false hr]; rfl)
        clear hr HF
        go_wp2_with fail
        refine (HI.out _).mono ?_
        rintro e wx ⟨rfl, rfl⟩
        go_wp2
        go_ret
        exact ⟨ret_b HE.out.symm, hb0.trans (hbel.mono hb0.size)⟩
end Go.Proofs.Ytdhglmoanpkeoaa
namespace Go.Proofs.Ytdhglmoanpkeoaa
open Go.RowKit
set_option linter.unusedVariables false
/-- The slice v reads as the rows rs; vs: where their values lie. -/
def RowsR (w : World) (v : Value) (rs : List RowD) : Prop :=
  (rs = [] ∧ ∃ a cap, v = .slice a 0 cap) ∨ ∃ (b off cap : Nat) (vs : Nat → Value), v = .slice (some ⟨b, off, none⟩) rs.length cap ∧ rs.length ≤ cap ∧ b < w.heap.size ∧
    ∀ j, j < rs.length → w.cell? ⟨b, off + j * 2, none⟩ = some (.int .i64 (rs.getD j (0, [])).1) ∧ w.cell? ⟨b, off + j * 2 + 1, none⟩ = some (vs j) ∧ Ints w (vs j) (rs.getD j (0, [])).2
end Go.Proofs.Ytdhglmoanpkeoaa
namespace Go.Proofs.Ytdhglmoanpkeoaa
open Go.RowKit
set_option linter.unusedVariables false
/-- The slice v owns the rows rs, in blocks from B on, each block once. -/
def OwnsR (w : World) (B : Nat) (v : Value) (rs : List RowD) : Prop :=
  ∃ (cs : List Value) (vs : Nat → Value), w.ownsRow B 73 2 v rs.length cs ∧
    (∀ j, j < rs.length → cs[j * 2]? = some (.int .i64 (rs.getD j (0, [])).1) ∧ cs[j * 2 + 1]? = some (vs j) ∧ OwnsN w B (vs j) (rs.getD j (0, [])).2 ∧ ∀ b, (vs j).ownBlock = some b → v.ownBlock ≠ some b) ∧
    ∀ i j, i < rs.length → j < rs.length → i ≠ j → ∀ b, (vs i).ownBlock = some b → (vs j).ownBlock ≠ some b
end Go.Proofs.Ytdhglmoanpkeoaa
namespace Go.Proofs.Ytdhglmoanpkeoaa
open Go.RowKit
set_option linter.unusedVariables false
theorem below_drew {B : Nat} {a w : World} (h : Below B a w) : Below B a w.drew := ⟨h.os, h.tape, h.output, h.size, h.block⟩
end Go.Proofs.Ytdhglmoanpkeoaa
namespace Go.Proofs.Ytdhglmoanpkeoaa
open Go.RowKit
set_option linter.unusedVariables false
end Go.Proofs.Ytdhglmoanpkeoaa
namespace Go.Proofs.Ytdhglmoanpkeoaa
open Go.RowKit
set_option linter.unusedVariables false
end Go.Proofs.Ytdhglmoanpkeoaa
namespace Go.Proofs.Ytdhglmoanpkeoaa
open Go.RowKit
set_option linter.unusedVariables false
theorem take_runs {P : Program} {ops : Array Oper} {Q : Exit → Act → World → Prop} {md : Region.Mode} {S : World → Prop} {i : Nat} {oi : Oper} {d : Option Tmp} {v : Value} {fuel : Nat} {listed : Array Bool} {a : Act} {w : World} (hi : ops[i]? = some oi)
    (hs : Region.noSelect ops = true) (hf : Region.free md ops listed i = true) (hr : (Region.ready md ops listed).contains i = true) (hd : oi.dst = d)
    (hQ : ∀ c a w, Q (.panic c) (a.put oi.dst v) w → Q (.panic c) a w) (hw : Region.wanted oi (yielded ops a.tmps) = true) (hy : ∀ w, S w → (execOp a.eval oi).run P w = .ok (.value v) w) (hS : S w)
    (h : wpAnyH P md ops Q S fuel (listed.setIfInBounds i true) (a.put d v) w) : wpAnyH P md ops Q S (fuel + 1) listed a w := by
  subst hd
  exact wpAnyH_take hi hs hf hr hQ (Or.inl ⟨hw, hy⟩) hS h
theorem take_over {P : Program} {ops : Array Oper} {Q : Exit → Act → World → Prop} {md : Region.Mode} {S : World → Prop} {i : Nat} {oi : Oper} {d : Option Tmp} {fuel : Nat} {listed : Array Bool} {a : Act} {w : World} (hi : ops[i]? = some oi)
    (hs : Region.noSelect ops = true) (hf : Region.free md ops listed i = true) (hr : (Region.ready md ops listed).contains i = true) (hd : oi.dst = d)
    (hQ : ∀ c a w, Q (.panic c) (a.put oi.dst undef) w → Q (.panic c) a w) (hw : Region.wanted oi (yielded ops a.tmps) = false) (hS : S w)
    (h : wpAnyH P md ops Q S fuel (listed.setIfInBounds i true) (a.put d undef) w) : wpAnyH P md ops Q S (fuel + 1) listed a w := by
  subst hd
  exact wpAnyH_take hi hs hf hr hQ (Or.inr ⟨hw, rfl⟩) hS h
end Go.Proofs.Ytdhglmoanpkeoaa
namespace Go.Proofs.Ytdhglmoanpkeoaa
open Go.RowKit
set_option linter.unusedVariables false
set_option linter.unusedSimpArgs false
/-- Are they rows? -/
def areB (rs : List RowD) : Bool := (List.range rs.length).all (fun i => rowB (rs.getD i (0, [])) && (decide (i = 0) || decide ((rs.getD (i - 1) (0, [])).1 < (rs.getD i (0, [])).1))) && decide (rs.length ≤ 32)
end Go.Proofs.Ytdhglmoanpkeoaa
namespace Go.Proofs.Ytdhglmoanpkeoaa
open Go.RowKit
set_option linter.unusedVariables false
set_option linter.unusedSimpArgs false
end Go.Proofs.Ytdhglmoanpkeoaa
namespace Go.Proofs.Ytdhglmoanpkeoaa
open Go.RowKit
set_option linter.unusedVariables false
end Go.Proofs.Ytdhglmoanpkeoaa
namespace Go.Proofs.Ytdhglmoanpkeoaa
open Go.RowKit
set_option linter.unusedVariables false
set_option linter.unusedSimpArgs false
end Go.Proofs.Ytdhglmoanpkeoaa
namespace Go.Proofs.Ytdhglmoanpkeoaa
open Go.RowKit
set_option linter.unusedVariables false
/-- Only blocks from B up to hi have turned. -/
structure Only (B hi : Nat) (w w' : World) : Prop where
  os : w'.os = w.os
  tape : w'.tape = w.tape
  output : w'.output = w.output
  size : w.heap.size ≤ w'.heap.size
  block : ∀ k, k < w.heap.size → (k < B ∨ hi ≤ k) → w'.heap[k]? = w.heap[k]?
theorem Only.refl (B hi : Nat) (w : World) : Only B hi w w := ⟨rfl, rfl, rfl, Nat.le_refl _, fun _ _ _ => rfl⟩
theorem Only.trans {B hi : Nat} {a b c : World} (h : Only B hi a b) (k : Only B hi b c) : Only B hi a c :=
  ⟨k.os.trans h.os, k.tape.trans h.tape, k.output.trans h.output, Nat.le_trans h.size k.size, fun i hi' hn => (k.block i (Nat.lt_of_lt_of_le hi' h.size) hn).trans (h.block i hi' hn)⟩
end Go.Proofs.Ytdhglmoanpkeoaa
namespace Go.Proofs.Ytdhglmoanpkeoaa
open Go.RowKit
set_option linter.unusedVariables false
end Go.Proofs.Ytdhglmoanpkeoaa
namespace Go.Proofs.Ytdhglmoanpkeoaa
open Go.RowKit
set_option linter.unusedVariables false
end Go.Proofs.Ytdhglmoanpkeoaa
namespace Go.Proofs.Ytdhglmoanpkeoaa
open Go.RowKit
set_option linter.unusedVariables false
set_option linter.unusedSimpArgs false
/-- A version: its number, values, birth and death. -/
abbrev VerD := Int × List Int × Int × Int
def v0D : VerD := (0, [], 0, 0)
def visP (born died t : Int) : Prop := born ≤ t ∧ (died = -1 ∨ t < died)
instance (a b c : Int) : Decidable (visP a b c) := by unfold visP; infer_instance
def visB (v : VerD) (t : Int) : Bool := decide (visP v.2.2.1 v.2.2.2 t)
def lifeP (born died now : Int) : Prop := 0 ≤ born ∧ born ≤ now ∧ (died = -1 ∨ born < died ∧ died ≤ now)
instance (a b c : Int) : Decidable (lifeP a b c) := by unfold lifeP; infer_instance
def verB (v : VerD) (now : Int) : Bool := rowB (v.1, v.2.1) && decide (lifeP v.2.2.1 v.2.2.2 now)
def apartP (i1 b1 d1 i2 b2 d2 : Int) : Prop := i1 ≠ i2 ∨ (d1 ≠ -1 ∧ d1 ≤ b2) ∨ (d2 ≠ -1 ∧ d2 ≤ b1)
instance (a b c d e f : Int) : Decidable (apartP a b c d e f) := by unfold apartP; infer_instance
def apartB (a b : VerD) : Bool := decide (apartP a.1 a.2.2.1 a.2.2.2 b.1 b.2.2.1 b.2.2.2)
/-- Two valid versions are apart iff they are not seen together when the later one is born. -/
def seenP (i1 b1 d1 i2 b2 d2 : Int) : Prop := i1 = i2 ∧ visP b1 d1 (max b1 b2) ∧ visP b2 d2 (max b1 b2)
instance (a b c d e f : Int) : Decidable (seenP a b c d e f) := by unfold seenP; infer_instance
def seenB (a b : VerD) : Bool := decide (seenP a.1 a.2.2.1 a.2.2.2 b.1 b.2.2.1 b.2.2.2)
theorem seen_apart {i1 b1 d1 i2 b2 d2 now : Int} (h1 : lifeP b1 d1 now) (h2 : lifeP b2 d2 now) : seenP i1 b1 d1 i2 b2 d2 ↔ ¬ apartP i1 b1 d1 i2 b2 d2 := by
  unfold seenP apartP visP
  unfold lifeP at h1 h2
  omega
theorem ver_life {v : VerD} {now : Int} (h : verB v now = true) : lifeP v.2.2.1 v.2.2.2 now := by
  unfold verB at h
  rw [Bool.and_eq_true] at h
  exact of_decide_eq_true h.2
theorem seenB_apart {a b : VerD} {now : Int} (h1 : verB a now = true) (h2 : verB b now = true) : seenB a b = !apartB a b := by
  unfold seenB apartB
  by_cases h : apartP a.1 a.2.2.1 a.2.2.2 b.1 b.2.2.1 b.2.2.2
  · rw [decide_eq_true h, decide_eq_false (fun g => (seen_apart (ver_life h1) (ver_life h2)).1 g h)]; rfl
  · rw [decide_eq_false h, decide_eq_true ((seen_apart (ver_life h1) (ver_life h2)).2 h)]; rfl
/-- The first n versions are valid and apart. -/
def VersP (l : List VerD) (now : Int) (n : Nat) : Prop := ∀ i, i < n → verB (l.getD i v0D) now = true ∧ ∀ k, k < i → apartB (l.getD i v0D) (l.getD k v0D) = true
instance (l : List VerD) (now : Int) (n : Nat) : Decidable (VersP l now n) := by unfold VersP; infer_instance
def ShortP (ss : List (List VerD)) (n : Nat) : Prop := ∀ i, i < n → (ss.getD i []).length ≤ 4
instance (ss : List (List VerD)) (n : Nat) : Decidable (ShortP ss n) := by unfold ShortP; infer_instance
def storeP (ss : List (List VerD)) (now : Int) : Prop := ((1 ≤ ss.length ∧ ss.length ≤ 8) ∧ (0 ≤ now ∧ now ≤ 100000)) ∧ ShortP ss ss.length ∧ VersP ss.flatten now ss.flatten.length
instance (ss : List (List VerD)) (now : Int) : Decidable (storeP ss now) := by unfold storeP; infer_instance
def storeB (ss : List (List VerD)) (now : Int) : Bool := decide (storeP ss now)
theorem vers_step {l : List VerD} {now : Int} {n : Nat} (h : VersP l now n) (h1 : verB (l.getD n v0D) now = true) (h2 : ∀ k, k < n → apartB (l.getD n v0D) (l.getD k v0D) = true) : VersP l now (n + 1) := fun i hi => by
  by_cases e : i = n
  · subst e; exact ⟨h1, h2⟩
  · exact h i (by omega)
theorem store_no_count {ss : List (List VerD)} {now : Int} (h : ¬ (1 ≤ ss.length ∧ ss.length ≤ 8)) : storeB ss now = false := decide_eq_false (fun g => h g.1.1)
theorem store_no_now {ss : List (List VerD)} {now : Int} (h : ¬ (0 ≤ now ∧ now ≤ 100000)) : storeB ss now = false := decide_eq_false (fun g => h g.1.2)
theorem store_no_short {ss : List (List VerD)} {now : Int} {i : Nat} (hi : i < ss.length) (h : ¬ (ss.getD i []).length ≤ 4) : storeB ss now = false := decide_eq_false (fun g => h (g.2.1 i hi))
theorem store_no_ver {ss : List (List VerD)} {now : Int} {i : Nat} (hi : i < ss.flatten.length) (h : verB (ss.flatten.getD i v0D) now = false) : storeB ss now = false := decide_eq_false (fun g => by
  have := (g.2.2 i hi).1; rw [h] at this; cases this)
theorem store_no_apart {ss : List (List VerD)} {now : Int} {i k : Nat} (hi : i < ss.flatten.length) (hk : k < i) (h : apartB (ss.flatten.getD i v0D) (ss.flatten.getD k v0D) = false) : storeB ss now = false := decide_eq_false (fun g => by
  have := (g.2.2 i hi).2 k hk; rw [h] at this; cases this)
theorem store_yes {ss : List (List VerD)} {now : Int} (h1 : 1 ≤ ss.length ∧ ss.length ≤ 8) (h2 : 0 ≤ now ∧ now ≤ 100000) (h3 : ShortP ss ss.length) (h4 : VersP ss.flatten now ss.flatten.length) : storeB ss now = true := decide_eq_true ⟨⟨h1, h2⟩, h3, h4⟩
theorem store_iff {ss : List (List VerD)} {now : Int} (h : storeB ss now = true) : storeP ss now := of_decide_eq_true h
/-- The segments as far as k, one behind the other. -/
def cat (ss : List (List VerD)) (k : Nat) : List VerD := (ss.take k).flatten
theorem cat_zero (ss : List (List VerD)) : cat ss 0 = [] := by simp [cat]
theorem cat_all (ss : List (List VerD)) : cat ss ss.length = ss.flatten := by simp [cat]
theorem cat_step {ss : List (List VerD)} {k : Nat} (h : k < ss.length) : cat ss k ++ ss.getD k [] = cat ss (k + 1) := by
  unfold cat
  have e : ss.getD k [] = ss[k] := by simp [List.getD, h]
  rw [e, List.take_succ_eq_append_getElem h, List.flatten_append]
  simp
theorem cat_len {ss : List (List VerD)} {k : Nat} (h : k < ss.length) : (cat ss (k + 1)).length = (cat ss k).length + (ss.getD k []).length := by rw [← cat_step h, List.length_append]
theorem cat_le (ss : List (List VerD)) (k : Nat) : (cat ss k).length ≤ ss.flatten.length := by
  unfold cat
  have e : ss.flatten = (ss.take k).flatten ++ (ss.drop k).flatten := by rw [← List.flatten_append, List.take_append_drop]
  rw [e, List.length_append]; omega
theorem cat_at {ss : List (List VerD)} {k i : Nat} (h : i < (cat ss k).length) : ss.flatten.getD i v0D = (cat ss k).getD i v0D := by
  unfold cat at h ⊢
  have e : ss.flatten = (ss.take k).flatten ++ (ss.drop k).flatten := by rw [← List.flatten_append, List.take_append_drop]
  rw [e]
  simp only [List.getD, List.getElem?_append_left h]
theorem cat_in {ss : List (List VerD)} {k j : Nat} (h : k < ss.length) (hj : j < (ss.getD k []).length) : ss.flatten.getD ((cat ss k).length + j) v0D = (ss.getD k []).getD j v0D := by
  have hl := cat_len h
  rw [cat_at (k := k + 1) (by omega), ← cat_step h]
  simp only [List.getD]
  rw [List.getElem?_append_right (by omega), Nat.add_sub_cancel_left]
/-- The rows that a time shows of versions. -/
def rowOfV (v : VerD) : RowD := (v.1, v.2.1)
def rowsV (l : List VerD) (t : Int) : List RowD := (l.filter (fun v => visB v t)).map rowOfV
theorem rowsV_app (a b : List VerD) (t : Int) : rowsV (a ++ b) t = rowsV a t ++ rowsV b t := by unfold rowsV; rw [List.filter_append, List.map_append]
theorem take_getD {l : List VerD} {k : Nat} (h : k < l.length) : l.take (k + 1) = l.take k ++ [l.getD k v0D] := by
  have e : l.getD k v0D = l[k] := by simp [List.getD, h]
  rw [e, List.take_succ_eq_append_getElem h]
theorem rowsV_yes {l : List VerD} {t : Int} {k : Nat} (h : k < l.length) (g : visB (l.getD k v0D) t = true) : rowsV (l.take (k + 1)) t = rowsV (l.take k) t ++ [rowOfV (l.getD k v0D)] := by
  rw [take_getD h, rowsV_app]
  generalize l.getD k v0D = v at *
  simp [rowsV, g]
theorem rowsV_no {l : List VerD} {t : Int} {k : Nat} (h : k < l.length) (g : visB (l.getD k v0D) t = false) : rowsV (l.take (k + 1)) t = rowsV (l.take k) t := by
  rw [take_getD h, rowsV_app]
  generalize l.getD k v0D = v at *
  simp [rowsV, g]
theorem rowsV_len (l : List VerD) (t : Int) : (rowsV l t).length ≤ l.length := by unfold rowsV; rw [List.length_map]; exact List.length_filter_le _ _
theorem rowsV_take (l : List VerD) (t : Int) (k : Nat) : (rowsV (l.take k) t).length ≤ l.length := Nat.le_trans (rowsV_len _ _) (by rw [List.length_take]; omega)
def segRowsL (ss : List (List VerD)) (now g t : Int) : List RowD := if storeB ss now ∧ 0 ≤ g ∧ g < ss.length then rowsV (ss.getD g.toNat []) t else []
end Go.Proofs.Ytdhglmoanpkeoaa
namespace Go.Proofs.Ytdhglmoanpkeoaa
open Go.RowKit
set_option linter.unusedVariables false
set_option linter.unusedSimpArgs false
set_option maxHeartbeats 4000000 in
set_option maxRecDepth 100000 in
theorem specVisible (id born died t : Int) (vv : Value) (w : World) :
    Calls Try.prog 82 #[.agg #[.int .i64 id, vv, .int .i64 born, .int .i64 died], .int .i64 t] w fun e w' => e = .returned (.bool (decide (visP born died t))) ∧ Below w.heap.size w w' := by
  have hb : Below w.heap.size w (w.alloc (.cells #[.int .i64 id, vv, .int .i64 born, .int .i64 died] 115)) := (Below.refl _ w).alloc (Nat.le_refl _) _
  by_cases h1 : born ≤ t
  · by_cases h2 : died = -1
    · have HD : Hid (decide (visP born died t) = true) := Lib.hid (decide_eq_true ⟨h1, Or.inl h2⟩)
      have e2 : (died == -1) = true := by simp [h2]
      clear h2
      rw [HD.out]
      go_enter Try.func82, Try.ntmps82
      go_wp2
      go_ret
      exact ⟨rfl, hb⟩
    · have e2 : (died == -1) = false := by simp [h2]
      by_cases h3 : t < died
      · have HD : Hid (decide (visP born died t) = true) := Lib.hid (decide_eq_true ⟨h1, Or.inr h3⟩)
        clear h2
        rw [HD.out]
        go_enter Try.func82, Try.ntmps82
        go_wp2
        go_ret
        exact ⟨ret_b (by simp [h3]), hb⟩
      · have HD : Hid (decide (visP born died t) = false) := Lib.hid (decide_eq_false (fun g => by unfold visP at g; omega))
        have e3 : decide (t < died) = false := decide_eq_false h3
        clear h2
        rw [HD.out]
        go_enter Try.func82, Try.ntmps82
        go_wp2
        go_ret
        exact ⟨ret_b (by simp [h3]), hb⟩
  · have HD : Hid (decide (visP born died t) = false) := Lib.hid (decide_eq_false (fun g => h1 g.1))
    rw [HD.out]
    go_enter Try.func82, Try.ntmps82
    go_wp2
    go_ret
    exact ⟨rfl, hb⟩
end Go.Proofs.Ytdhglmoanpkeoaa
namespace Go.Proofs.Ytdhglmoanpkeoaa
open Go.RowKit
set_option linter.unusedVariables false
set_option linter.unusedSimpArgs false
/-- Only blocks in G, of those that were there, have turned. -/
structure Turn (G : Nat → Prop) (w w' : World) : Prop where
  os : w'.os = w.os
  tape : w'.tape = w.tape
  output : w'.output = w.output
  size : w.heap.size ≤ w'.heap.size
  block : ∀ k, k < w.heap.size → ¬ G k → w'.heap[k]? = w.heap[k]?
theorem Turn.refl (G : Nat → Prop) (w : World) : Turn G w w := ⟨rfl, rfl, rfl, Nat.le_refl _, fun _ _ _ => rfl⟩
theorem Turn.trans {G : Nat → Prop} {a b c : World} (h : Turn G a b) (k : Turn G b c) : Turn G a c :=
  ⟨k.os.trans h.os, k.tape.trans h.tape, k.output.trans h.output, Nat.le_trans h.size k.size, fun i hi hn => (k.block i (Nat.lt_of_lt_of_le hi h.size) hn).trans (h.block i hi hn)⟩
theorem Turn.mono {G G' : Nat → Prop} {a b : World} (h : Turn G a b) (hg : ∀ k, G k → G' k) : Turn G' a b :=
  ⟨h.os, h.tape, h.output, h.size, fun i hi hn => h.block i hi (fun g => hn (hg i g))⟩
theorem turn_grown {G : Nat → Prop} {w w' : World} {row : Option Nat} (h : w.grownBy w' row) (hr : ∀ b, row = some b → G b) : Turn G w w' :=
  ⟨h.os, h.tape, h.output, h.size, fun k hk hn => h.block k hk (fun e => hn (hr k e.symm))⟩
theorem turn_below {G : Nat → Prop} {w w' : World} (h : Below w.heap.size w w') : Turn G w w' := ⟨h.os, h.tape, h.output, h.size, fun k hk _ => h.block k hk⟩
theorem turn_set {G : Nat → Prop} {w : World} {g j : Nat} {u : Value} (h : G g) : Turn G w (w.setCell ⟨g, j, none⟩ u) :=
  ⟨rfl, rfl, rfl, by simp [World.setCell], fun k hk hn => Below.heap_setCell w _ u k (fun e => hn (by rw [e]; exact h))⟩
theorem below_turn {B : Nat} {G : Nat → Prop} {a w w' : World} (h : Below B a w) (k : Turn G w w') (hG : ∀ b, G b → B ≤ b) (hs : B ≤ w.heap.size) : Below B a w' :=
  h.trans ⟨k.os, k.tape, k.output, k.size, fun i hi => k.block i (by omega) (fun g => by have := hG i g; omega)⟩
theorem row_turn {w w' : World} {G : Nat → Prop} {B : Nat} {e : TypeId} {size : Nat} {u : Value} {n : Nat} {xs : List Value} (h : w.ownsRow B e size u n xs) (k : Turn G w w') (hd : ∀ b, u.ownBlock = some b → ¬ G b) : w'.ownsRow B e size u n xs := by
  refine ⟨h.1, ?_⟩
  rcases h.2 with hn | ⟨g, cap, cur, rfl, hb', hg, rest⟩
  · exact .inl hn
  · refine .inr ⟨g, cap, cur, rfl, hb', ?_, rest⟩
    rw [k.block g (Array.getElem?_eq_some_iff.1 hg).1 (hd g rfl)]
    exact hg
theorem row_low {w : World} {B C : Nat} {e : TypeId} {size : Nat} {v : Value} {n : Nat} {xs : List Value} (h : w.ownsRow C e size v n xs) (hb : B ≤ C) : w.ownsRow B e size v n xs := by
  refine ⟨h.1, ?_⟩
  rcases h.2 with hn | ⟨g, cap, cur, e, hb', rest⟩
  · exact .inl hn
  · exact .inr ⟨g, cap, cur, e, Nat.le_trans hb hb', rest⟩
theorem row_form {w : World} {B : Nat} {e : TypeId} {size : Nat} {v : Value} {n : Nat} {xs : List Value} (h : w.ownsRow B e size v n xs) : (v = .slice none 0 0 ∧ n = 0) ∨ ∃ g cap, v = .slice (some ⟨g, 0, none⟩) n cap ∧ g < w.heap.size := by
  rcases h.2 with h' | ⟨g, cap, cur, rfl, hb, hg, _⟩
  · exact .inl h'
  · exact .inr ⟨g, cap, rfl, (Array.getElem?_eq_some_iff.1 hg).1⟩
/-- A kind of data: how many cells; what is read; what is owned, in blocks of the set; size; marks (nd, md: in memory, numbers too; nv, mv: by value); lengths that a slice can have; how many numbers lie in the cells. -/
structure Ty (α : Type) where
  n : Nat
  d : α
  R : World → List Value → α → Prop
  O : World → (Nat → Prop) → List Value → α → Prop
  sz : α → Nat
  nd : α → Nat
  nv : α → Nat
  md : α → Int → α
  mv : α → Int → α
  ok : α → Prop
  s : Nat
structure Ty.Law {α : Type} (T : Ty α) : Prop where
  pos : 0 < T.n
  len : ∀ {w cs x}, T.R w cs x → cs.length = T.n
  below : ∀ {W w cs x}, T.R W cs x → Below W.heap.size W w → T.R w cs x
  reads : ∀ {w F cs x}, T.O w F cs x → T.R w cs x
  turn : ∀ {w w' F G cs x}, T.O w F cs x → Turn G w w' → (∀ b, F b → ¬ G b) → T.O w' F cs x
  mono : ∀ {w F F' cs x}, T.O w F cs x → (∀ b, F b → F' b) → T.O w F' cs x
  lt : ∀ {w F cs x}, T.O w F cs x → T.O w (fun b => F b ∧ b < w.heap.size) cs x
  nd_le : ∀ x, T.nd x ≤ 16 * T.sz x + T.s
  nv_le : ∀ x, T.nv x ≤ 16 * T.sz x
/- Numbers. -/
def tInt : Ty Int := { n := 1, d := 0, R := fun _ cs x => cs = [.int .i64 x], O := fun _ _ cs x => cs = [.int .i64 x], sz := fun _ => 0, nd := fun _ => 1, nv := fun _ => 0, md := fun _ k => k, mv := fun x _ => x, ok := fun _ => True, s := 1 }
theorem tInt_law : tInt.Law := ⟨by decide, fun h => by cases h; rfl, fun h _ => h, fun h => h, fun h _ _ => h, fun h _ => h, fun h => h, fun x => Nat.le_refl _, fun x => Nat.le_refl _⟩
/- Pairs. -/
def tPair {α β : Type} (a : Ty α) (b : Ty β) : Ty (α × β) where
  n := a.n + b.n
  d := (a.d, b.d)
  R := fun w cs p => ∃ c1 c2, cs = c1 ++ c2 ∧ a.R w c1 p.1 ∧ b.R w c2 p.2
  O := fun w F cs p => ∃ c1 c2 F1 F2, cs = c1 ++ c2 ∧ a.O w F1 c1 p.1 ∧ b.O w F2 c2 p.2 ∧ (∀ k, F1 k → F k) ∧ (∀ k, F2 k → F k) ∧ ∀ k, F1 k → ¬ F2 k
  sz := fun p => a.sz p.1 + b.sz p.2
  nd := fun p => a.nd p.1 + b.nd p.2
  nv := fun p => a.nv p.1 + b.nv p.2
  md := fun p k => (a.md p.1 k, b.md p.2 (k + (a.nd p.1 : Int)))
  mv := fun p k => (a.mv p.1 k, b.mv p.2 (k + (a.nv p.1 : Int)))
  ok := fun p => a.ok p.1 ∧ b.ok p.2
  s := a.s + b.s
theorem tPair_law {α β : Type} {a : Ty α} {b : Ty β} (A : a.Law) (B : b.Law) : (tPair a b).Law where
  pos := by have := A.pos; show 0 < a.n + b.n; omega
  len := fun {w cs x} h => by
    obtain ⟨c1, c2, rfl, h1, h2⟩ := h
    rw [List.length_append, A.len h1, B.len h2]; rfl
  below := fun {W w cs x} h hb => by
    obtain ⟨c1, c2, e, h1, h2⟩ := h
    exact ⟨c1, c2, e, A.below h1 hb, B.below h2 hb⟩
  reads := fun {w F cs x} h => by
    obtain ⟨c1, c2, F1, F2, e, h1, h2, _⟩ := h
    exact ⟨c1, c2, e, A.reads h1, B.reads h2⟩
  turn := fun {w w' F G cs x} h k hd => by
    obtain ⟨c1, c2, F1, F2, e, h1, h2, h3, h4, h5⟩ := h
    exact ⟨c1, c2, F1, F2, e, A.turn h1 k (fun b g => hd b (h3 b g)), B.turn h2 k (fun b g => hd b (h4 b g)), h3, h4, h5⟩
  mono := fun {w F F' cs x} h hf => by
    obtain ⟨c1, c2, F1, F2, e, h1, h2, h3, h4, h5⟩ := h
    exact ⟨c1, c2, F1, F2, e, h1, h2, fun k g => hf k (h3 k g), fun k g => hf k (h4 k g), h5⟩
  lt := fun {w F cs x} h => by
    obtain ⟨c1, c2, F1, F2, e, h1, h2, h3, h4, h5⟩ := h
    exact ⟨c1, c2, _, _, e, A.lt h1, B.lt h2, fun k g => ⟨h3 k g.1, g.2⟩, fun k g => ⟨h4 k g.1, g.2⟩, fun k g g' => h5 k g.1 g'.1⟩
  nd_le := fun x => by
    have h1 := A.nd_le x.1; have h2 := B.nd_le x.2
    show a.nd x.1 + b.nd x.2 ≤ 16 * (a.sz x.1 + b.sz x.2) + (a.s + b.s); omega
  nv_le := fun x => by
    have h1 := A.nv_le x.1; have h2 := B.nv_le x.2
    show a.nv x.1 + b.nv x.2 ≤ 16 * (a.sz x.1 + b.sz x.2); omega
theorem tPair_md {α β : Type} (a : Ty α) (b : Ty β) (p : α × β) (k : Int) : (tPair a b).md p k = (a.md p.1 k, b.md p.2 (k + (a.nd p.1 : Int))) := rfl
theorem tPair_mv {α β : Type} (a : Ty α) (b : Ty β) (p : α × β) (k : Int) : (tPair a b).mv p k = (a.mv p.1 k, b.mv p.2 (k + (a.nv p.1 : Int))) := rfl
theorem tPair_sz {α β : Type} (a : Ty α) (b : Ty β) (p : α × β) : (tPair a b).sz p = a.sz p.1 + b.sz p.2 := rfl
theorem tPair_nd {α β : Type} (a : Ty α) (b : Ty β) (p : α × β) : (tPair a b).nd p = a.nd p.1 + b.nd p.2 := rfl
theorem tPair_nv {α β : Type} (a : Ty α) (b : Ty β) (p : α × β) : (tPair a b).nv p = a.nv p.1 + b.nv p.2 := rfl
theorem tInt_md (x k : Int) : tInt.md x k = k := rfl
theorem tInt_mv (x k : Int) : tInt.mv x k = x := rfl
theorem tInt_sz (x : Int) : tInt.sz x = 0 := rfl
theorem tInt_nd (x : Int) : tInt.nd x = 1 := rfl
theorem tInt_nv (x : Int) : tInt.nv x = 0 := rfl
/- Slices. -/
section
variable {α : Type}
def SlR (T : Ty α) (w : World) (v : Value) (xs : List α) : Prop :=
  (xs = [] ∧ ∃ a cap, v = .slice a 0 cap) ∨ ∃ (b off cap : Nat) (us : Nat → List Value), v = .slice (some ⟨b, off, none⟩) xs.length cap ∧ xs.length ≤ cap ∧ b < w.heap.size ∧
    ∀ j, j < xs.length → (∀ i, i < T.n → w.cell? ⟨b, off + j * T.n + i, none⟩ = (us j)[i]?) ∧ T.R w (us j) (xs.getD j T.d)
def SlO (e : TypeId) (T : Ty α) (w : World) (F : Nat → Prop) (v : Value) (xs : List α) : Prop :=
  ∃ (L : List Value) (us : Nat → List Value) (Fs : Nat → Nat → Prop), w.ownsRow 0 e T.n v xs.length L ∧ (∀ b, v.ownBlock = some b → F b) ∧
    (∀ j, j < xs.length → (∀ i, i < T.n → L[j * T.n + i]? = (us j)[i]?) ∧ T.O w (Fs j) (us j) (xs.getD j T.d) ∧ ∀ b, Fs j b → F b ∧ v.ownBlock ≠ some b) ∧
    ∀ i j, i < xs.length → j < xs.length → i ≠ j → ∀ b, Fs i b → ¬ Fs j b
def sumN (f : α → Nat) (xs : List α) (k : Nat) : Nat := ((xs.take k).map f).sum
theorem sumN_zero (f : α → Nat) (xs : List α) : sumN f xs 0 = 0 := by simp [sumN]
theorem sumN_step (f : α → Nat) {xs : List α} {k : Nat} (d : α) (hk : k < xs.length) : sumN f xs (k + 1) = sumN f xs k + f (xs.getD k d) := by
  unfold sumN
  have e : xs.getD k d = xs[k] := by simp [List.getD, hk]
  rw [e, List.take_succ_eq_append_getElem hk, List.map_append, List.sum_append]
  simp
theorem sumN_le (f : α → Nat) {xs : List α} {k : Nat} (hk : k ≤ xs.length) : sumN f xs k ≤ sumN f xs xs.length := by
  unfold sumN
  have e : xs.take xs.length = xs.take k ++ xs.drop k := by rw [List.take_length, List.take_append_drop]
  rw [e, List.map_append, List.sum_append]
  omega
theorem sum_map_le {f g : α → Nat} {c s : Nat} (h : ∀ x, f x ≤ c * g x + s) : ∀ xs : List α, (xs.map f).sum ≤ c * (xs.map g).sum + s * xs.length
  | [] => by simp
  | x :: xs => by
    have h1 := h x
    have h2 := sum_map_le h xs
    simp only [List.map_cons, List.sum_cons, List.length_cons, Nat.mul_add, Nat.mul_one]
    omega
/-- The mark with which element j begins. -/
def kAt (T : Ty α) (xs : List α) (k : Int) (j : Nat) : Int := k + (sumN T.nd xs j : Int)
def mAt (T : Ty α) (xs : List α) (k : Int) (j : Nat) : α := T.md (xs.getD j T.d) (kAt T xs k j)
def mTo (T : Ty α) (xs : List α) (k : Int) (j : Nat) : List α := (List.range j).map (mAt T xs k) ++ xs.drop j
def mAll (T : Ty α) (xs : List α) (k : Int) : List α := (List.range xs.length).map (mAt T xs k)
def zTo (T : Ty α) (xs : List α) (k : Nat) : Nat := xs.length + sumN T.sz xs k
def zL (T : Ty α) (xs : List α) : Nat := zTo T xs xs.length
def ndL (T : Ty α) (xs : List α) : Nat := sumN T.nd xs xs.length
def tSl (e : TypeId) (T : Ty α) : Ty (List α) where
  n := 1
  d := []
  R := fun w cs xs => ∃ v, cs = [v] ∧ SlR T w v xs
  O := fun w F cs xs => ∃ v, cs = [v] ∧ SlO e T w F v xs
  sz := zL T
  nd := ndL T
  nv := ndL T
  md := mAll T
  mv := mAll T
  ok := fun xs => (xs.length : Int) ≤ 9223372036854775807 ∧ ∀ j, j < xs.length → T.ok (xs.getD j T.d)
  s := 0
theorem tSl_md (e : TypeId) (T : Ty α) (xs : List α) (k : Int) : (tSl e T).md xs k = mAll T xs k := rfl
theorem tSl_mv (e : TypeId) (T : Ty α) (xs : List α) (k : Int) : (tSl e T).mv xs k = mAll T xs k := rfl
theorem tSl_sz (e : TypeId) (T : Ty α) (xs : List α) : (tSl e T).sz xs = zL T xs := rfl
theorem tSl_nd (e : TypeId) (T : Ty α) (xs : List α) : (tSl e T).nd xs = ndL T xs := rfl
theorem tSl_nv (e : TypeId) (T : Ty α) (xs : List α) : (tSl e T).nv xs = ndL T xs := rfl
theorem slR_len {T : Ty α} {w : World} {v : Value} {xs : List α} (h : SlR T w v xs) : ∃ a cap, v = .slice a xs.length cap := by
  rcases h with ⟨rfl, a, cap, rfl⟩ | ⟨b, off, cap, us, rfl, _⟩
  · exact ⟨a, cap, rfl⟩
  · exact ⟨_, cap, rfl⟩
theorem slR_below {T : Ty α} (A : T.Law) {W w : World} {v : Value} {xs : List α} (h : SlR T W v xs) (hb : Below W.heap.size W w) : SlR T w v xs := by
  rcases h with h | ⟨b, off, cap, us, h1, h2, h3, h4⟩
  · exact Or.inl h
  · exact Or.inr ⟨b, off, cap, us, h1, h2, Nat.lt_of_lt_of_le h3 hb.size, fun j hj => ⟨fun i hi => (hb.cell (p := ⟨b, off + j * T.n + i, none⟩) h3).trans ((h4 j hj).1 i hi), A.below (h4 j hj).2 hb⟩⟩
theorem slR_same {T : Ty α} (A : T.Law) {w w' : World} {v : Value} {xs : List α} (h : SlR T w v xs) (h1 : w'.heap = w.heap) (h2 : w'.os = w.os) (h3 : w'.tape = w.tape) (h4 : w'.output = w.output) : SlR T w' v xs :=
  slR_below A h ⟨h2, h3, h4, by rw [h1]; exact Nat.le_refl _, fun k _ => by rw [h1]⟩
theorem slR_at {T : Ty α} {w : World} {v : Value} {xs : List α} (h : SlR T w v xs) {k : Nat} (hk : k < xs.length) : ∃ (b off cap : Nat) (cs : List Value), v = .slice (some ⟨b, off, none⟩) xs.length cap ∧ b < w.heap.size ∧ (∀ i, i < T.n → w.cell? ⟨b, off + k * T.n + i, none⟩ = cs[i]?) ∧ T.R w cs (xs.getD k T.d) := by
  rcases h with ⟨rfl, _⟩ | ⟨b, off, cap, us, h1, h2, h3, h4⟩
  · simp at hk
  · exact ⟨b, off, cap, us k, h1, h3, (h4 k hk).1, (h4 k hk).2⟩
theorem slO_reads {e : TypeId} {T : Ty α} (A : T.Law) {w : World} {F : Nat → Prop} {v : Value} {xs : List α} (h : SlO e T w F v xs) : SlR T w v xs := by
  obtain ⟨L, us, Fs, h1, _, h2, _⟩ := h
  have h1' := h1
  rcases h1.2 with ⟨rfl, hn⟩ | ⟨g, cap, cur, rfl, hb, hg, hn, hm, hcs, htake⟩
  · exact Or.inl ⟨List.eq_nil_of_length_eq_zero hn, none, 0, rfl⟩
  · refine Or.inr ⟨g, 0, cap, us, rfl, hn, (Array.getElem?_eq_some_iff.1 hg).1, fun j hj => ⟨fun i hi => ?_, A.reads (h2 j hj).2.1⟩⟩
    have hlt : j * T.n + i < xs.length * T.n := by
      have : (j + 1) * T.n ≤ xs.length * T.n := Nat.mul_le_mul_right _ hj
      rw [Nat.add_mul, Nat.one_mul] at this; omega
    rw [Nat.zero_add, World.ownsRow.cellAt h1' _ hlt]
    exact (h2 j hj).1 i hi
theorem slO_turn {e : TypeId} {T : Ty α} (A : T.Law) {w w' : World} {F G : Nat → Prop} {v : Value} {xs : List α} (h : SlO e T w F v xs) (k : Turn G w w') (hd : ∀ b, F b → ¬ G b) : SlO e T w' F v xs := by
  obtain ⟨L, us, Fs, h1, h2, h3, h4⟩ := h
  exact ⟨L, us, Fs, row_turn h1 k (fun b hb => hd b (h2 b hb)), h2, fun j hj => ⟨(h3 j hj).1, A.turn (h3 j hj).2.1 k (fun b hb => hd b ((h3 j hj).2.2 b hb).1), (h3 j hj).2.2⟩, h4⟩
theorem slO_mono {e : TypeId} {T : Ty α} {w : World} {F F' : Nat → Prop} {v : Value} {xs : List α} (h : SlO e T w F v xs) (hf : ∀ b, F b → F' b) : SlO e T w F' v xs := by
  obtain ⟨L, us, Fs, h1, h2, h3, h4⟩ := h
  exact ⟨L, us, Fs, h1, fun b hb => hf b (h2 b hb), fun j hj => ⟨(h3 j hj).1, (h3 j hj).2.1, fun b hb => ⟨hf b ((h3 j hj).2.2 b hb).1, ((h3 j hj).2.2 b hb).2⟩⟩, h4⟩
theorem slO_lt {e : TypeId} {T : Ty α} (A : T.Law) {w : World} {F : Nat → Prop} {v : Value} {xs : List α} (h : SlO e T w F v xs) : SlO e T w (fun b => F b ∧ b < w.heap.size) v xs := by
  obtain ⟨L, us, Fs, h1, h2, h3, h4⟩ := h
  exact ⟨L, us, fun j b => Fs j b ∧ b < w.heap.size, h1, fun b hb => ⟨h2 b hb, (h1.lt b hb).2⟩, fun j hj => ⟨(h3 j hj).1, A.lt (h3 j hj).2.1, fun b hb => ⟨⟨((h3 j hj).2.2 b hb.1).1, hb.2⟩, ((h3 j hj).2.2 b hb.1).2⟩⟩, fun i j hi hj hij b hb hc => h4 i j hi hj hij b hb.1 hc.1⟩
theorem slO_fresh {e : TypeId} {T : Ty α} (A : T.Law) {w w' : World} {F : Nat → Prop} {v : Value} {xs : List α} (h : SlO e T w F v xs) (hb : Below w.heap.size w w') : SlO e T w' F v xs :=
  slO_turn (G := fun _ => False) A h (turn_below hb) (fun _ _ => not_false)
theorem slO_nil (e : TypeId) (T : Ty α) (w : World) (F : Nat → Prop) : SlO e T w F (.slice none 0 0) [] :=
  ⟨[], fun _ => [], fun _ _ => False, World.ownsRow_nil w 0 _ _, fun b hb => by simp [Value.ownBlock] at hb, fun j hj => by simp at hj, fun i j hi => by simp at hi⟩
theorem slO_form {e : TypeId} {T : Ty α} {w : World} {F : Nat → Prop} {v : Value} {xs : List α} (h : SlO e T w F v xs) : (v = .slice none 0 0 ∧ xs = []) ∨ ∃ g cap, v = .slice (some ⟨g, 0, none⟩) xs.length cap ∧ F g ∧ g < w.heap.size := by
  obtain ⟨L, us, Fs, h1, h2, _⟩ := h
  rcases row_form h1 with ⟨e, h0⟩ | ⟨g, cap, e, hg⟩
  · exact Or.inl ⟨e, List.eq_nil_of_length_eq_zero h0⟩
  · exact Or.inr ⟨g, cap, e, h2 g (by rw [e]; rfl), hg⟩
theorem slO_len {e : TypeId} {T : Ty α} {w : World} {F : Nat → Prop} {v : Value} {xs : List α} (h : SlO e T w F v xs) : ∃ a cap, v = .slice a xs.length cap := by
  rcases slO_form h with ⟨e, e'⟩ | ⟨g, cap, e, _⟩
  · exact ⟨none, 0, by rw [e, e']; rfl⟩
  · exact ⟨_, cap, e⟩
/-- What 'make' owns. -/
theorem slO_made {e : TypeId} {T : Ty α} (A : T.Law) {w : World} {F : Nat → Prop} {g n B : Nat} {z : Array Value} (hz : z.size = T.n) (ho : T.O w (fun _ => False) z.toList T.d) (hF : F g)
    (h : w.ownsRow B e T.n (.slice (some ⟨g, 0, none⟩) n n) n (madeCells z (n * T.n)).toList) : SlO e T w F (.slice (some ⟨g, 0, none⟩) n n) (List.replicate n T.d) := by
  refine ⟨_, fun _ => z.toList, fun _ _ => False, by rw [List.length_replicate]; exact row_low h (Nat.zero_le _), fun b hb => ?_, fun j hj => ?_, fun i j _ _ _ b hb => False.elim hb⟩
  · simp [Value.ownBlock] at hb; subst hb; exact hF
  · rw [List.length_replicate] at hj
    have er : (List.replicate n T.d).getD j T.d = T.d := by simp [List.getD, hj]
    rw [er]
    refine ⟨fun i hi => ?_, ho, fun b hb => False.elim hb⟩
    have hlt : j * T.n + i < n * T.n := by
      have : (j + 1) * T.n ≤ n * T.n := Nat.mul_le_mul_right _ hj
      rw [Nat.add_mul, Nat.one_mul] at this; omega
    have hmod : (j * T.n + i) % z.size = i := by rw [hz, Nat.mul_comm, Nat.mul_add_mod, Nat.mod_eq_of_lt hi]
    rw [Array.getElem?_toList]
    unfold madeCells
    rw [Array.getElem?_map, Array.getElem?_range, if_pos hlt]
    have hi' : i < z.size := by omega
    simp [hmod, hi']
/-- An element is opened: its cells, its blocks; and what is owned when the element has turned. -/
theorem slO_open {e : TypeId} {T : Ty α} (A : T.Law) {w : World} {F : Nat → Prop} {g m cap : Nat} {xs : List α} (h : SlO e T w F (.slice (some ⟨g, 0, none⟩) m cap) xs) {j : Nat} (hj : j < xs.length) :
    m = xs.length ∧ F g ∧ g < w.heap.size ∧ ∃ (cs : List Value) (Fj : Nat → Prop) (L : List Value), w.ownsRow 0 e T.n (.slice (some ⟨g, 0, none⟩) xs.length cap) xs.length L ∧ (∀ i, i < T.n → L[j * T.n + i]? = cs[i]?) ∧ T.O w Fj cs (xs.getD j T.d) ∧ (∀ b, Fj b → F b ∧ b ≠ g ∧ b < w.heap.size) ∧
      ∀ (w' : World) (L' cs' : List Value) (Fj' : Nat → Prop) (x' : α), w'.ownsRow 0 e T.n (.slice (some ⟨g, 0, none⟩) xs.length cap) xs.length L' → (∀ o, (o < j * T.n ∨ j * T.n + T.n ≤ o) → L'[o]? = L[o]?) → (∀ i, i < T.n → L'[j * T.n + i]? = cs'[i]?) → T.O w' Fj' cs' x' → (∀ b, Fj' b → F b ∧ (Fj b ∨ w.heap.size ≤ b)) →
        Turn (fun b => b = g ∨ Fj b ∨ w.heap.size ≤ b) w w' → SlO e T w' F (.slice (some ⟨g, 0, none⟩) m cap) (xs.set j x') := by
  obtain ⟨L, us, Fs, h1, h2, h3, h4⟩ := slO_lt A h
  have hm : m = xs.length := by
    rcases h1.2 with ⟨h', _⟩ | ⟨_, _, _, h', _⟩
    · simp at h'
    · simp only [Value.slice.injEq] at h'; exact h'.2.1
  subst hm
  have hg := h2 g rfl
  refine ⟨rfl, hg.1, hg.2, us j, Fs j, L, h1, (h3 j hj).1, (h3 j hj).2.1, fun b hb => ?_, ?_⟩
  · obtain ⟨⟨k1, k2⟩, k3⟩ := (h3 j hj).2.2 b hb
    exact ⟨k1, fun e => k3 (by rw [e]; rfl), k2⟩
  · intro w' L' cs' Fj' x' g1 g2 g3 g4 g5 g6
    refine ⟨L', fun i => if i = j then cs' else us i, fun i => if i = j then Fj' else Fs i, by rw [List.length_set]; exact g1, fun b hb => (h2 b hb).1, fun i hi => ?_, fun a b ha hb hab c => ?_⟩
    · rw [List.length_set] at hi
      by_cases eij : i = j
      · subst eij
        have er : (xs.set i x').getD i T.d = x' := by simp [List.getD, hi]
        rw [er]
        simp only [if_true]
        refine ⟨g3, g4, fun b hb => ⟨(g5 b hb).1, ?_⟩⟩
        rcases (g5 b hb).2 with q | q
        · exact ((h3 i hj).2.2 b q).2
        · intro q2
          simp [Value.ownBlock] at q2
          omega
      · have er : (xs.set j x').getD i T.d = xs.getD i T.d := by simp [List.getD, List.getElem?_set_ne (Ne.symm eij)]
        rw [er]
        simp only [if_neg eij]
        refine ⟨fun p hp => ?_, ?_, fun b hb => ⟨((h3 i hi).2.2 b hb).1.1, ((h3 i hi).2.2 b hb).2⟩⟩
        · rw [g2 _ ?_]
          · exact (h3 i hi).1 p hp
          · rcases Nat.lt_or_gt_of_ne eij with q | q
            · left
              have : (i + 1) * T.n ≤ j * T.n := Nat.mul_le_mul_right _ q
              rw [Nat.add_mul, Nat.one_mul] at this; omega
            · right
              have : (j + 1) * T.n ≤ i * T.n := Nat.mul_le_mul_right _ q
              rw [Nat.add_mul, Nat.one_mul] at this; omega
        · refine A.turn (h3 i hi).2.1 g6 (fun b hb hc => ?_)
          rcases hc with q | q | q
          · exact ((h3 i hi).2.2 b hb).2 (by rw [q]; rfl)
          · exact h4 i j hi hj eij b hb q
          · have := ((h3 i hi).2.2 b hb).1.2; omega
    · rw [List.length_set] at ha hb
      by_cases ea : a = j
      · have eb : ¬ b = j := fun q => hab (ea.trans q.symm)
        simp only [if_pos ea, if_neg eb]
        intro q1 q2
        rcases (g5 c q1).2 with q | q
        · exact h4 j b hj hb (fun q' => eb q'.symm) c q q2
        · have := ((h3 b hb).2.2 c q2).1.2; omega
      · by_cases eb : b = j
        · simp only [if_neg ea, if_pos eb]
          intro q1 q2
          rcases (g5 c q2).2 with q | q
          · exact h4 a j ha hj ea c q1 q
          · have := ((h3 a ha).2.2 c q1).1.2; omega
        · simp only [if_neg ea, if_neg eb]
          exact h4 a b ha hb hab c
/-- An element is appended. -/
theorem slO_app {e : TypeId} {T : Ty α} (A : T.Law) {w w' : World} {F Fn : Nat → Prop} {v v' : Value} {xs : List α} {x : α} {cs : List Value} {L : List Value} {us : Nat → List Value} {Fs : Nat → Nat → Prop}
    (h2 : ∀ b, v.ownBlock = some b → F b) (h3 : ∀ j, j < xs.length → (∀ i, i < T.n → L[j * T.n + i]? = (us j)[i]?) ∧ T.O w (Fs j) (us j) (xs.getD j T.d) ∧ ∀ b, Fs j b → (F b ∧ b < w.heap.size) ∧ v.ownBlock ≠ some b)
    (h4 : ∀ i j, i < xs.length → j < xs.length → i ≠ j → ∀ b, Fs i b → ¬ Fs j b) (hL : L.length = xs.length * T.n)
    (k1 : w'.ownsRow 0 e T.n v' (xs.length + 1) (L ++ cs)) (k2 : w.grownBy w' v.ownBlock) (k3 : ∀ b, v'.ownBlock = some b → v.ownBlock = some b ∨ (w.heap.size ≤ b ∧ F b))
    (hn : T.O w Fn cs x) (hc : cs.length = T.n) (hF : ∀ b, Fn b → F b ∧ b < w.heap.size ∧ v.ownBlock ≠ some b ∧ ∀ j, j < xs.length → ¬ Fs j b) : SlO e T w' F v' (xs ++ [x]) := by
  have hold : ∀ {G : Nat → Prop} {us : List Value} {y : α}, T.O w G us y → (∀ b, G b → v.ownBlock ≠ some b) → T.O w' G us y := fun h hd =>
    A.turn (G := fun b => v.ownBlock = some b) h (turn_grown k2 (fun b hb => hb)) (fun b hb => hd b hb)
  have hnew : ∀ b, b < w.heap.size → v.ownBlock ≠ some b → v'.ownBlock ≠ some b := fun b hb h1 h2 => by
    rcases k3 b h2 with q | q
    · exact h1 q
    · omega
  refine ⟨L ++ cs, fun j => if j < xs.length then us j else cs, fun j => if j < xs.length then Fs j else Fn, by rw [List.length_append]; exact k1, fun b hb => ?_, fun j hj => ?_, fun i j hi hj hij b => ?_⟩
  · rcases k3 b hb with q | q
    · exact h2 b q
    · exact q.2
  · rw [List.length_append, List.length_singleton] at hj
    by_cases hlt : j < xs.length
    · have er : (xs ++ [x]).getD j T.d = xs.getD j T.d := by simp [List.getD, List.getElem?_append_left hlt]
      rw [er]
      simp only [if_pos hlt]
      obtain ⟨g1, g2, g3⟩ := h3 j hlt
      refine ⟨fun i hi => ?_, hold g2 (fun b hb => (g3 b hb).2), fun b hb => ⟨(g3 b hb).1.1, hnew b (g3 b hb).1.2 (g3 b hb).2⟩⟩
      have hl2 : j * T.n + i < L.length := by
        have : (j + 1) * T.n ≤ xs.length * T.n := Nat.mul_le_mul_right _ hlt
        rw [Nat.add_mul, Nat.one_mul] at this; omega
      rw [List.getElem?_append_left hl2]
      exact g1 i hi
    · obtain rfl : j = xs.length := by omega
      have er : (xs ++ [x]).getD xs.length T.d = x := by simp [List.getD]
      rw [er]
      simp only [if_neg hlt]
      refine ⟨fun i hi => ?_, hold hn (fun b hb => (hF b hb).2.2.1), fun b hb => ⟨(hF b hb).1, hnew b (hF b hb).2.1 (hF b hb).2.2.1⟩⟩
      rw [List.getElem?_append_right (by omega), hL]
      simp
  · rw [List.length_append, List.length_singleton] at hi hj
    by_cases h1 : i < xs.length
    · by_cases h2 : j < xs.length
      · simp only [if_pos h1, if_pos h2]; exact h4 i j h1 h2 hij b
      · simp only [if_pos h1, if_neg h2]; exact fun q1 q2 => (hF b q2).2.2.2 i h1 q1
    · by_cases h2 : j < xs.length
      · simp only [if_neg h1, if_pos h2]; exact fun q1 q2 => (hF b q1).2.2.2 j h2 q2
      · omega
theorem zTo_zero (T : Ty α) (xs : List α) : zTo T xs 0 = xs.length := by simp [zTo, sumN_zero]
theorem zTo_step {T : Ty α} {xs : List α} {k : Nat} (hk : k < xs.length) : zTo T xs (k + 1) = zTo T xs k + T.sz (xs.getD k T.d) := by
  unfold zTo; rw [sumN_step T.sz T.d hk]; omega
theorem zTo_le {T : Ty α} {xs : List α} {k : Nat} (hk : k ≤ xs.length) : zTo T xs k ≤ zL T xs := by
  unfold zL zTo; have := sumN_le T.sz hk; omega
theorem zL_at {T : Ty α} {xs : List α} {M : Nat} (hs : zL T xs ≤ M) {k : Nat} (hk : k < xs.length) : T.sz (xs.getD k T.d) ≤ M := by
  have h1 := zTo_step (T := T) hk
  have h2 := zTo_le (T := T) (xs := xs) (k := k + 1) (by omega)
  omega
theorem zL_len {T : Ty α} {xs : List α} {M : Nat} (hs : zL T xs ≤ M) : xs.length ≤ M := by
  have := zTo_le (T := T) (xs := xs) (Nat.zero_le _); rw [zTo_zero] at this; omega
theorem ndL_le {T : Ty α} (A : T.Law) (hs : T.s ≤ 16) (xs : List α) : ndL T xs ≤ 16 * zL T xs := by
  have := sum_map_le A.nd_le xs
  have h2 : T.s * xs.length ≤ 16 * xs.length := Nat.mul_le_mul_right _ hs
  unfold ndL zL zTo sumN
  rw [List.take_length]
  omega
theorem tSl_law {e : TypeId} {T : Ty α} (A : T.Law) (hs : T.s ≤ 16) : (tSl e T).Law where
  pos := Nat.one_pos
  len := fun {w cs x} h => by obtain ⟨v, rfl, _⟩ := h; rfl
  below := fun {W w cs x} h hb => by obtain ⟨v, e, h⟩ := h; exact ⟨v, e, slR_below A h hb⟩
  reads := fun {w F cs x} h => by obtain ⟨v, e, h⟩ := h; exact ⟨v, e, slO_reads A h⟩
  turn := fun {w w' F G cs x} h k hd => by obtain ⟨v, e, h⟩ := h; exact ⟨v, e, slO_turn A h k hd⟩
  mono := fun {w F F' cs x} h hf => by obtain ⟨v, e, h⟩ := h; exact ⟨v, e, slO_mono h hf⟩
  lt := fun {w F cs x} h => by obtain ⟨v, e, h⟩ := h; exact ⟨v, e, slO_lt A h⟩
  nd_le := fun x => ndL_le A hs x
  nv_le := fun x => ndL_le A hs x
theorem kAt_zero (T : Ty α) (xs : List α) (k : Int) : kAt T xs k 0 = k := by simp [kAt, sumN_zero]
theorem kAt_step {T : Ty α} {xs : List α} {k : Int} {j : Nat} (hj : j < xs.length) : kAt T xs k (j + 1) = kAt T xs k j + (T.nd (xs.getD j T.d) : Int) := by
  unfold kAt; rw [sumN_step T.nd T.d hj]; omega
theorem kAt_all (T : Ty α) (xs : List α) (k : Int) : kAt T xs k xs.length = k + (ndL T xs : Int) := rfl
theorem kAt_range {T : Ty α} (A : T.Law) (h16 : T.s ≤ 16) {xs : List α} {k : Int} {j : Nat} (hs : zL T xs ≤ 1048576) (hj : j ≤ xs.length) : k ≤ kAt T xs k j ∧ kAt T xs k j ≤ k + 16777216 := by
  have h1 := ndL_le A h16 xs
  have h2 := sumN_le T.nd hj
  unfold ndL at h1
  unfold kAt
  omega
theorem mTo_len {T : Ty α} {xs : List α} {k : Int} {j : Nat} (hj : j ≤ xs.length) : (mTo T xs k j).length = xs.length := by simp [mTo]; omega
theorem mTo_at {T : Ty α} {xs : List α} {k : Int} {j : Nat} (hj : j < xs.length) : (mTo T xs k j).getD j T.d = xs.getD j T.d := by
  unfold mTo
  simp only [List.getD]
  rw [List.getElem?_append_right (by simp), List.getElem?_drop]
  simp
theorem mTo_step {T : Ty α} {xs : List α} {k : Int} {j : Nat} (hj : j < xs.length) : (mTo T xs k j).set j (T.md (xs.getD j T.d) (kAt T xs k j)) = mTo T xs k (j + 1) := by
  unfold mTo
  rw [List.set_append_right _ _ (by simp), List.drop_eq_getElem_cons hj, List.range_succ, List.map_append]
  simp only [List.length_map, List.length_range, Nat.sub_self, List.set_cons_zero, List.map_cons, List.map_nil, List.append_assoc, List.cons_append, List.nil_append]
  rfl
theorem mTo_all (T : Ty α) (xs : List α) (k : Int) : mTo T xs k xs.length = mAll T xs k := by simp [mTo, mAll]
theorem mTo_zero (T : Ty α) (xs : List α) (k : Int) : mTo T xs k 0 = xs := by simp [mTo]
theorem mAll_len (T : Ty α) (xs : List α) (k : Int) : (mAll T xs k).length = xs.length := by simp [mAll]
theorem mAll_at {T : Ty α} {xs : List α} {k : Int} {j : Nat} (hj : j < xs.length) : (mAll T xs k).getD j T.d = T.md (xs.getD j T.d) (kAt T xs k j) := by simp [mAll, mAt, List.getD, hj]
theorem cTo_step {xs : List α} {d : α} {k : Nat} (h : k < xs.length) : (xs.take k ++ List.replicate (xs.length - k) d).set k (xs.getD k d) = xs.take (k + 1) ++ List.replicate (xs.length - (k + 1)) d := by
  have hk : (xs.take k).length = k := by rw [List.length_take]; omega
  rw [List.set_append_right _ _ (by omega), hk, Nat.sub_self, show xs.length - k = (xs.length - (k + 1)) + 1 by omega, List.replicate_succ, List.set_cons_zero, List.take_succ_eq_append_getElem h, List.append_assoc]
  simp [List.getD, h]
theorem cTo_len {xs : List α} {d : α} {k : Nat} (h : k ≤ xs.length) : (xs.take k ++ List.replicate (xs.length - k) d).length = xs.length := by simp; omega
end
/-- New blocks: those since w. -/
def since (w : World) : Nat → Prop := fun b => w.heap.size ≤ b
/-- A value in new memory is answered. -/
def FreshT {α : Type} (T : Ty α) (mk : List Value → Value) (w : World) (x : α) (e : Ending) (w' : World) : Prop := ∃ cs, e = .returned (mk cs) ∧ T.O w' (since w) cs x ∧ Below w.heap.size w w'
def FreshS {α : Type} (t : TypeId) (T : Ty α) (w : World) (xs : List α) (e : Ending) (w' : World) : Prop := ∃ v, e = .returned v ∧ SlO t T w' (since w) v xs ∧ Below w.heap.size w w'
end Go.Proofs.Ytdhglmoanpkeoaa
namespace Go.Proofs.Ytdhglmoanpkeoaa
open Go.RowKit
set_option linter.unusedVariables false
set_option linter.unusedSimpArgs false
abbrev tIntS : Ty (List Int) := tSl 3 tInt
theorem tIntS_law : tIntS.Law := tSl_law tInt_law (by decide)
theorem ints_slR {w : World} {v : Value} {xs : List Int} (h : Ints w v xs) : SlR tInt w v xs := by
  rcases h with h | ⟨b, off, cap, h1, h2, h3, h4⟩
  · exact Or.inl h
  · refine Or.inr ⟨b, off, cap, fun j => [.int .i64 (xs.getD j 0)], h1, h2, h3, fun j hj => ⟨fun i hi => ?_, rfl⟩⟩
    have hi0 : i < 1 := hi
    obtain rfl : i = 0 := by omega
    have e : off + j * tInt.n + 0 = off + j := by show off + j * 1 + 0 = _; omega
    rw [e, h4 j hj]; rfl
theorem slR_ints {w : World} {v : Value} {xs : List Int} (h : SlR tInt w v xs) : Ints w v xs := by
  rcases h with h | ⟨b, off, cap, us, h1, h2, h3, h4⟩
  · exact Or.inl h
  · refine Or.inr ⟨b, off, cap, h1, h2, h3, fun j hj => ?_⟩
    have h5 := (h4 j hj).1 0 (by decide)
    have h6 : us j = [.int .i64 (xs.getD j 0)] := (h4 j hj).2
    have e : off + j * tInt.n + 0 = off + j := by show off + j * 1 + 0 = _; omega
    rw [e, h6] at h5
    exact h5
theorem zL_flat {α : Type} {T : Ty α} (h : ∀ x, T.sz x = 0) (xs : List α) : zL T xs = xs.length := by
  unfold zL zTo sumN
  have : ∀ l : List α, (l.map T.sz).sum = 0 := fun l => by
    induction l with
    | nil => rfl
    | cons x l ih => rw [List.map_cons, List.sum_cons, h x, ih]
  rw [this]; rfl
theorem sumN_one {α : Type} {f : α → Nat} {c : Nat} (h : ∀ x, f x = c) (xs : List α) {k : Nat} (hk : k ≤ xs.length) : sumN f xs k = c * k := by
  unfold sumN
  have : ∀ l : List α, (l.map f).sum = c * l.length := fun l => by
    induction l with
    | nil => rfl
    | cons x l ih => rw [List.map_cons, List.sum_cons, h x, ih, List.length_cons, Nat.mul_add]; omega
  rw [this, List.length_take, Nat.min_eq_left hk]
theorem zL_ints (xs : List Int) : zL tInt xs = xs.length := zL_flat (fun _ => rfl) xs
theorem ndL_ints (xs : List Int) : ndL tInt xs = xs.length := by
  unfold ndL; rw [sumN_one (f := tInt.nd) (c := 1) (fun _ => rfl) xs (Nat.le_refl _)]; omega
theorem mAll_ints (xs : List Int) (k : Int) : mAll tInt xs k = marks k xs.length := by
  unfold mAll marks
  apply List.map_congr_left
  intro i hi
  rw [List.mem_range] at hi
  show kAt tInt xs k i = k + (i : Int)
  unfold kAt
  rw [sumN_one (f := tInt.nd) (c := 1) (fun _ => rfl) xs (by omega)]; omega
theorem slO_own {w : World} {F : Nat → Prop} {v : Value} {xs : List Int} (h : SlO 3 tInt w F v xs) : OwnsN w 0 v xs ∧ ∀ b, v.ownBlock = some b → F b := by
  obtain ⟨L, us, Fs, h1, h2, h3, h4⟩ := h
  refine ⟨?_, h2⟩
  have e : L = xs.map (Value.int .i64) := by
    apply List.ext_getElem?
    intro i
    by_cases hi : i < xs.length
    · obtain ⟨g1, g2, _⟩ := h3 i hi
      have g3 := g1 0 (by decide)
      have g4 : us i = [.int .i64 (xs.getD i 0)] := g2
      have e : i * tInt.n + 0 = i := by show i * 1 + 0 = _; omega
      rw [e, g4] at g3
      rw [g3]
      simp [List.getD, hi]
    · have hl : L.length = xs.length * 1 := h1.1
      rw [List.getElem?_eq_none (by omega), List.getElem?_eq_none (by simp; omega)]
  rw [e] at h1
  exact h1
theorem own_slO {w : World} {F : Nat → Prop} {v : Value} {xs : List Int} {B : Nat} (h : OwnsN w B v xs) (hF : ∀ b, v.ownBlock = some b → F b) : SlO 3 tInt w F v xs := by
  refine ⟨_, fun j => [.int .i64 (xs.getD j 0)], fun _ _ => False, row_low h (Nat.zero_le _), hF, fun j hj => ⟨fun i hi => ?_, rfl, fun b hb => False.elim hb⟩, fun i j _ _ _ b hb => False.elim hb⟩
  have hi0 : i < 1 := hi
  obtain rfl : i = 0 := by omega
  have e : j * tInt.n + 0 = j := by show j * 1 + 0 = _; omega
  rw [e]
  simp [List.getD, hj]
/-- Numbers in new memory, either way. -/
theorem fresh_ints {w w' : World} {v : Value} {xs : List Int} (h : OwnsN w' w.heap.size v xs) : SlO 3 tInt w' (since w) v xs := own_slO h (fun b hb => (h.lt b hb).1)
theorem szIntS_Y (v : Value) (xs : List Int) (k0 : Int) (w : World) (h : SlR tInt w v xs) (hs : ((zL tInt xs : Nat) : Int) ≤ k0) (hk : k0 ≤ 1048576) :
    Calls Try.prog 55 #[v, .int .i64 k0] w fun e w' => e = .returned (.int .i64 (k0 - ((zL tInt xs : Nat) : Int))) ∧ Below w.heap.size w w' := by
  rw [zL_ints] at hs ⊢
  obtain ⟨a, cap, rfl⟩ := slR_len h
  exact (szInt_yes a cap xs.length k0 w hs hk).mono fun e w' g => ⟨g.1, by rw [g.2]; exact Below.refl _ _⟩
theorem szIntS_N (v : Value) (xs : List Int) (k0 : Int) (w : World) (h : SlR tInt w v xs) (hs : k0 < ((zL tInt xs : Nat) : Int)) (hk : k0 ≤ 1048576) (hp : 0 ≤ k0) (ho : tIntS.ok xs) :
    Calls Try.prog 55 #[v, .int .i64 k0] w fun e w' => e = .returned (.int .i64 (-1)) ∧ Below w.heap.size w w' := by
  rw [zL_ints] at hs
  obtain ⟨a, cap, rfl⟩ := slR_len h
  exact (szInt_no a cap xs.length k0 w hs hp ho.1).mono fun e w' g => ⟨g.1, by rw [g.2]; exact Below.refl _ _⟩
theorem toIntS_S (v : Value) (xs : List Int) (w : World) (h : SlR tInt w v xs) (hs : zL tInt xs ≤ 1048576) :
    Calls Try.prog 59 #[v] w (FreshS 3 tInt w xs) := by
  rw [zL_ints] at hs
  refine (toIntS_any v xs w (slR_ints h) hs).mono ?_
  rintro e w' ⟨u, rfl, o, b⟩
  exact ⟨u, rfl, fresh_ints o, b⟩
theorem eqIntS_S (v u : Value) (xs : List Int) (w : World) (h : SlR tInt w v xs) (g : SlR tInt w u xs) (hs : zL tInt xs ≤ 1048576) :
    Calls Try.prog 44 #[v, u] w fun e w' => e = .returned (.bool true) ∧ Below w.heap.size w w' := by
  rw [zL_ints] at hs
  exact eqIntS_same v u xs w (slR_ints h) (slR_ints g) hs
theorem markIntS_S (v : Value) (xs : List Int) (F : Nat → Prop) (k : Int) (w : World) (h : SlO 3 tInt w F v xs) (hs : zL tInt xs ≤ 1048576) (k0 : 0 ≤ k) (k1 : k ≤ 1073741824) :
    Calls Try.prog 39 #[v, .int .i64 k] w fun e w' => e = .returned (.int .i64 (k + (ndL tInt xs : Int))) ∧ SlO 3 tInt w' F v (mAll tInt xs k) ∧ Turn F w w' := by
  rw [zL_ints] at hs
  obtain ⟨h1, h2⟩ := slO_own h
  refine (markIntS_any v xs 0 k w h1 hs k0 k1).mono ?_
  rintro e w' ⟨rfl, o, g⟩
  rw [ndL_ints, mAll_ints]
  exact ⟨rfl, own_slO o h2, turn_grown g h2⟩
theorem heldIntS_S (v : Value) (xs : List Int) (k : Int) (w : World) (h : SlR tInt w v (mAll tInt xs k)) (hs : zL tInt xs ≤ 1048576) (k0 : 0 ≤ k) (k1 : k ≤ 1073741824) :
    Calls Try.prog 40 #[v, .int .i64 k] w fun e w' => e = .returned (.int .i64 (k + (ndL tInt xs : Int))) ∧ w = w' := by
  rw [zL_ints] at hs
  rw [mAll_ints] at h
  rw [ndL_ints]
  exact heldIntS_any v xs.length k w (slR_ints h) hs k0 k1
end Go.Proofs.Ytdhglmoanpkeoaa
namespace Go.Proofs.Ytdhglmoanpkeoaa
open Go.RowKit
set_option linter.unusedVariables false
set_option linter.unusedSimpArgs false
def tVersion : Ty (Int × List Int × Int × Int) := tPair tInt (tPair tIntS (tPair tInt tInt))
theorem tVersion_law : tVersion.Law := tPair_law tInt_law (tPair_law tIntS_law (tPair_law tInt_law tInt_law))
theorem tVersion_R {w : World} {cs : List Value} {a0 : Int} {x1 : List Int} {a2 : Int} {a3 : Int} (h : tVersion.R w cs (a0, x1, a2, a3)) : ∃ v1, cs = [.int .i64 a0, v1, .int .i64 a2, .int .i64 a3] ∧ SlR tInt w v1 x1 := by
  obtain ⟨_, _, rfl, rfl, ⟨_, _, rfl, ⟨v1, rfl, h1⟩, ⟨_, _, rfl, rfl, rfl⟩⟩⟩ := h
  exact ⟨_, rfl, h1⟩
theorem tVersion_mkR {w : World} {a0 : Int} {x1 : List Int} {a2 : Int} {a3 : Int} {v1 : Value} (h1 : SlR tInt w v1 x1) : tVersion.R w [.int .i64 a0, v1, .int .i64 a2, .int .i64 a3] (a0, x1, a2, a3) := ⟨[.int .i64 a0], [v1, .int .i64 a2, .int .i64 a3], rfl, rfl, ⟨[v1], [.int .i64 a2, .int .i64 a3], rfl, ⟨_, rfl, h1⟩, ⟨[.int .i64 a2], [.int .i64 a3], rfl, rfl, rfl⟩⟩⟩
theorem tVersion_sz {a0 : Int} {x1 : List Int} {a2 : Int} {a3 : Int} : tVersion.sz (a0, x1, a2, a3) = zL tInt x1 := by
  simp only [tVersion, tPair_sz, tPair_nd, tPair_nv, tInt_sz, tInt_nd, tInt_nv, tSl_sz, tSl_nd, tSl_nv]
  try omega
theorem tVersion_nd {a0 : Int} {x1 : List Int} {a2 : Int} {a3 : Int} : tVersion.nd (a0, x1, a2, a3) = 3 + ndL tInt x1 := by
  simp only [tVersion, tPair_sz, tPair_nd, tPair_nv, tInt_sz, tInt_nd, tInt_nv, tSl_sz, tSl_nd, tSl_nv]
  try omega
theorem tVersion_md {a0 : Int} {x1 : List Int} {a2 : Int} {a3 : Int} {k : Int} : tVersion.md (a0, x1, a2, a3) k = ((k), mAll tInt x1 (k + 1), (k + 1 + (ndL tInt x1 : Int)), (k + 1 + (ndL tInt x1 : Int) + 1)) := by
  simp only [tVersion, tPair_md, tPair_mv, tPair_nd, tPair_nv, tInt_md, tInt_mv, tInt_nd, tInt_nv, tSl_md, tSl_mv, tSl_nd, tSl_nv, Int.natCast_add, Int.natCast_zero, Int.natCast_one, Int.add_zero, Int.zero_add, Int.add_assoc]
theorem tVersion_O {w : World} {F : Nat → Prop} {cs : List Value} {a0 : Int} {x1 : List Int} {a2 : Int} {a3 : Int} (h : tVersion.O w F cs (a0, x1, a2, a3)) : ∃ v1, ∃ F1 : Nat → Prop, cs = [.int .i64 a0, v1, .int .i64 a2, .int .i64 a3] ∧ SlO 3 tInt w F1 v1 x1 ∧ (∀ b, F1 b → F b) := by
  obtain ⟨_, _, F0_1, F0_2, rfl, rfl, ⟨_, _, F1_1, F1_2, rfl, ⟨v1, rfl, h1⟩, ⟨_, _, F2_1, F2_2, rfl, rfl, rfl, s2_1, s2_2, d2⟩, s1_1, s1_2, d1⟩, s0_1, s0_2, d0⟩ := h
  exact ⟨v1, F1_1, rfl, h1, fun b h => (s0_2 b (s1_1 b h))⟩
theorem tVersion_mkO {w : World} {F : Nat → Prop} {a0 : Int} {x1 : List Int} {a2 : Int} {a3 : Int} {v1 : Value} {F1 : Nat → Prop} (h1 : SlO 3 tInt w F1 v1 x1) (s1 : ∀ b, F1 b → F b)  : tVersion.O w F [.int .i64 a0, v1, .int .i64 a2, .int .i64 a3] (a0, x1, a2, a3) := ⟨[.int .i64 a0], [v1, .int .i64 a2, .int .i64 a3], fun _ => False, F1, rfl, rfl, ⟨[v1], [.int .i64 a2, .int .i64 a3], F1, fun _ => False, rfl, ⟨_, rfl, h1⟩, ⟨[.int .i64 a2], [.int .i64 a3], fun _ => False, fun _ => False, rfl, rfl, rfl, (fun b h => (False.elim h)), (fun b h => (False.elim h)), (fun b h g => (False.elim h))⟩, (fun b h => h), (fun b h => (False.elim h)), (fun b h g => (False.elim g))⟩, (fun b h => (False.elim h)), (fun b h => s1 b h), (fun b h g => (False.elim h))⟩
set_option maxHeartbeats 8000000 in
set_option maxRecDepth 100000 in
theorem szVersion_Y (a0 a2 a3 : Int) (v1 : Value) (x1 : List Int) (k0 : Int) (w : World) (h1 : SlR tInt w v1 x1) (hs : ((zL tInt x1 : Nat) : Int) ≤ k0) (hk : k0 ≤ 1048576) :
    Calls Try.prog 117 #[.agg #[.int .i64 a0, v1, .int .i64 a2, .int .i64 a3], .int .i64 k0] w fun e w' => e = .returned (.int .i64 (k0 - ((zL tInt x1 : Nat) : Int))) ∧ Below w.heap.size w w' := by
  have H1 := Lib.hid h1
  clear h1
  have HZ1 : Hid (((zL tInt x1 : Nat) : Int) ≤ k0) := Lib.hid (by omega)
  have HK1 : Hid (k0 ≤ 1048576) := Lib.hid (by omega)
  have hn1 : ¬ k0 - ((zL tInt x1 : Nat) : Int) < 0 := by omega
  clear hs hk
  have hb : Below w.heap.size w (w.alloc (.cells #[.int .i64 a0, v1, .int .i64 a2, .int .i64 a3] 150)) := (Below.refl _ w).alloc (Nat.le_refl _) _
  have g0 : (w.alloc (.cells #[.int .i64 a0, v1, .int .i64 a2, .int .i64 a3] 150)).heap[w.heap.size]? = some (.cells #[.int .i64 a0, v1, .int .i64 a2, .int .i64 a3] 150 (0, 0)) := heap_alloc_new w _
  have hz0 : w.heap.size < (w.alloc (.cells #[.int .i64 a0, v1, .int .i64 a2, .int .i64 a3] 150)).heap.size := by simp
  go_enter Try.func117, Try.ntmps117
  go_wp2_with fail
  generalize (w.alloc (.cells #[.int .i64 a0, v1, .int .i64 a2, .int .i64 a3] 150)) = W at *
  refine (szIntS_Y v1 x1 (k0) W (slR_below tInt_law H1.out hb) HZ1.out HK1.out).mono ?_
  rintro e W1 ⟨rfl, b1⟩
  replace g0 := (b1.block w.heap.size hz0).trans g0
  replace hz0 := Nat.lt_of_lt_of_le hz0 b1.size
  replace hb := hb.trans (b1.mono hb.size)
  clear b1
  go_wp2
  go_ret
  exact ⟨rfl, hb⟩
set_option maxHeartbeats 8000000 in
set_option maxRecDepth 100000 in
theorem szVersion_N (a0 a2 a3 : Int) (v1 : Value) (x1 : List Int) (k0 : Int) (w : World) (h1 : SlR tInt w v1 x1) (hs : k0 < ((zL tInt x1 : Nat) : Int)) (hk : k0 ≤ 1048576) (hp : 0 ≤ k0) (o1 : tIntS.ok x1) :
    Calls Try.prog 117 #[.agg #[.int .i64 a0, v1, .int .i64 a2, .int .i64 a3], .int .i64 k0] w fun e w' => e = .returned (.int .i64 (-1)) ∧ Below w.heap.size w w' := by
  have H1 := Lib.hid h1
  clear h1
  have HO1 := Lib.hid o1
  clear o1
  have HZ1 : Hid (k0 < ((zL tInt x1 : Nat) : Int)) := Lib.hid (by omega)
  have HP1 : Hid (0 ≤ k0) := Lib.hid (by omega)
  have HK1 : Hid (k0 ≤ 1048576) := Lib.hid (by omega)
  clear hs hk
  clear hp
  have hb : Below w.heap.size w (w.alloc (.cells #[.int .i64 a0, v1, .int .i64 a2, .int .i64 a3] 150)) := (Below.refl _ w).alloc (Nat.le_refl _) _
  have g0 : (w.alloc (.cells #[.int .i64 a0, v1, .int .i64 a2, .int .i64 a3] 150)).heap[w.heap.size]? = some (.cells #[.int .i64 a0, v1, .int .i64 a2, .int .i64 a3] 150 (0, 0)) := heap_alloc_new w _
  have hz0 : w.heap.size < (w.alloc (.cells #[.int .i64 a0, v1, .int .i64 a2, .int .i64 a3] 150)).heap.size := by simp
  go_enter Try.func117, Try.ntmps117
  go_wp2_with fail
  generalize (w.alloc (.cells #[.int .i64 a0, v1, .int .i64 a2, .int .i64 a3] 150)) = W at *
  refine (szIntS_N v1 x1 (k0) W (slR_below tInt_law H1.out hb) HZ1.out HK1.out HP1.out HO1.out).mono ?_
  rintro e W1 ⟨rfl, b1⟩
  replace g0 := (b1.block w.heap.size hz0).trans g0
  replace hz0 := Nat.lt_of_lt_of_le hz0 b1.size
  replace hb := hb.trans (b1.mono hb.size)
  clear b1
  go_wp2
  go_ret
  exact ⟨rfl, hb⟩
set_option maxHeartbeats 8000000 in
set_option maxRecDepth 100000 in
theorem toVersion_T (a0 a2 a3 : Int) (v1 : Value) (x1 : List Int) (w : World) (h1 : SlR tInt w v1 x1) (s1 : zL tInt x1 ≤ 1048576) :
    Calls Try.prog 119 #[.agg #[.int .i64 a0, v1, .int .i64 a2, .int .i64 a3]] w (FreshT tVersion (fun cs => .agg cs.toArray) w (a0, x1, a2, a3)) := by
  have H1 := Lib.hid h1
  clear h1
  have S1 := Lib.hid s1
  clear s1
  go_enter Try.func119, Try.ntmps119
  go_wp2_with fail
  have hb : Below w.heap.size w (((w.alloc (.cells #[.int .i64 a0, v1, .int .i64 a2, .int .i64 a3] 150)).alloc (.cells #[.int .i64 0, .slice none 0 0, .int .i64 0, .int .i64 0] 115)).alloc (.cells #[.int .i64 a0, .slice none 0 0, .int .i64 0, .int .i64 0] 115)) := (((Below.refl _ w).alloc (Nat.le_refl _) _).alloc (by simp) _).alloc (by simp; omega) _
  have g2 : (((w.alloc (.cells #[.int .i64 a0, v1, .int .i64 a2, .int .i64 a3] 150)).alloc (.cells #[.int .i64 0, .slice none 0 0, .int .i64 0, .int .i64 0] 115)).alloc (.cells #[.int .i64 a0, .slice none 0 0, .int .i64 0, .int .i64 0] 115)).heap[w.heap.size + 1 + 1]? = some (.cells #[.int .i64 a0, .slice none 0 0, .int .i64 0, .int .i64 0] 115 (0, 0)) := by
    have := heap_alloc_new ((w.alloc (.cells #[.int .i64 a0, v1, .int .i64 a2, .int .i64 a3] 150)).alloc (.cells #[.int .i64 0, .slice none 0 0, .int .i64 0, .int .i64 0] 115)) (.cells #[.int .i64 a0, .slice none 0 0, .int .i64 0, .int .i64 0] 115)
    simpa only [World.size_alloc] using this
  have g1 : (((w.alloc (.cells #[.int .i64 a0, v1, .int .i64 a2, .int .i64 a3] 150)).alloc (.cells #[.int .i64 0, .slice none 0 0, .int .i64 0, .int .i64 0] 115)).alloc (.cells #[.int .i64 a0, .slice none 0 0, .int .i64 0, .int .i64 0] 115)).heap[w.heap.size + 1]? = some (.cells #[.int .i64 0, .slice none 0 0, .int .i64 0, .int .i64 0] 115 (0, 0)) := by
    have := heap_alloc_new (w.alloc (.cells #[.int .i64 a0, v1, .int .i64 a2, .int .i64 a3] 150)) (.cells #[.int .i64 0, .slice none 0 0, .int .i64 0, .int .i64 0] 115)
    rw [Below.heap_alloc _ _ _ (by simp)]
    simpa only [World.size_alloc] using this
  have g0 : (((w.alloc (.cells #[.int .i64 a0, v1, .int .i64 a2, .int .i64 a3] 150)).alloc (.cells #[.int .i64 0, .slice none 0 0, .int .i64 0, .int .i64 0] 115)).alloc (.cells #[.int .i64 a0, .slice none 0 0, .int .i64 0, .int .i64 0] 115)).heap[w.heap.size]? = some (.cells #[.int .i64 a0, v1, .int .i64 a2, .int .i64 a3] 150 (0, 0)) := by
    rw [Below.heap_alloc _ _ _ (by simp; omega), Below.heap_alloc _ _ _ (by simp)]
    exact heap_alloc_new w _
  have hz : w.heap.size + 2 < (((w.alloc (.cells #[.int .i64 a0, v1, .int .i64 a2, .int .i64 a3] 150)).alloc (.cells #[.int .i64 0, .slice none 0 0, .int .i64 0, .int .i64 0] 115)).alloc (.cells #[.int .i64 a0, .slice none 0 0, .int .i64 0, .int .i64 0] 115)).heap.size := by simp [World.size_alloc]
  generalize (((w.alloc (.cells #[.int .i64 a0, v1, .int .i64 a2, .int .i64 a3] 150)).alloc (.cells #[.int .i64 0, .slice none 0 0, .int .i64 0, .int .i64 0] 115)).alloc (.cells #[.int .i64 a0, .slice none 0 0, .int .i64 0, .int .i64 0] 115)) = W at *
  refine (toIntS_S v1 x1 W (slR_below tInt_law H1.out hb) S1.out).mono ?_
  rintro e w1 ⟨u1, rfl, o1, b1⟩
  obtain ⟨ua1, uc1, rfl⟩ := slO_len o1
  replace o1 := slO_mono (slO_lt tInt_law o1) (F' := fun b => W.heap.size ≤ b ∧ b < w1.heap.size) (fun b h => h)
  replace g0 := (b1.block _ (by omega)).trans g0
  replace g1 := (b1.block _ (by omega)).trans g1
  replace g2 := (b1.block _ (by omega)).trans g2
  have zz1 := b1.size
  replace hb := hb.trans (b1.mono (by omega))
  clear b1
  have c2_0 := (cell_of_row w1 _ 0 _ _ _ g2).trans (show _ = some (Value.int .i64 a0) from rfl)
  have f2_0 := frozen_of_row w1 _ 0 _ _ g2
  have c2_1 := (cell_of_row w1 _ 1 _ _ _ g2).trans (show _ = some (Value.slice none 0 0) from rfl)
  have f2_1 := frozen_of_row w1 _ 1 _ _ g2
  have c2_2 := (cell_of_row w1 _ 2 _ _ _ g2).trans (show _ = some (Value.int .i64 0) from rfl)
  have f2_2 := frozen_of_row w1 _ 2 _ _ g2
  have c2_3 := (cell_of_row w1 _ 3 _ _ _ g2).trans (show _ = some (Value.int .i64 0) from rfl)
  have f2_3 := frozen_of_row w1 _ 3 _ _ g2
  have ne1 : ¬ w.heap.size = w.heap.size + 1 + 1 := by omega
  have ne2 : ¬ w.heap.size + 1 = w.heap.size + 1 + 1 := by omega
  have ne3 : ¬ w.heap.size + 1 + 1 = w.heap.size + 1 := by omega
  have c0_2 := (cell_of_row w1 _ 2 _ _ _ g0).trans (show _ = some (Value.int .i64 a2) from rfl)
  have c0_3 := (cell_of_row w1 _ 3 _ _ _ g0).trans (show _ = some (Value.int .i64 a3) from rfl)
  have c1_0 := (cell_of_row w1 _ 0 _ _ _ g1).trans (show _ = some (Value.int .i64 0) from rfl)
  have f1_0 := frozen_of_row w1 _ 0 _ _ g1
  have c1_1 := (cell_of_row w1 _ 1 _ _ _ g1).trans (show _ = some (Value.slice none 0 0) from rfl)
  have f1_1 := frozen_of_row w1 _ 1 _ _ g1
  have c1_2 := (cell_of_row w1 _ 2 _ _ _ g1).trans (show _ = some (Value.int .i64 0) from rfl)
  have f1_2 := frozen_of_row w1 _ 2 _ _ g1
  have c1_3 := (cell_of_row w1 _ 3 _ _ _ g1).trans (show _ = some (Value.int .i64 0) from rfl)
  have f1_3 := frozen_of_row w1 _ 3 _ _ g1
  have l0_2 : (w1.setCell ⟨w.heap.size + 1 + 1, 1, none⟩ (.slice ua1 x1.length uc1)).cell? ⟨w.heap.size, 2, none⟩ = some (Value.int .i64 a2) := by
    have m : (w1.setCell ⟨w.heap.size + 1 + 1, 1, none⟩ (.slice ua1 x1.length uc1)).heap[w.heap.size]? = some (.cells #[.int .i64 a0, v1, .int .i64 a2, .int .i64 a3] 150 (0, 0)) := by
      repeat rw [heap_setCell_other _ _ _ _ (by simp <;> omega)]
      exact g0
    exact (cell_of_row _ _ 2 _ _ _ m).trans rfl
  have l0_3 : ((w1.setCell ⟨w.heap.size + 1 + 1, 1, none⟩ (.slice ua1 x1.length uc1)).setCell ⟨w.heap.size + 1 + 1, 2, none⟩ (.int .i64 a2)).cell? ⟨w.heap.size, 3, none⟩ = some (Value.int .i64 a3) := by
    have m : ((w1.setCell ⟨w.heap.size + 1 + 1, 1, none⟩ (.slice ua1 x1.length uc1)).setCell ⟨w.heap.size + 1 + 1, 2, none⟩ (.int .i64 a2)).heap[w.heap.size]? = some (.cells #[.int .i64 a0, v1, .int .i64 a2, .int .i64 a3] 150 (0, 0)) := by
      repeat rw [heap_setCell_other _ _ _ _ (by simp <;> omega)]
      exact g0
    exact (cell_of_row _ _ 3 _ _ _ m).trans rfl
  go_wp2
  clear c2_0 f2_0 c2_1 f2_1 c2_2 f2_2 c2_3 f2_3 ne1 ne2 ne3 c0_2 c0_3 c1_0 f1_0 c1_1 f1_1 c1_2 f1_2 c1_3 f1_3 l0_2 l0_3
  have hw : Turn (fun b => b = w.heap.size + 1 ∨ b = w.heap.size + 1 + 1) w1 (((((((w1.setCell ⟨w.heap.size + 1 + 1, 1, none⟩ (.slice ua1 x1.length uc1)).setCell ⟨w.heap.size + 1 + 1, 2, none⟩ (.int .i64 a2)).setCell ⟨w.heap.size + 1 + 1, 3, none⟩ (.int .i64 a3)).setCell ⟨w.heap.size + 1, 0, none⟩ (.int .i64 a0)).setCell ⟨w.heap.size + 1, 1, none⟩ (.slice ua1 x1.length uc1)).setCell ⟨w.heap.size + 1, 2, none⟩ (.int .i64 a2)).setCell ⟨w.heap.size + 1, 3, none⟩ (.int .i64 a3)) := by
    first | exact ((((((((Turn.refl _ _).trans (turn_set (g := w.heap.size + 1 + 1) (j := 1) (u := .slice ua1 x1.length uc1) (Or.inr rfl))).trans (turn_set (g := w.heap.size + 1 + 1) (j := 2) (u := .int .i64 a2) (Or.inr rfl))).trans (turn_set (g := w.heap.size + 1 + 1) (j := 3) (u := .int .i64 a3) (Or.inr rfl))).trans (turn_set (g := w.heap.size + 1) (j := 0) (u := .int .i64 a0) (Or.inl rfl))).trans (turn_set (g := w.heap.size + 1) (j := 1) (u := .slice ua1 x1.length uc1) (Or.inl rfl))).trans (turn_set (g := w.heap.size + 1) (j := 2) (u := .int .i64 a2) (Or.inl rfl))).trans (turn_set (g := w.heap.size + 1) (j := 3) (u := .int .i64 a3) (Or.inl rfl))) | skip
  have r := (heap_setCell_same _ (w.heap.size + 1) 3 _ _ (.int .i64 a3) (heap_setCell_same _ (w.heap.size + 1) 2 _ _ (.int .i64 a2) (heap_setCell_same _ (w.heap.size + 1) 1 _ _ (.slice ua1 x1.length uc1) (heap_setCell_same _ (w.heap.size + 1) 0 _ _ (.int .i64 a0) ((heap_setCell_other _ ⟨w.heap.size + 1 + 1, 3, none⟩ (w.heap.size + 1) (.int .i64 a3) (by simp)).trans ((heap_setCell_other _ ⟨w.heap.size + 1 + 1, 2, none⟩ (w.heap.size + 1) (.int .i64 a2) (by simp)).trans ((heap_setCell_other _ ⟨w.heap.size + 1 + 1, 1, none⟩ (w.heap.size + 1) (.slice ua1 x1.length uc1) (by simp)).trans g1)))))))
  have e0 := cell_of_row _ _ 0 _ _ _ r
  have e1 := cell_of_row _ _ 1 _ _ _ r
  have e2 := cell_of_row _ _ 2 _ _ _ r
  have e3 := cell_of_row _ _ 3 _ _ _ r
  simp at e0 e1 e2 e3
  replace o1 := slO_turn tInt_law o1 hw (fun b h1 h2 => by have := h1.1; omega)
  replace hb := below_turn hb hw (fun b h => by omega) (by omega)
  refine bodyPost_ret (v := .agg #[.int .i64 a0, .slice ua1 x1.length uc1, .int .i64 a2, .int .i64 a3]) ?_ rfl ?_
  · simp [results, Try.f119, go_sem, e0, e1, e2, e3]
  · exact ⟨[.int .i64 a0, .slice ua1 x1.length uc1, .int .i64 a2, .int .i64 a3], rfl, tVersion_mkO o1 (fun b h => by show w.heap.size ≤ b; have := h.1; omega) , hb⟩
set_option maxHeartbeats 8000000 in
set_option maxRecDepth 100000 in
theorem eqVersion_T (a0 a2 a3 : Int) (v1 : Value) (x1 : List Int) (u1 : Value) (w : World) (h1 : SlR tInt w v1 x1) (g1 : SlR tInt w u1 x1) (s1 : zL tInt x1 ≤ 1048576) :
    Calls Try.prog 121 #[.agg #[.int .i64 a0, v1, .int .i64 a2, .int .i64 a3], .agg #[.int .i64 a0, u1, .int .i64 a2, .int .i64 a3]] w fun e w' => e = .returned (.bool true) ∧ Below w.heap.size w w' := by
  have H1 := Lib.hid h1; have G1 := Lib.hid g1; have S1 := Lib.hid s1
  clear h1 g1 s1
  have e0 : (a0 != a0) = false := by simp
  have e2 : (a2 != a2) = false := by simp
  have e3 : (a3 != a3) = false := by simp
  go_enter Try.func121, Try.ntmps121
  go_wp2_with fail
  have hb : Below w.heap.size w ((w.alloc (.cells #[.int .i64 a0, v1, .int .i64 a2, .int .i64 a3] 115)).alloc (.cells #[.int .i64 a0, u1, .int .i64 a2, .int .i64 a3] 115)) := ((Below.refl _ w).alloc (Nat.le_refl _) _).alloc (by simp) _
  have g1 : ((w.alloc (.cells #[.int .i64 a0, v1, .int .i64 a2, .int .i64 a3] 115)).alloc (.cells #[.int .i64 a0, u1, .int .i64 a2, .int .i64 a3] 115)).heap[w.heap.size + 1]? = some (.cells #[.int .i64 a0, u1, .int .i64 a2, .int .i64 a3] 115 (0, 0)) := by
    have := heap_alloc_new (w.alloc (.cells #[.int .i64 a0, v1, .int .i64 a2, .int .i64 a3] 115)) (.cells #[.int .i64 a0, u1, .int .i64 a2, .int .i64 a3] 115)
    simpa only [World.size_alloc] using this
  have g0 : ((w.alloc (.cells #[.int .i64 a0, v1, .int .i64 a2, .int .i64 a3] 115)).alloc (.cells #[.int .i64 a0, u1, .int .i64 a2, .int .i64 a3] 115)).heap[w.heap.size]? = some (.cells #[.int .i64 a0, v1, .int .i64 a2, .int .i64 a3] 115 (0, 0)) := by
    rw [Below.heap_alloc _ _ _ (by simp)]
    exact heap_alloc_new w _
  have hz : w.heap.size + 1 < ((w.alloc (.cells #[.int .i64 a0, v1, .int .i64 a2, .int .i64 a3] 115)).alloc (.cells #[.int .i64 a0, u1, .int .i64 a2, .int .i64 a3] 115)).heap.size := by simp [World.size_alloc]
  generalize ((w.alloc (.cells #[.int .i64 a0, v1, .int .i64 a2, .int .i64 a3] 115)).alloc (.cells #[.int .i64 a0, u1, .int .i64 a2, .int .i64 a3] 115)) = W at *
  refine (eqIntS_S v1 u1 x1 W (slR_below tInt_law H1.out hb) (slR_below tInt_law G1.out hb) S1.out).mono ?_
  rintro e w1 ⟨rfl, b1⟩
  replace g0 := (b1.block _ (by omega)).trans g0
  replace g1 := (b1.block _ (by omega)).trans g1
  have zz0 := b1.size
  replace hb := hb.trans (b1.mono (by omega))
  clear b1
  have p0_2 := (cell_of_row w1 _ 2 _ _ _ g0).trans (show _ = some (Value.int .i64 a2) from rfl)
  have p1_2 := (cell_of_row w1 _ 2 _ _ _ g1).trans (show _ = some (Value.int .i64 a2) from rfl)
  have p0_3 := (cell_of_row w1 _ 3 _ _ _ g0).trans (show _ = some (Value.int .i64 a3) from rfl)
  have p1_3 := (cell_of_row w1 _ 3 _ _ _ g1).trans (show _ = some (Value.int .i64 a3) from rfl)
  go_wp2
  clear p0_2 p1_2 p0_3 p1_3
  go_ret
  exact ⟨rfl, hb⟩
end Go.Proofs.Ytdhglmoanpkeoaa
namespace Go.Proofs.Ytdhglmoanpkeoaa
open Go.RowKit
set_option linter.unusedVariables false
set_option linter.unusedSimpArgs false
abbrev tVersionS : Ty (List (Int × List Int × Int × Int)) := tSl 115 tVersion
theorem tVersionS_law : tVersionS.Law := tSl_law tVersion_law (by decide)
set_option maxHeartbeats 8000000 in
set_option maxRecDepth 100000 in
theorem szVersionS_Y (v : Value) (xs : List (Int × List Int × Int × Int)) (k0 : Int) (w : World) (h : SlR tVersion w v xs) (hs : ((zL tVersion xs : Nat) : Int) ≤ k0) (hk : k0 ≤ 1048576) :
    Calls Try.prog 78 #[v, .int .i64 k0] w fun e w' => e = .returned (.int .i64 (k0 - ((zL tVersion xs : Nat) : Int))) ∧ Below w.heap.size w w' := by
  have H := Lib.hid h
  obtain ⟨a, cap, rfl⟩ := slR_len h
  clear h
  have h00 := zTo_le (T := tVersion) (xs := xs) (Nat.zero_le _)
  rw [zTo_zero] at h00
  have HS := Lib.hid hs
  go_enter Try.func78, Try.ntmps78
  have hneg : ¬ k0 - (xs.length : Int) < 0 := by omega
  go_wp2
  clear hneg
  go_loopw [1, 5] (fun l i wr => ∃ k : Nat, k ≤ xs.length ∧ i = .int .i64 k ∧ l = .int .i64 (k0 - (zTo tVersion xs k : Int)) ∧ Below w.heap.size w wr) (fun _ i _ => xs.length - (intOf i).toNat)
  case atStart => exact ⟨0, Nat.zero_le _, rfl, by rw [zTo_zero], Below.refl _ _⟩
  case round =>
    obtain ⟨k, hk', rfl, rfl, hbel⟩ := hrel
    by_cases hlt : k < xs.length
    · have HST := Lib.hid (zTo_step (T := tVersion) hlt)
      have HLE := Lib.hid (zTo_le (T := tVersion) (xs := xs) (k := k + 1) (by omega))
      have i1 : (0 : Int) ≤ (k : Int) := by omega
      have i2 : (k : Int) < (xs.length : Int) := by omega
      obtain ⟨b, off, cap', cs, hv, hbl, hcs, hR⟩ := slR_at (slR_below tVersion_law H.out hbel) hlt
      simp only [Value.slice.injEq] at hv
      obtain ⟨rfl, _, rfl⟩ := hv
      generalize xs.getD k tVersion.d = x at *
      obtain ⟨a0, x1, a2, a3⟩ := x
      obtain ⟨v1, hR'⟩ := tVersion_R hR
      obtain ⟨rfl, h1⟩ := hR'
      have p0 : wr.cell? ⟨b, off + k * 4, none⟩ = some (Value.int .i64 a0) := hcs 0 (by decide)
      have p1 : wr.cell? ⟨b, off + k * 4 + 1, none⟩ = some (v1) := hcs 1 (by decide)
      have p2 : wr.cell? ⟨b, off + k * 4 + 2, none⟩ = some (Value.int .i64 a2) := hcs 2 (by decide)
      have p3 : wr.cell? ⟨b, off + k * 4 + 3, none⟩ = some (Value.int .i64 a3) := hcs 3 (by decide)
      clear hcs
      have HQ : Hid (tVersion.sz (a0, x1, a2, a3) = zL tInt x1) := Lib.hid tVersion_sz
      have hx1 : ((zL tInt x1 : Nat) : Int) ≤ k0 - (zTo tVersion xs k : Int) := by have := HST.out; have := HLE.out; have := HQ.out; omega
      have hx2 : k0 - (zTo tVersion xs k : Int) ≤ 1048576 := by omega
      have hneg : ¬ k0 - (zTo tVersion xs k : Int) - ((zL tInt x1 : Nat) : Int) < 0 := by omega
      have HC := Lib.hid (fun W b => szVersion_Y a0 a2 a3 v1 x1 (k0 - (zTo tVersion xs k : Int)) W (slR_below tInt_law h1 b) hx1 hx2)
      go_wp2_with fail
      refine (HC.out _ (Below.refl _ _)).mono ?_
      rintro e w1 ⟨rfl, b1⟩
      have b2 := hbel.trans (b1.mono hbel.size)
      go_wp2
      go_roundw
      case rel => exact ⟨k + 1, by omega, by go_num, by rw [HST.out, HQ.out]; go_num, b2⟩
      case measure => simp [intOf]; omega
    · obtain rfl : k = xs.length := by omega
      go_wp2
      go_ret
      exact ⟨rfl, hbel⟩
set_option maxHeartbeats 8000000 in
set_option maxRecDepth 100000 in
theorem szVersionS_N (v : Value) (xs : List (Int × List Int × Int × Int)) (k0 : Int) (w : World) (h : SlR tVersion w v xs) (hs : k0 < ((zL tVersion xs : Nat) : Int)) (hk : k0 ≤ 1048576) (hp : 0 ≤ k0) (ho : tVersionS.ok xs) :
    Calls Try.prog 78 #[v, .int .i64 k0] w fun e w' => e = .returned (.int .i64 (-1)) ∧ Below w.heap.size w w' := by
  have H := Lib.hid h
  have HX := Lib.hid ho.2
  have hn := ho.1
  have HS := Lib.hid hs
  obtain ⟨a, cap, rfl⟩ := slR_len h
  clear h ho hs
  by_cases h1 : k0 < (xs.length : Int)
  · have hneg : k0 - (xs.length : Int) < 0 := by omega
    go_enter Try.func78, Try.ntmps78
    go_wp2
    go_ret
    exact ⟨rfl, Below.refl _ _⟩
  · go_enter Try.func78, Try.ntmps78
    have hneg : ¬ k0 - (xs.length : Int) < 0 := by omega
    go_wp2
    clear hneg
    go_loopw [1, 5] (fun l i wr => ∃ k : Nat, k ≤ xs.length ∧ i = .int .i64 k ∧ l = .int .i64 (k0 - (zTo tVersion xs k : Int)) ∧ (zTo tVersion xs k : Int) ≤ k0 ∧ Below w.heap.size w wr) (fun _ i _ => xs.length - (intOf i).toNat)
    case atStart => exact ⟨0, Nat.zero_le _, rfl, by rw [zTo_zero], by rw [zTo_zero]; omega, Below.refl _ _⟩
    case round =>
      obtain ⟨k, hk', rfl, rfl, hle, hbel⟩ := hrel
      by_cases hlt : k < xs.length
      · have HST := Lib.hid (zTo_step (T := tVersion) hlt)
        have hx := HX.out k hlt
        have i1 : (0 : Int) ≤ (k : Int) := by omega
        have i2 : (k : Int) < (xs.length : Int) := by omega
        obtain ⟨b, off, cap', cs, hv, hbl, hcs, hR⟩ := slR_at (slR_below tVersion_law H.out hbel) hlt
        simp only [Value.slice.injEq] at hv
        obtain ⟨rfl, _, rfl⟩ := hv
        generalize xs.getD k tVersion.d = x at *
        obtain ⟨a0, x1, a2, a3⟩ := x
        obtain ⟨v1, hR'⟩ := tVersion_R hR
        obtain ⟨rfl, h1⟩ := hR'
        have p0 : wr.cell? ⟨b, off + k * 4, none⟩ = some (Value.int .i64 a0) := hcs 0 (by decide)
        have p1 : wr.cell? ⟨b, off + k * 4 + 1, none⟩ = some (v1) := hcs 1 (by decide)
        have p2 : wr.cell? ⟨b, off + k * 4 + 2, none⟩ = some (Value.int .i64 a2) := hcs 2 (by decide)
        have p3 : wr.cell? ⟨b, off + k * 4 + 3, none⟩ = some (Value.int .i64 a3) := hcs 3 (by decide)
        clear hcs
        have HQ : Hid (tVersion.sz (a0, x1, a2, a3) = zL tInt x1) := Lib.hid tVersion_sz
        obtain ⟨_, ⟨o1, ⟨_, _⟩⟩⟩ := hx
        have hz0 : (0 : Int) ≤ (zTo tVersion xs k : Int) := by omega
        by_cases hg : ((zL tInt x1 : Nat) : Int) ≤ k0 - (zTo tVersion xs k : Int)
        · have hx2 : k0 - (zTo tVersion xs k : Int) ≤ 1048576 := by omega
          have hneg : ¬ k0 - (zTo tVersion xs k : Int) - ((zL tInt x1 : Nat) : Int) < 0 := by omega
          have HC := Lib.hid (fun W b => szVersion_Y a0 a2 a3 v1 x1 (k0 - (zTo tVersion xs k : Int)) W (slR_below tInt_law h1 b) hg hx2)
          go_wp2_with fail
          refine (HC.out _ (Below.refl _ _)).mono ?_
          rintro e w1 ⟨rfl, b1⟩
          have b2 := hbel.trans (b1.mono hbel.size)
          go_wp2
          go_roundw
          case rel => exact ⟨k + 1, by omega, by go_num, by rw [HST.out, HQ.out]; go_num, by rw [HST.out, HQ.out]; omega, b2⟩
          case measure => simp [intOf]; omega
        · have hx1 : k0 - (zTo tVersion xs k : Int) < ((zL tInt x1 : Nat) : Int) := by omega
          have hx0 : 0 ≤ k0 - (zTo tVersion xs k : Int) := by omega
          have hx2 : k0 - (zTo tVersion xs k : Int) ≤ 1048576 := by omega
          have HC := Lib.hid (fun W b => szVersion_N a0 a2 a3 v1 x1 (k0 - (zTo tVersion xs k : Int)) W (slR_below tInt_law h1 b) hx1 hx2 hx0 o1)
          clear hg
          go_wp2_with fail
          refine (HC.out _ (Below.refl _ _)).mono ?_
          rintro e w1 ⟨rfl, b1⟩
          have b2 := hbel.trans (b1.mono hbel.size)
          go_wp2
          go_ret
          exact ⟨rfl, b2⟩
      · obtain rfl : k = xs.length := by omega
        exact absurd HS.out (by show ¬ k0 < ((zTo tVersion xs xs.length : Nat) : Int); omega)
theorem Try.info_Version : (Try.prog.info? 115).map (fun i => (i.zero, i.size)) = some (some (.agg #[.int .i64 0, .slice none 0 0, .int .i64 0, .int .i64 0]), 4) := by kernel_rfl
theorem Try.bytes_Version : ((Try.prog.info? 115).map (fun i => decide (i.bytes ≤ 512))) = some true := by kernel_rfl
theorem tVersion_zero (w : World) : tVersion.O w (fun _ => False) #[.int .i64 0, .slice none 0 0, .int .i64 0, .int .i64 0].toList tVersion.d := tVersion_mkO (slO_nil _ _ _ (fun _ => False)) (fun b h => h) 
set_option maxHeartbeats 8000000 in
set_option maxRecDepth 100000 in
theorem toVersionS_S (v : Value) (xs : List (Int × List Int × Int × Int)) (w : World) (h : SlR tVersion w v xs) (hs : zL tVersion xs ≤ 1048576) :
    Calls Try.prog 83 #[v] w (FreshS 115 tVersion w xs) := by
  obtain ⟨i0, hi, hz0, hz1⟩ : ∃ i0, Try.prog.info? 115 = some i0 ∧ i0.zero = some (.agg #[.int .i64 0, .slice none 0 0, .int .i64 0, .int .i64 0]) ∧ i0.size = 4 := by
    have h0 := Try.info_Version
    cases q : Try.prog.info? 115 with
    | none => rw [q] at h0; simp at h0
    | some i => rw [q] at h0; simp only [Option.map_some, Option.some.injEq, Prod.mk.injEq] at h0; exact ⟨i, rfl, h0.1, h0.2⟩
  have hz2 : i0.bytes ≤ 512 := by
    have h0 := Try.bytes_Version
    rw [hi] at h0
    simpa using h0
  have HI := Lib.hid hi; have HZ0 := Lib.hid hz0; have HZ1 := Lib.hid hz1; have HZ2 := Lib.hid hz2
  clear hi hz0 hz1 hz2
  have H := Lib.hid h
  have hlen := zL_len hs
  have HS := Lib.hid hs
  obtain ⟨a, cap, rfl⟩ := slR_len h
  clear h hs
  go_enter Try.func83, Try.ntmps83
  go_wp2_with (at_make; refine wpList_make_full _ rfl (.tmp 6) (.tmp 6) 61 rfl w.heap.size 115 i0 (.agg #[.int .i64 0, .slice none 0 0, .int .i64 0, .int .i64 0]) 4 Try.underlying61 HI.out HZ0.out HZ1.out _ _ _ _ xs.length rfl rfl rfl rfl (by have h9 := Nat.mul_le_mul HZ2.out hlen; have h8 := Nat.mul_le_mul hlen HZ2.out; omega) (by unfold maxLen; omega) (Nat.le_refl _) ?_)
  intro w1 hown0 hg0
  have hown1 : SlO 115 tVersion w1 (since w) (.slice (some ⟨w.heap.size, 0, none⟩) xs.length xs.length) (List.replicate xs.length tVersion.d) := slO_made (z := #[.int .i64 0, .slice none 0 0, .int .i64 0, .int .i64 0]) tVersion_law rfl (tVersion_zero w1) (Nat.le_refl _) hown0
  have hbel1 := (Below.refl w.heap.size w).grown hg0 (Nat.le_refl _) (fun k hk => by cases hk)
  clear hown0 hg0
  go_wp2
  go_loopw [4] (fun i wr => ∃ k : Nat, k ≤ xs.length ∧ i = .int .i64 k ∧ SlO 115 tVersion wr (since w) (.slice (some ⟨w.heap.size, 0, none⟩) xs.length xs.length) (xs.take k ++ List.replicate (xs.length - k) tVersion.d) ∧ Below w.heap.size w wr) (fun i _ => xs.length - (intOf i).toNat)
  case atStart => exact ⟨0, Nat.zero_le _, rfl, by simpa using hown1, hbel1⟩
  case round =>
    obtain ⟨k, hk, rfl, hown, hbel⟩ := hrel
    by_cases hlt : k < xs.length
    · have HSET := Lib.hid (cTo_step (d := tVersion.d) hlt)
      have HKL : Hid (k < (xs.take k ++ List.replicate (xs.length - k) tVersion.d).length) := Lib.hid (by rw [cTo_len hk]; exact hlt)
      have HLL := Lib.hid (cTo_len (d := tVersion.d) hk)
      have i1 : (0 : Int) ≤ (k : Int) := by omega
      have i2 : (k : Int) < (xs.length : Int) := by omega
      have hzx := zL_at HS.out hlt
      obtain ⟨b, off, cap', cs, hv, hbl, hcs, hR⟩ := slR_at (slR_below tVersion_law H.out hbel) hlt
      simp only [Value.slice.injEq] at hv
      obtain ⟨rfl, _, rfl⟩ := hv
      obtain ⟨hme, hFg, hgl, cj, Fj, Lc, hrow, hLc, hO, hFj, hput⟩ := slO_open tVersion_law hown HKL.out
      clear hme
      clear hown1 hbel1
      generalize xs.getD k tVersion.d = x at *
      generalize xs.take k ++ List.replicate (xs.length - k) tVersion.d = ys at *
      obtain ⟨a0, x1, a2, a3⟩ := x
      obtain ⟨v1, hR'⟩ := tVersion_R hR
      obtain ⟨rfl, h1⟩ := hR'
      have p0 : wr.cell? ⟨b, off + k * 4, none⟩ = some (Value.int .i64 a0) := hcs 0 (by decide)
      have p1 : wr.cell? ⟨b, off + k * 4 + 1, none⟩ = some (v1) := hcs 1 (by decide)
      have p2 : wr.cell? ⟨b, off + k * 4 + 2, none⟩ = some (Value.int .i64 a2) := hcs 2 (by decide)
      have p3 : wr.cell? ⟨b, off + k * 4 + 3, none⟩ = some (Value.int .i64 a3) := hcs 3 (by decide)
      rw [tVersion_sz] at hzx
      have S1 := Lib.hid (show zL tInt x1 ≤ 1048576 by omega)
      have HC := Lib.hid (fun w g1 => toVersion_T a0 a2 a3 v1 x1 w g1 S1.out)
      have G1 := Lib.hid h1
      clear hcs hzx h1
      go_wp2_with fail
      refine (HC.out _ G1.out).mono ?_
      rintro e w2 ⟨cv, rfl, ow, b2⟩
      replace ow := tVersion_law.lt ow
      have ow2 := ow
      obtain ⟨u1, K1, rfl, o1, _⟩ := tVersion_O ow2
      obtain ⟨ua1, uc1, rfl⟩ := slO_len o1
      clear o1
      have r0 := row_turn (G := fun _ => False) hrow (turn_below b2) (fun _ _ => not_false)
      rw [HLL.out] at r0
      have q0 : ∃ x, w2.cell? ⟨w.heap.size, k * 4, none⟩ = some x := ⟨_, (World.ownsRow.cellAt r0 (k * 4) (by have := HKL.out; rw [HLL.out] at this; show _ < xs.length * 4; omega)).trans (List.getElem?_eq_getElem (by have h1 : Lc.length = xs.length * 4 := r0.1; omega))⟩
      obtain ⟨y0, q0⟩ := q0
      have f0 := World.ownsRow.frozenAt r0 (k * 4)
      have q1 : ∃ x, w2.cell? ⟨w.heap.size, k * 4 + 1, none⟩ = some x := ⟨_, (World.ownsRow.cellAt r0 (k * 4 + 1) (by have := HKL.out; rw [HLL.out] at this; show _ < xs.length * 4; omega)).trans (List.getElem?_eq_getElem (by have h1 : Lc.length = xs.length * 4 := r0.1; omega))⟩
      obtain ⟨y1, q1⟩ := q1
      have f1 := World.ownsRow.frozenAt r0 (k * 4 + 1)
      have q2 : ∃ x, w2.cell? ⟨w.heap.size, k * 4 + 2, none⟩ = some x := ⟨_, (World.ownsRow.cellAt r0 (k * 4 + 2) (by have := HKL.out; rw [HLL.out] at this; show _ < xs.length * 4; omega)).trans (List.getElem?_eq_getElem (by have h1 : Lc.length = xs.length * 4 := r0.1; omega))⟩
      obtain ⟨y2, q2⟩ := q2
      have f2 := World.ownsRow.frozenAt r0 (k * 4 + 2)
      have q3 : ∃ x, w2.cell? ⟨w.heap.size, k * 4 + 3, none⟩ = some x := ⟨_, (World.ownsRow.cellAt r0 (k * 4 + 3) (by have := HKL.out; rw [HLL.out] at this; show _ < xs.length * 4; omega)).trans (List.getElem?_eq_getElem (by have h1 : Lc.length = xs.length * 4 := r0.1; omega))⟩
      obtain ⟨y3, q3⟩ := q3
      have f3 := World.ownsRow.frozenAt r0 (k * 4 + 3)
      have b3 := hbel.trans (b2.mono hbel.size)
      have B3 := Lib.hid ((((b3.setCell (p := ⟨w.heap.size, k * 4, none⟩) (Nat.le_refl _) (.int .i64 a0)).setCell (p := ⟨w.heap.size, k * 4 + 1, none⟩) (Nat.le_refl _) (.slice ua1 x1.length uc1)).setCell (p := ⟨w.heap.size, k * 4 + 2, none⟩) (Nat.le_refl _) (.int .i64 a2)).setCell (p := ⟨w.heap.size, k * 4 + 3, none⟩) (Nat.le_refl _) (.int .i64 a3))
      have hT : Turn (fun b => b = w.heap.size ∨ Fj b ∨ wr.heap.size ≤ b) wr ((((w2.setCell ⟨w.heap.size, k * 4, none⟩ (.int .i64 a0)).setCell ⟨w.heap.size, k * 4 + 1, none⟩ (.slice ua1 x1.length uc1)).setCell ⟨w.heap.size, k * 4 + 2, none⟩ (.int .i64 a2)).setCell ⟨w.heap.size, k * 4 + 3, none⟩ (.int .i64 a3)) := (((((turn_below b2).trans (turn_set (j := k * 4) (u := .int .i64 a0) (Or.inl rfl))).trans (turn_set (j := k * 4 + 1) (u := .slice ua1 x1.length uc1) (Or.inl rfl))).trans (turn_set (j := k * 4 + 2) (u := .int .i64 a2) (Or.inl rfl))).trans (turn_set (j := k * 4 + 3) (u := .int .i64 a3) (Or.inl rfl)))
      have hT2 : Turn (fun b => b = w.heap.size) w2 ((((w2.setCell ⟨w.heap.size, k * 4, none⟩ (.int .i64 a0)).setCell ⟨w.heap.size, k * 4 + 1, none⟩ (.slice ua1 x1.length uc1)).setCell ⟨w.heap.size, k * 4 + 2, none⟩ (.int .i64 a2)).setCell ⟨w.heap.size, k * 4 + 3, none⟩ (.int .i64 a3)) := (((((Turn.refl (fun b => b = w.heap.size) _).trans (turn_set (G := fun b => b = w.heap.size) (j := k * 4) (u := .int .i64 a0) rfl)).trans (turn_set (G := fun b => b = w.heap.size) (j := k * 4 + 1) (u := .slice ua1 x1.length uc1) rfl)).trans (turn_set (G := fun b => b = w.heap.size) (j := k * 4 + 2) (u := .int .i64 a2) rfl)).trans (turn_set (G := fun b => b = w.heap.size) (j := k * 4 + 3) (u := .int .i64 a3) rfl))
      have hO2 := tVersion_law.turn ow hT2 (fun b h1 h2 => by have := h1.1; simp only [since] at this; omega)
      have r9 := (World.ownsRow.stored (World.ownsRow.stored (World.ownsRow.stored (World.ownsRow.stored r0 (k * 4) (.int .i64 a0)).1 (k * 4 + 1) (.slice ua1 x1.length uc1)).1 (k * 4 + 2) (.int .i64 a2)).1 (k * 4 + 3) (.int .i64 a3)).1
      have hLl : Lc.length = xs.length * 4 := r0.1
      have hst := Lib.hid (hput ((((w2.setCell ⟨w.heap.size, k * 4, none⟩ (.int .i64 a0)).setCell ⟨w.heap.size, k * 4 + 1, none⟩ (.slice ua1 x1.length uc1)).setCell ⟨w.heap.size, k * 4 + 2, none⟩ (.int .i64 a2)).setCell ⟨w.heap.size, k * 4 + 3, none⟩ (.int .i64 a3)) ((((Lc.set (k * 4) (.int .i64 a0)).set (k * 4 + 1) (.slice ua1 x1.length uc1)).set (k * 4 + 2) (.int .i64 a2)).set (k * 4 + 3) (.int .i64 a3)) [.int .i64 a0, .slice ua1 x1.length uc1, .int .i64 a2, .int .i64 a3] _ (a0, x1, a2, a3) (by rw [HLL.out]; exact r9) (fun p hp => by have hp2 : p < k * 4 ∨ k * 4 + 4 ≤ p := hp; rw [List.getElem?_set_ne (by omega)]; rw [List.getElem?_set_ne (by omega)]; rw [List.getElem?_set_ne (by omega)]; rw [List.getElem?_set_ne (by omega)]) (fun i hi => by have hi' : i < 4 := hi; match i, hi' with | 0, _ => (show (((((Lc.set (k * 4) (.int .i64 a0)).set (k * 4 + 1) (.slice ua1 x1.length uc1)).set (k * 4 + 2) (.int .i64 a2)).set (k * 4 + 3) (.int .i64 a3)))[k * 4]? = _; rw [List.getElem?_set_ne (by omega)]; rw [List.getElem?_set_ne (by omega)]; rw [List.getElem?_set_ne (by omega)]; rw [List.getElem?_set_self (by first | omega | (simp only [List.length_set]; omega))]; rfl) | 1, _ => (show (((((Lc.set (k * 4) (.int .i64 a0)).set (k * 4 + 1) (.slice ua1 x1.length uc1)).set (k * 4 + 2) (.int .i64 a2)).set (k * 4 + 3) (.int .i64 a3)))[k * 4 + 1]? = _; rw [List.getElem?_set_ne (by omega)]; rw [List.getElem?_set_ne (by omega)]; rw [List.getElem?_set_self (by first | omega | (simp only [List.length_set]; omega))]; rfl) | 2, _ => (show (((((Lc.set (k * 4) (.int .i64 a0)).set (k * 4 + 1) (.slice ua1 x1.length uc1)).set (k * 4 + 2) (.int .i64 a2)).set (k * 4 + 3) (.int .i64 a3)))[k * 4 + 2]? = _; rw [List.getElem?_set_ne (by omega)]; rw [List.getElem?_set_self (by first | omega | (simp only [List.length_set]; omega))]; rfl) | 3, _ => (show (((((Lc.set (k * 4) (.int .i64 a0)).set (k * 4 + 1) (.slice ua1 x1.length uc1)).set (k * 4 + 2) (.int .i64 a2)).set (k * 4 + 3) (.int .i64 a3)))[k * 4 + 3]? = _; rw [List.getElem?_set_self (by first | omega | (simp only [List.length_set]; omega))]; rfl)) hO2 (fun b hb => ⟨Nat.le_trans hbel.size hb.1, Or.inr hb.1⟩) hT)
      have hst2 : SlO 115 tVersion ((((w2.setCell ⟨w.heap.size, k * 4, none⟩ (.int .i64 a0)).setCell ⟨w.heap.size, k * 4 + 1, none⟩ (.slice ua1 x1.length uc1)).setCell ⟨w.heap.size, k * 4 + 2, none⟩ (.int .i64 a2)).setCell ⟨w.heap.size, k * 4 + 3, none⟩ (.int .i64 a3)) (since w) (.slice (some ⟨w.heap.size, 0, none⟩) xs.length xs.length) (xs.take (k + 1) ++ List.replicate (xs.length - (k + 1)) tVersion.d) := by have := hst.out; rw [HSET.out] at this; exact this
      have HST := Lib.hid hst2
      clear hst hst2 hT hT2 hO2 r9 r0 hrow hO hput hown hbel b2 ow b3 hLl hLc hFj
      go_wp2
      go_roundw
      case rel => exact ⟨k + 1, by omega, by go_num, HST.out, B3.out⟩
      case measure => simp [intOf]; omega
    · obtain rfl : k = xs.length := by omega
      have HE : Hid (xs.take xs.length ++ List.replicate (xs.length - xs.length) tVersion.d = xs) := Lib.hid (by simp)
      rw [HE.out] at hown
      go_wp2
      go_ret
      exact ⟨_, rfl, hown, hbel⟩
set_option maxHeartbeats 8000000 in
set_option maxRecDepth 100000 in
theorem eqVersionS_S (v u : Value) (xs : List (Int × List Int × Int × Int)) (w : World) (h : SlR tVersion w v xs) (g : SlR tVersion w u xs) (hs : zL tVersion xs ≤ 1048576) :
    Calls Try.prog 89 #[v, u] w fun e w' => e = .returned (.bool true) ∧ Below w.heap.size w w' := by
  have H := Lib.hid h
  have G := Lib.hid g
  have HS := Lib.hid hs
  have hlen := zL_len hs
  obtain ⟨a, cap, rfl⟩ := slR_len h
  obtain ⟨a2, cap2, rfl⟩ := slR_len g
  clear h g hs
  go_enter Try.func89, Try.ntmps89
  go_wp2
  go_loopw [5] (fun i wr => ∃ k : Nat, k ≤ xs.length ∧ i = .int .i64 k ∧ Below w.heap.size w wr) (fun i _ => xs.length - (intOf i).toNat)
  case atStart => exact ⟨0, Nat.zero_le _, rfl, Below.refl _ _⟩
  case round =>
    obtain ⟨k, hk, rfl, hbel⟩ := hrel
    by_cases hlt : k < xs.length
    · obtain ⟨b, off, cap', cs, hv, hbl, hcs, hR⟩ := slR_at (slR_below tVersion_law H.out hbel) hlt
      simp only [Value.slice.injEq] at hv
      obtain ⟨rfl, _, rfl⟩ := hv
      obtain ⟨b2, off2, cap2', ds, hv2, hbl2, hds, hQ⟩ := slR_at (slR_below tVersion_law G.out hbel) hlt
      simp only [Value.slice.injEq] at hv2
      obtain ⟨rfl, _, rfl⟩ := hv2
      have hzx := zL_at HS.out hlt
      have i1 : (0 : Int) ≤ (k : Int) := by omega
      have i2 : (k : Int) < (xs.length : Int) := by omega
      generalize xs.getD k tVersion.d = x at *
      obtain ⟨a0, x1, a2, a3⟩ := x
      obtain ⟨v1, hR'⟩ := tVersion_R hR
      obtain ⟨rfl, h1⟩ := hR'
      obtain ⟨u1, hQ'⟩ := tVersion_R hQ
      obtain ⟨rfl, g1⟩ := hQ'
      rw [tVersion_sz] at hzx
      have S1 := Lib.hid (show zL tInt x1 ≤ 1048576 by omega)
      have p0 : wr.cell? ⟨b, off + k * 4, none⟩ = some (Value.int .i64 a0) := hcs 0 (by decide)
      have q0 : wr.cell? ⟨b2, off2 + k * 4, none⟩ = some (Value.int .i64 a0) := hds 0 (by decide)
      have p1 : wr.cell? ⟨b, off + k * 4 + 1, none⟩ = some (v1) := hcs 1 (by decide)
      have q1 : wr.cell? ⟨b2, off2 + k * 4 + 1, none⟩ = some (u1) := hds 1 (by decide)
      have p2 : wr.cell? ⟨b, off + k * 4 + 2, none⟩ = some (Value.int .i64 a2) := hcs 2 (by decide)
      have q2 : wr.cell? ⟨b2, off2 + k * 4 + 2, none⟩ = some (Value.int .i64 a2) := hds 2 (by decide)
      have p3 : wr.cell? ⟨b, off + k * 4 + 3, none⟩ = some (Value.int .i64 a3) := hcs 3 (by decide)
      have q3 : wr.cell? ⟨b2, off2 + k * 4 + 3, none⟩ = some (Value.int .i64 a3) := hds 3 (by decide)
      clear hcs hds hzx
      go_wp2
      go_region_with (first | (go_at_call 121; refine (eqVersion_T a0 a2 a3 v1 x1 u1 _ (by exact slR_same tInt_law h1 rfl rfl rfl rfl) (by exact slR_same tInt_law g1 rfl rfl rfl rfl) S1.out).mono ?_; rintro e w8 ⟨rfl, b9⟩; have b10 : Below wr.heap.size wr w8 := ⟨b9.os, b9.tape, b9.output, b9.size, b9.block⟩))
      all_goals
        have b11 := hbel.trans (b10.mono hbel.size)
        go_wp2
        go_roundw
        case rel => exact ⟨k + 1, by omega, by go_num, b11⟩
        case measure => simp [intOf]; omega
    · go_wp2
      go_ret
      exact ⟨rfl, hbel⟩
set_option maxHeartbeats 8000000 in
set_option maxRecDepth 100000 in
theorem markVersionS_S (v : Value) (xs : List (Int × List Int × Int × Int)) (F : Nat → Prop) (k : Int) (w : World) (h : SlO 115 tVersion w F v xs) (hs : zL tVersion xs ≤ 1048576) (k0 : 0 ≤ k) (k1 : k ≤ 1006632960) :
    Calls Try.prog 90 #[v, .int .i64 k] w fun e w' => e = .returned (.int .i64 (k + (ndL tVersion xs : Int))) ∧ SlO 115 tVersion w' F v (mAll tVersion xs k) ∧ Turn F w w' := by
  rw [← kAt_all]
  have HS := Lib.hid hs
  have hlen := zL_len hs
  rcases slO_form h with ⟨rfl, rfl⟩ | ⟨g, cap, rfl, hFg, hgw⟩
  · have H := Lib.hid h
    clear h hs
    go_enter Try.func90, Try.ntmps90
    go_wp2
    go_loop [1, 5] (fun m i => i = .int .i64 0 ∧ m = .int .i64 k) (fun _ _ => 0)
    case atStart => exact ⟨rfl, rfl⟩
    case round =>
      obtain ⟨rfl, rfl⟩ := hrel
      go_wp2
      go_ret
      exact ⟨by simp [kAt, sumN], by rw [show mAll tVersion [] k = [] from rfl]; exact H.out, Turn.refl _ _⟩
  · have H := Lib.hid h
    clear h hs
    go_enter Try.func90, Try.ntmps90
    go_wp2
    go_loopw [1, 5] (fun m i wr => ∃ j : Nat, j ≤ xs.length ∧ i = .int .i64 j ∧ m = .int .i64 (kAt tVersion xs k j) ∧ SlO 115 tVersion wr (fun b => F b ∧ b < w.heap.size) (.slice (some ⟨g, 0, none⟩) xs.length cap) (mTo tVersion xs k j) ∧ Turn F w wr) (fun _ i _ => xs.length - (intOf i).toNat)
    case atStart => exact ⟨0, Nat.zero_le _, rfl, by rw [kAt_zero], by rw [mTo_zero]; exact slO_lt tVersion_law H.out, Turn.refl _ _⟩
    case round =>
      obtain ⟨j, hj, rfl, rfl, hown, hon⟩ := hrel
      by_cases hlt : j < xs.length
      · have i1 : (0 : Int) ≤ (j : Int) := by omega
        have i2 : (j : Int) < (xs.length : Int) := by omega
        have hjl : j < (mTo tVersion xs k j).length := by rw [mTo_len hj]; exact hlt
        have HLL := Lib.hid (mTo_len (T := tVersion) (k := k) hj)
        obtain ⟨r1, r2⟩ := kAt_range tVersion_law (by decide) (k := k) HS.out hj
        obtain ⟨r3, r4⟩ := kAt_range tVersion_law (by decide) (k := k) (j := j + 1) HS.out (by omega)
        have hzx := zL_at HS.out hlt
        have hstep := kAt_step (T := tVersion) (k := k) hlt
        have hset := mTo_step (T := tVersion) (k := k) hlt
        have hsz := hon.size
        obtain ⟨hme, hFg2, hgl, cj, Fj, Lc, hrow, hLc, hO, hFj, hput⟩ := slO_open tVersion_law hown hjl
        clear hme hFg2
        rw [mTo_at hlt] at hO
        have HM : Hid (∃ m', kAt tVersion xs k (j + 1) = m') := Lib.hid ⟨_, rfl⟩
        obtain ⟨m', hm'⟩ := HM.out
        rw [hm'] at hstep r3 r4
        have HM' := Lib.hid hm'
        clear hm' HM H hown hjl
        generalize kAt tVersion xs k j = m at *
        generalize xs.getD j tVersion.d = x at *
        rw [HLL.out] at hrow hput
        obtain ⟨a0, x1, a2, a3⟩ := x
        rw [tVersion_md] at hset
        rw [tVersion_nd] at hstep
        rw [tVersion_sz] at hzx
        obtain ⟨v1, K1, rfl, o1, q1⟩ := tVersion_O hO
        have S1 := Lib.hid (show zL tInt x1 ≤ 1048576 by omega)
        have N1 := ndL_le tInt_law (by decide) x1
        have R1 : Hid (0 ≤ m + 1 ∧ m + 1 ≤ 1073741824) := Lib.hid (by omega)
        have hmx : m + 1 + (ndL tInt x1 : Int) + 1 + 1 ≤ 1073741824 := by omega
        have hmm : m + 1 + (ndL tInt x1 : Int) + 1 + 1 = m' := by omega
        have HMM := Lib.hid hmm
        have hm0 : 0 ≤ m := by omega
        have hm1 : m ≤ 1073741824 := by omega
        clear hmm hstep hzx N1
        have hLl : Lc.length = xs.length * 4 := hrow.1
        have HSET := Lib.hid hset
        clear hset
        have tt : Turn (fun b => b = g ∨ Fj b ∨ wr.heap.size ≤ b) wr wr := Turn.refl _ _
        have rr := hrow
        have c0 : ∃ x, wr.cell? ⟨g, j * 4, none⟩ = some x := ⟨_, (World.ownsRow.cellAt rr (j * 4) (by show j * 4 < xs.length * 4; omega)).trans (List.getElem?_eq_getElem (by have h9 := rr.1; have h8 : xs.length * tVersion.n = xs.length * 4 := rfl; omega))⟩
        obtain ⟨y0, c0⟩ := c0
        have f0 := World.ownsRow.frozenAt rr (j * 4)
        have cv1 : wr.cell? ⟨g, j * 4 + 1, none⟩ = some v1 := (World.ownsRow.cellAt rr (j * 4 + 1) (by show j * 4 + 1 < xs.length * 4; omega)).trans (by exact hLc 1 (by decide))
        go_wp2_with fail
        clear c0 f0 cv1
        have ts : Turn (fun b => b = g) wr (wr.setCell ⟨g, j * 4, none⟩ (.int .i64 (m))) := ((Turn.refl (fun b => b = g) _).trans (turn_set (G := fun b => b = g) (g := g) (j := j * 4) (u := .int .i64 (m)) rfl))
        replace rr := (World.ownsRow.stored rr (j * 4) (.int .i64 (m))).1
        replace o1 := slO_turn tInt_law o1 ts (fun b h1 h2 => (hFj b (q1 b h1)).2.1 h2)
        replace tt := tt.trans (ts.mono (fun b h => Or.inl h))
        clear ts
        generalize (wr.setCell ⟨g, j * 4, none⟩ (.int .i64 (m))) = W0 at *
        refine (markIntS_S v1 x1 _ (m + 1) W0 o1 S1.out R1.out.1 (by have := R1.out.2; omega)).mono ?_
        rintro e w1 ⟨rfl, m1, t1⟩
        replace rr := row_turn rr t1 (fun b hb h => by simp [Value.ownBlock] at hb; exact (hFj b (q1 b h)).2.1 hb.symm)
        replace o1 := m1
        replace tt := tt.trans (t1.mono (fun b h => Or.inr (Or.inl (q1 b h))))
        clear t1
        have c2 : ∃ x, w1.cell? ⟨g, j * 4 + 2, none⟩ = some x := ⟨_, (World.ownsRow.cellAt rr (j * 4 + 2) (by show j * 4 + 2 < xs.length * 4; omega)).trans (List.getElem?_eq_getElem (by have h9 := rr.1; have h8 : xs.length * tVersion.n = xs.length * 4 := rfl; omega))⟩
        obtain ⟨y2, c2⟩ := c2
        have f2 := World.ownsRow.frozenAt rr (j * 4 + 2)
        have c3 : ∃ x, w1.cell? ⟨g, j * 4 + 3, none⟩ = some x := ⟨_, (World.ownsRow.cellAt rr (j * 4 + 3) (by show j * 4 + 3 < xs.length * 4; omega)).trans (List.getElem?_eq_getElem (by have h9 := rr.1; have h8 : xs.length * tVersion.n = xs.length * 4 := rfl; omega))⟩
        obtain ⟨y3, c3⟩ := c3
        have f3 := World.ownsRow.frozenAt rr (j * 4 + 3)
        go_wp2
        clear c2 f2 c3 f3
        have ts : Turn (fun b => b = g) w1 ((w1.setCell ⟨g, j * 4 + 2, none⟩ (.int .i64 (m + 1 + (ndL tInt x1 : Int)))).setCell ⟨g, j * 4 + 3, none⟩ (.int .i64 (m + 1 + (ndL tInt x1 : Int) + 1))) := (((Turn.refl (fun b => b = g) _).trans (turn_set (G := fun b => b = g) (g := g) (j := j * 4 + 2) (u := .int .i64 (m + 1 + (ndL tInt x1 : Int))) rfl)).trans (turn_set (G := fun b => b = g) (g := g) (j := j * 4 + 3) (u := .int .i64 (m + 1 + (ndL tInt x1 : Int) + 1)) rfl))
        replace rr := (World.ownsRow.stored (World.ownsRow.stored rr (j * 4 + 2) (.int .i64 (m + 1 + (ndL tInt x1 : Int)))).1 (j * 4 + 3) (.int .i64 (m + 1 + (ndL tInt x1 : Int) + 1))).1
        replace o1 := slO_turn tInt_law o1 ts (fun b h1 h2 => (hFj b (q1 b h1)).2.1 h2)
        replace tt := tt.trans (ts.mono (fun b h => Or.inl h))
        clear ts
        have hO2 := tVersion_mkO (F := Fj) (a0 := m) (a2 := m + 1 + (ndL tInt x1 : Int)) (a3 := m + 1 + (ndL tInt x1 : Int) + 1) o1 q1 
        have hst := hput ((w1.setCell ⟨g, j * 4 + 2, none⟩ (.int .i64 (m + 1 + (ndL tInt x1 : Int)))).setCell ⟨g, j * 4 + 3, none⟩ (.int .i64 (m + 1 + (ndL tInt x1 : Int) + 1))) (((Lc.set (j * 4) (.int .i64 (m))).set (j * 4 + 2) (.int .i64 (m + 1 + (ndL tInt x1 : Int)))).set (j * 4 + 3) (.int .i64 (m + 1 + (ndL tInt x1 : Int) + 1))) [.int .i64 (m), v1, .int .i64 (m + 1 + (ndL tInt x1 : Int)), .int .i64 (m + 1 + (ndL tInt x1 : Int) + 1)] Fj _ rr (fun p hp => by have hp2 : p < j * 4 ∨ j * 4 + 4 ≤ p := hp; rw [List.getElem?_set_ne (by omega)]; rw [List.getElem?_set_ne (by omega)]; rw [List.getElem?_set_ne (by omega)]) (fun i hi => by have hi' : i < 4 := hi; match i, hi' with | 0, _ => (show ((((Lc.set (j * 4) (.int .i64 (m))).set (j * 4 + 2) (.int .i64 (m + 1 + (ndL tInt x1 : Int)))).set (j * 4 + 3) (.int .i64 (m + 1 + (ndL tInt x1 : Int) + 1))))[j * 4]? = _; rw [List.getElem?_set_ne (by omega)]; rw [List.getElem?_set_ne (by omega)]; rw [List.getElem?_set_self (by first | omega | (simp only [List.length_set]; omega))]; rfl) | 1, _ => (show ((((Lc.set (j * 4) (.int .i64 (m))).set (j * 4 + 2) (.int .i64 (m + 1 + (ndL tInt x1 : Int)))).set (j * 4 + 3) (.int .i64 (m + 1 + (ndL tInt x1 : Int) + 1))))[j * 4 + 1]? = _; rw [List.getElem?_set_ne (by omega)]; rw [List.getElem?_set_ne (by omega)]; rw [List.getElem?_set_ne (by omega)]; exact hLc 1 (by decide)) | 2, _ => (show ((((Lc.set (j * 4) (.int .i64 (m))).set (j * 4 + 2) (.int .i64 (m + 1 + (ndL tInt x1 : Int)))).set (j * 4 + 3) (.int .i64 (m + 1 + (ndL tInt x1 : Int) + 1))))[j * 4 + 2]? = _; rw [List.getElem?_set_ne (by omega)]; rw [List.getElem?_set_self (by first | omega | (simp only [List.length_set]; omega))]; rfl) | 3, _ => (show ((((Lc.set (j * 4) (.int .i64 (m))).set (j * 4 + 2) (.int .i64 (m + 1 + (ndL tInt x1 : Int)))).set (j * 4 + 3) (.int .i64 (m + 1 + (ndL tInt x1 : Int) + 1))))[j * 4 + 3]? = _; rw [List.getElem?_set_self (by first | omega | (simp only [List.length_set]; omega))]; rfl)) hO2 (fun b hb => ⟨(hFj b hb).1, Or.inl hb⟩) tt
        rw [HSET.out] at hst
        have HST := Lib.hid hst
        have hon2 := hon.trans (Turn.mono (G := fun b => F b ∧ b < w.heap.size) (G' := F) ⟨tt.os, tt.tape, tt.output, tt.size, fun b hb hn => tt.block b hb (fun h => hn (h.elim (fun h => by rw [h]; exact ⟨hFg, hgw⟩) (fun h => h.elim (fun h => (hFj b h).1) (fun h => absurd hb (Nat.not_lt.2 h)))))⟩ (fun b h => h.1))
        clear hst hput tt rr hO2 hon hFj hLc hLl o1
        go_roundw
        case rel => exact ⟨j + 1, by omega, by go_num, by rw [HMM.out]; rw [HM'.out], HST.out, hon2⟩
        case measure => simp [intOf]; omega
      · obtain rfl : j = xs.length := by omega
        rw [mTo_all] at hown
        go_wp2
        go_ret
        exact ⟨rfl, slO_mono hown (fun b h => h.1), hon⟩
end Go.Proofs.Ytdhglmoanpkeoaa
namespace Go.Proofs.Ytdhglmoanpkeoaa
open Go.RowKit
set_option linter.unusedVariables false
set_option linter.unusedSimpArgs false
abbrev tVersionSS : Ty (List (List (Int × List Int × Int × Int))) := tSl 61 tVersionS
theorem tVersionSS_law : tVersionSS.Law := tSl_law tVersionS_law (by decide)
set_option maxHeartbeats 8000000 in
set_option maxRecDepth 100000 in
theorem szVersionSS_Y (v : Value) (xs : List (List (Int × List Int × Int × Int))) (k0 : Int) (w : World) (h : SlR tVersionS w v xs) (hs : ((zL tVersionS xs : Nat) : Int) ≤ k0) (hk : k0 ≤ 1048576) :
    Calls Try.prog 27 #[v, .int .i64 k0] w fun e w' => e = .returned (.int .i64 (k0 - ((zL tVersionS xs : Nat) : Int))) ∧ Below w.heap.size w w' := by
  have H := Lib.hid h
  obtain ⟨a, cap, rfl⟩ := slR_len h
  clear h
  have h00 := zTo_le (T := tVersionS) (xs := xs) (Nat.zero_le _)
  rw [zTo_zero] at h00
  have HS := Lib.hid hs
  go_enter Try.func27, Try.ntmps27
  have hneg : ¬ k0 - (xs.length : Int) < 0 := by omega
  go_wp2
  clear hneg
  go_loopw [1, 5] (fun l i wr => ∃ k : Nat, k ≤ xs.length ∧ i = .int .i64 k ∧ l = .int .i64 (k0 - (zTo tVersionS xs k : Int)) ∧ Below w.heap.size w wr) (fun _ i _ => xs.length - (intOf i).toNat)
  case atStart => exact ⟨0, Nat.zero_le _, rfl, by rw [zTo_zero], Below.refl _ _⟩
  case round =>
    obtain ⟨k, hk', rfl, rfl, hbel⟩ := hrel
    by_cases hlt : k < xs.length
    · have HST := Lib.hid (zTo_step (T := tVersionS) hlt)
      have HLE := Lib.hid (zTo_le (T := tVersionS) (xs := xs) (k := k + 1) (by omega))
      have i1 : (0 : Int) ≤ (k : Int) := by omega
      have i2 : (k : Int) < (xs.length : Int) := by omega
      obtain ⟨b, off, cap', cs, hv, hbl, hcs, hR⟩ := slR_at (slR_below tVersionS_law H.out hbel) hlt
      simp only [Value.slice.injEq] at hv
      obtain ⟨rfl, _, rfl⟩ := hv
      generalize xs.getD k tVersionS.d = x at *
      obtain ⟨u, rfl, hR'⟩ := hR
      have p0 : wr.cell? ⟨b, off + k, none⟩ = some u := by have := hcs 0 Nat.one_pos; rw [show tVersionS.n = 1 from rfl, Nat.mul_one, Nat.add_zero] at this; exact this
      clear hcs
      have HQ : Hid (tVersionS.sz x = zL tVersion x) := Lib.hid rfl
      have hx1 : ((zL tVersion x : Nat) : Int) ≤ k0 - (zTo tVersionS xs k : Int) := by have := HST.out; have := HLE.out; have := HQ.out; omega
      have hx2 : k0 - (zTo tVersionS xs k : Int) ≤ 1048576 := by omega
      have hneg : ¬ k0 - (zTo tVersionS xs k : Int) - ((zL tVersion x : Nat) : Int) < 0 := by omega
      have HC := Lib.hid (fun W b => szVersionS_Y u x (k0 - (zTo tVersionS xs k : Int)) W (slR_below tVersion_law hR' b) hx1 hx2)
      go_wp2_with fail
      refine (HC.out _ (Below.refl _ _)).mono ?_
      rintro e w1 ⟨rfl, b1⟩
      have b2 := hbel.trans (b1.mono hbel.size)
      go_wp2
      go_roundw
      case rel => exact ⟨k + 1, by omega, by go_num, by rw [HST.out, HQ.out]; go_num, b2⟩
      case measure => simp [intOf]; omega
    · obtain rfl : k = xs.length := by omega
      go_wp2
      go_ret
      exact ⟨rfl, hbel⟩
set_option maxHeartbeats 8000000 in
set_option maxRecDepth 100000 in
theorem szVersionSS_N (v : Value) (xs : List (List (Int × List Int × Int × Int))) (k0 : Int) (w : World) (h : SlR tVersionS w v xs) (hs : k0 < ((zL tVersionS xs : Nat) : Int)) (hk : k0 ≤ 1048576) (hp : 0 ≤ k0) (ho : tVersionSS.ok xs) :
    Calls Try.prog 27 #[v, .int .i64 k0] w fun e w' => e = .returned (.int .i64 (-1)) ∧ Below w.heap.size w w' := by
  have H := Lib.hid h
  have HX := Lib.hid ho.2
  have hn := ho.1
  have HS := Lib.hid hs
  obtain ⟨a, cap, rfl⟩ := slR_len h
  clear h ho hs
  by_cases h1 : k0 < (xs.length : Int)
  · have hneg : k0 - (xs.length : Int) < 0 := by omega
    go_enter Try.func27, Try.ntmps27
    go_wp2
    go_ret
    exact ⟨rfl, Below.refl _ _⟩
  · go_enter Try.func27, Try.ntmps27
    have hneg : ¬ k0 - (xs.length : Int) < 0 := by omega
    go_wp2
    clear hneg
    go_loopw [1, 5] (fun l i wr => ∃ k : Nat, k ≤ xs.length ∧ i = .int .i64 k ∧ l = .int .i64 (k0 - (zTo tVersionS xs k : Int)) ∧ (zTo tVersionS xs k : Int) ≤ k0 ∧ Below w.heap.size w wr) (fun _ i _ => xs.length - (intOf i).toNat)
    case atStart => exact ⟨0, Nat.zero_le _, rfl, by rw [zTo_zero], by rw [zTo_zero]; omega, Below.refl _ _⟩
    case round =>
      obtain ⟨k, hk', rfl, rfl, hle, hbel⟩ := hrel
      by_cases hlt : k < xs.length
      · have HST := Lib.hid (zTo_step (T := tVersionS) hlt)
        have hx := HX.out k hlt
        have i1 : (0 : Int) ≤ (k : Int) := by omega
        have i2 : (k : Int) < (xs.length : Int) := by omega
        obtain ⟨b, off, cap', cs, hv, hbl, hcs, hR⟩ := slR_at (slR_below tVersionS_law H.out hbel) hlt
        simp only [Value.slice.injEq] at hv
        obtain ⟨rfl, _, rfl⟩ := hv
        generalize xs.getD k tVersionS.d = x at *
        obtain ⟨u, rfl, hR'⟩ := hR
        have p0 : wr.cell? ⟨b, off + k, none⟩ = some u := by have := hcs 0 Nat.one_pos; rw [show tVersionS.n = 1 from rfl, Nat.mul_one, Nat.add_zero] at this; exact this
        clear hcs
        have HQ : Hid (tVersionS.sz x = zL tVersion x) := Lib.hid rfl
        have hz0 : (0 : Int) ≤ (zTo tVersionS xs k : Int) := by omega
        by_cases hg : ((zL tVersion x : Nat) : Int) ≤ k0 - (zTo tVersionS xs k : Int)
        · have hx2 : k0 - (zTo tVersionS xs k : Int) ≤ 1048576 := by omega
          have hneg : ¬ k0 - (zTo tVersionS xs k : Int) - ((zL tVersion x : Nat) : Int) < 0 := by omega
          have HC := Lib.hid (fun W b => szVersionS_Y u x (k0 - (zTo tVersionS xs k : Int)) W (slR_below tVersion_law hR' b) hg hx2)
          go_wp2_with fail
          refine (HC.out _ (Below.refl _ _)).mono ?_
          rintro e w1 ⟨rfl, b1⟩
          have b2 := hbel.trans (b1.mono hbel.size)
          go_wp2
          go_roundw
          case rel => exact ⟨k + 1, by omega, by go_num, by rw [HST.out, HQ.out]; go_num, by rw [HST.out, HQ.out]; omega, b2⟩
          case measure => simp [intOf]; omega
        · have hx1 : k0 - (zTo tVersionS xs k : Int) < ((zL tVersion x : Nat) : Int) := by omega
          have hx0 : 0 ≤ k0 - (zTo tVersionS xs k : Int) := by omega
          have hx2 : k0 - (zTo tVersionS xs k : Int) ≤ 1048576 := by omega
          have HC := Lib.hid (fun W b => szVersionS_N u x (k0 - (zTo tVersionS xs k : Int)) W (slR_below tVersion_law hR' b) hx1 hx2 hx0 hx)
          clear hg
          go_wp2_with fail
          refine (HC.out _ (Below.refl _ _)).mono ?_
          rintro e w1 ⟨rfl, b1⟩
          have b2 := hbel.trans (b1.mono hbel.size)
          go_wp2
          go_ret
          exact ⟨rfl, b2⟩
      · obtain rfl : k = xs.length := by omega
        exact absurd HS.out (by show ¬ k0 < ((zTo tVersionS xs xs.length : Nat) : Int); omega)
theorem Try.info_VersionS : (Try.prog.info? 61).map (fun i => (i.zero, i.size)) = some (some (.slice none 0 0), 1) := by kernel_rfl
theorem Try.bytes_VersionS : ((Try.prog.info? 61).map (fun i => decide (i.bytes ≤ 512))) = some true := by kernel_rfl
theorem tVersionS_zero (w : World) : tVersionS.O w (fun _ => False) #[.slice none 0 0].toList tVersionS.d := ⟨_, rfl, slO_nil _ _ _ _⟩
set_option maxHeartbeats 8000000 in
set_option maxRecDepth 100000 in
theorem toVersionSS_S (v : Value) (xs : List (List (Int × List Int × Int × Int))) (w : World) (h : SlR tVersionS w v xs) (hs : zL tVersionS xs ≤ 1048576) :
    Calls Try.prog 31 #[v] w (FreshS 61 tVersionS w xs) := by
  obtain ⟨i0, hi, hz0, hz1⟩ : ∃ i0, Try.prog.info? 61 = some i0 ∧ i0.zero = some (.slice none 0 0) ∧ i0.size = 1 := by
    have h0 := Try.info_VersionS
    cases q : Try.prog.info? 61 with
    | none => rw [q] at h0; simp at h0
    | some i => rw [q] at h0; simp only [Option.map_some, Option.some.injEq, Prod.mk.injEq] at h0; exact ⟨i, rfl, h0.1, h0.2⟩
  have hz2 : i0.bytes ≤ 512 := by
    have h0 := Try.bytes_VersionS
    rw [hi] at h0
    simpa using h0
  have HI := Lib.hid hi; have HZ0 := Lib.hid hz0; have HZ1 := Lib.hid hz1; have HZ2 := Lib.hid hz2
  clear hi hz0 hz1 hz2
  have H := Lib.hid h
  have hlen := zL_len hs
  have HS := Lib.hid hs
  obtain ⟨a, cap, rfl⟩ := slR_len h
  clear h hs
  go_enter Try.func31, Try.ntmps31
  go_wp2_with (at_make; refine wpList_make_full _ rfl (.tmp 6) (.tmp 6) 28 rfl w.heap.size 61 i0 (.slice none 0 0) 1 Try.underlying28 HI.out HZ0.out HZ1.out _ _ _ _ xs.length rfl rfl rfl rfl (by have h9 := Nat.mul_le_mul HZ2.out hlen; have h8 := Nat.mul_le_mul hlen HZ2.out; omega) (by unfold maxLen; omega) (Nat.le_refl _) ?_)
  intro w1 hown0 hg0
  have hown1 : SlO 61 tVersionS w1 (since w) (.slice (some ⟨w.heap.size, 0, none⟩) xs.length xs.length) (List.replicate xs.length tVersionS.d) := slO_made (z := #[.slice none 0 0]) tVersionS_law rfl (tVersionS_zero w1) (Nat.le_refl _) (by rw [show xs.length * tVersionS.n = xs.length from Nat.mul_one _]; exact hown0)
  have hbel1 := (Below.refl w.heap.size w).grown hg0 (Nat.le_refl _) (fun k hk => by cases hk)
  clear hown0 hg0
  go_wp2
  go_loopw [4] (fun i wr => ∃ k : Nat, k ≤ xs.length ∧ i = .int .i64 k ∧ SlO 61 tVersionS wr (since w) (.slice (some ⟨w.heap.size, 0, none⟩) xs.length xs.length) (xs.take k ++ List.replicate (xs.length - k) tVersionS.d) ∧ Below w.heap.size w wr) (fun i _ => xs.length - (intOf i).toNat)
  case atStart => exact ⟨0, Nat.zero_le _, rfl, by simpa using hown1, hbel1⟩
  case round =>
    obtain ⟨k, hk, rfl, hown, hbel⟩ := hrel
    by_cases hlt : k < xs.length
    · have HSET := Lib.hid (cTo_step (d := tVersionS.d) hlt)
      have HKL : Hid (k < (xs.take k ++ List.replicate (xs.length - k) tVersionS.d).length) := Lib.hid (by rw [cTo_len hk]; exact hlt)
      have HLL := Lib.hid (cTo_len (d := tVersionS.d) hk)
      have i1 : (0 : Int) ≤ (k : Int) := by omega
      have i2 : (k : Int) < (xs.length : Int) := by omega
      have hzx := zL_at HS.out hlt
      obtain ⟨b, off, cap', cs, hv, hbl, hcs, hR⟩ := slR_at (slR_below tVersionS_law H.out hbel) hlt
      simp only [Value.slice.injEq] at hv
      obtain ⟨rfl, _, rfl⟩ := hv
      obtain ⟨hme, hFg, hgl, cj, Fj, Lc, hrow, hLc, hO, hFj, hput⟩ := slO_open tVersionS_law hown HKL.out
      clear hme
      clear hown1 hbel1
      generalize xs.getD k tVersionS.d = x at *
      generalize xs.take k ++ List.replicate (xs.length - k) tVersionS.d = ys at *
      obtain ⟨u, rfl, h0⟩ := hR
      have p0 : wr.cell? ⟨b, off + k, none⟩ = some u := by have := hcs 0 Nat.one_pos; rw [show tVersionS.n = 1 from rfl, Nat.mul_one, Nat.add_zero] at this; exact this
      have HC := Lib.hid (fun w g => toVersionS_S u x w g hzx)
      have G0 := Lib.hid h0
      clear hcs h0
      go_wp2_with fail
      refine (HC.out _ G0.out).mono ?_
      rintro e w2 ⟨u2, rfl, ow0, b2⟩
      replace ow0 := slO_lt tVersion_law ow0
      obtain ⟨ua, uc, rfl⟩ := slO_len ow0
      have ow : tVersionS.O w2 (fun b => since wr b ∧ b < w2.heap.size) [.slice ua x.length uc] x := ⟨_, rfl, ow0⟩
      have r0 := row_turn (G := fun _ => False) hrow (turn_below b2) (fun _ _ => not_false)
      rw [HLL.out] at r0
      have q0 : ∃ x, w2.cell? ⟨w.heap.size, k, none⟩ = some x := ⟨_, (World.ownsRow.cellAt r0 (k) (by have := HKL.out; rw [HLL.out] at this; show _ < xs.length * 1; omega)).trans (List.getElem?_eq_getElem (by have h1 : Lc.length = xs.length * 1 := r0.1; omega))⟩
      obtain ⟨y0, q0⟩ := q0
      have f0 := World.ownsRow.frozenAt r0 (k)
      have b3 := hbel.trans (b2.mono hbel.size)
      have B3 := Lib.hid (b3.setCell (p := ⟨w.heap.size, k, none⟩) (Nat.le_refl _) (.slice ua x.length uc))
      have hT : Turn (fun b => b = w.heap.size ∨ Fj b ∨ wr.heap.size ≤ b) wr (w2.setCell ⟨w.heap.size, k, none⟩ (.slice ua x.length uc)) := ((turn_below b2).trans (turn_set (j := k) (u := .slice ua x.length uc) (Or.inl rfl)))
      have hT2 : Turn (fun b => b = w.heap.size) w2 (w2.setCell ⟨w.heap.size, k, none⟩ (.slice ua x.length uc)) := ((Turn.refl (fun b => b = w.heap.size) _).trans (turn_set (G := fun b => b = w.heap.size) (j := k) (u := .slice ua x.length uc) rfl))
      have hO2 := tVersionS_law.turn ow hT2 (fun b h1 h2 => by have := h1.1; simp only [since] at this; omega)
      have r9 := (World.ownsRow.stored r0 (k) (.slice ua x.length uc)).1
      have hLl : Lc.length = xs.length * 1 := r0.1
      have hst := Lib.hid (hput (w2.setCell ⟨w.heap.size, k, none⟩ (.slice ua x.length uc)) (Lc.set (k) (.slice ua x.length uc)) [.slice ua x.length uc] _ x (by rw [HLL.out]; exact r9) (fun p hp => by have hp2 : p < k * 1 ∨ k * 1 + 1 ≤ p := hp; rw [List.getElem?_set_ne (by omega)]) (fun i hi => by have hi2 : i < 1 := hi; obtain rfl : i = 0 := (by omega); have e0 : k * tVersionS.n + 0 = k := (by show k * 1 + 0 = k; omega); rw [e0]; exact List.getElem?_set_self (by omega)) hO2 (fun b hb => ⟨Nat.le_trans hbel.size hb.1, Or.inr hb.1⟩) hT)
      have hst2 : SlO 61 tVersionS (w2.setCell ⟨w.heap.size, k, none⟩ (.slice ua x.length uc)) (since w) (.slice (some ⟨w.heap.size, 0, none⟩) xs.length xs.length) (xs.take (k + 1) ++ List.replicate (xs.length - (k + 1)) tVersionS.d) := by have := hst.out; rw [HSET.out] at this; exact this
      have HST := Lib.hid hst2
      clear hst hst2 hT hT2 hO2 r9 r0 hrow hO hput hown hbel b2 ow b3 hLl hLc hFj
      go_wp2
      go_roundw
      case rel => exact ⟨k + 1, by omega, by go_num, HST.out, B3.out⟩
      case measure => simp [intOf]; omega
    · obtain rfl : k = xs.length := by omega
      have HE : Hid (xs.take xs.length ++ List.replicate (xs.length - xs.length) tVersionS.d = xs) := Lib.hid (by simp)
      rw [HE.out] at hown
      go_wp2
      go_ret
      exact ⟨_, rfl, hown, hbel⟩
set_option maxHeartbeats 8000000 in
set_option maxRecDepth 100000 in
theorem eqVersionSS_S (v u : Value) (xs : List (List (Int × List Int × Int × Int))) (w : World) (h : SlR tVersionS w v xs) (g : SlR tVersionS w u xs) (hs : zL tVersionS xs ≤ 1048576) :
    Calls Try.prog 37 #[v, u] w fun e w' => e = .returned (.bool true) ∧ Below w.heap.size w w' := by
  have H := Lib.hid h
  have G := Lib.hid g
  have HS := Lib.hid hs
  have hlen := zL_len hs
  obtain ⟨a, cap, rfl⟩ := slR_len h
  obtain ⟨a2, cap2, rfl⟩ := slR_len g
  clear h g hs
  go_enter Try.func37, Try.ntmps37
  go_wp2
  go_loopw [5] (fun i wr => ∃ k : Nat, k ≤ xs.length ∧ i = .int .i64 k ∧ Below w.heap.size w wr) (fun i _ => xs.length - (intOf i).toNat)
  case atStart => exact ⟨0, Nat.zero_le _, rfl, Below.refl _ _⟩
  case round =>
    obtain ⟨k, hk, rfl, hbel⟩ := hrel
    by_cases hlt : k < xs.length
    · obtain ⟨b, off, cap', cs, hv, hbl, hcs, hR⟩ := slR_at (slR_below tVersionS_law H.out hbel) hlt
      simp only [Value.slice.injEq] at hv
      obtain ⟨rfl, _, rfl⟩ := hv
      obtain ⟨b2, off2, cap2', ds, hv2, hbl2, hds, hQ⟩ := slR_at (slR_below tVersionS_law G.out hbel) hlt
      simp only [Value.slice.injEq] at hv2
      obtain ⟨rfl, _, rfl⟩ := hv2
      have hzx := zL_at HS.out hlt
      have i1 : (0 : Int) ≤ (k : Int) := by omega
      have i2 : (k : Int) < (xs.length : Int) := by omega
      generalize xs.getD k tVersionS.d = x at *
      obtain ⟨u1, rfl, h0⟩ := hR
      obtain ⟨u2, rfl, g0⟩ := hQ
      have p0 : wr.cell? ⟨b, off + k, none⟩ = some u1 := by have := hcs 0 Nat.one_pos; rw [show tVersionS.n = 1 from rfl, Nat.mul_one, Nat.add_zero] at this; exact this
      have q0 : wr.cell? ⟨b2, off2 + k, none⟩ = some u2 := by have := hds 0 Nat.one_pos; rw [show tVersionS.n = 1 from rfl, Nat.mul_one, Nat.add_zero] at this; exact this
      have S0 := Lib.hid hzx
      clear hcs hds hzx
      go_wp2
      go_region_with (first | (go_at_call 89; refine (eqVersionS_S u1 u2 x _ (by exact slR_same tVersion_law h0 rfl rfl rfl rfl) (by exact slR_same tVersion_law g0 rfl rfl rfl rfl) S0.out).mono ?_; rintro e w8 ⟨rfl, b9⟩; have b10 : Below wr.heap.size wr w8 := ⟨b9.os, b9.tape, b9.output, b9.size, b9.block⟩))
      all_goals
        have b11 := hbel.trans (b10.mono hbel.size)
        go_wp2
        go_roundw
        case rel => exact ⟨k + 1, by omega, by go_num, b11⟩
        case measure => simp [intOf]; omega
    · go_wp2
      go_ret
      exact ⟨rfl, hbel⟩
set_option maxHeartbeats 8000000 in
set_option maxRecDepth 100000 in
theorem markVersionSS_S (v : Value) (xs : List (List (Int × List Int × Int × Int))) (F : Nat → Prop) (k : Int) (w : World) (h : SlO 61 tVersionS w F v xs) (hs : zL tVersionS xs ≤ 1048576) (k0 : 0 ≤ k) (k1 : k ≤ 939524096) :
    Calls Try.prog 38 #[v, .int .i64 k] w fun e w' => e = .returned (.int .i64 (k + (ndL tVersionS xs : Int))) ∧ SlO 61 tVersionS w' F v (mAll tVersionS xs k) ∧ Turn F w w' := by
  rw [← kAt_all]
  have HS := Lib.hid hs
  have hlen := zL_len hs
  rcases slO_form h with ⟨rfl, rfl⟩ | ⟨g, cap, rfl, hFg, hgw⟩
  · have H := Lib.hid h
    clear h hs
    go_enter Try.func38, Try.ntmps38
    go_wp2
    go_loop [1, 5] (fun m i => i = .int .i64 0 ∧ m = .int .i64 k) (fun _ _ => 0)
    case atStart => exact ⟨rfl, rfl⟩
    case round =>
      obtain ⟨rfl, rfl⟩ := hrel
      go_wp2
      go_ret
      exact ⟨by simp [kAt, sumN], by rw [show mAll tVersionS [] k = [] from rfl]; exact H.out, Turn.refl _ _⟩
  · have H := Lib.hid h
    clear h hs
    go_enter Try.func38, Try.ntmps38
    go_wp2
    go_loopw [1, 5] (fun m i wr => ∃ j : Nat, j ≤ xs.length ∧ i = .int .i64 j ∧ m = .int .i64 (kAt tVersionS xs k j) ∧ SlO 61 tVersionS wr (fun b => F b ∧ b < w.heap.size) (.slice (some ⟨g, 0, none⟩) xs.length cap) (mTo tVersionS xs k j) ∧ Turn F w wr) (fun _ i _ => xs.length - (intOf i).toNat)
    case atStart => exact ⟨0, Nat.zero_le _, rfl, by rw [kAt_zero], by rw [mTo_zero]; exact slO_lt tVersionS_law H.out, Turn.refl _ _⟩
    case round =>
      obtain ⟨j, hj, rfl, rfl, hown, hon⟩ := hrel
      by_cases hlt : j < xs.length
      · have i1 : (0 : Int) ≤ (j : Int) := by omega
        have i2 : (j : Int) < (xs.length : Int) := by omega
        have hjl : j < (mTo tVersionS xs k j).length := by rw [mTo_len hj]; exact hlt
        have HLL := Lib.hid (mTo_len (T := tVersionS) (k := k) hj)
        obtain ⟨r1, r2⟩ := kAt_range tVersionS_law (by decide) (k := k) HS.out hj
        obtain ⟨r3, r4⟩ := kAt_range tVersionS_law (by decide) (k := k) (j := j + 1) HS.out (by omega)
        have hzx := zL_at HS.out hlt
        have hstep := kAt_step (T := tVersionS) (k := k) hlt
        have hset := mTo_step (T := tVersionS) (k := k) hlt
        have hsz := hon.size
        obtain ⟨hme, hFg2, hgl, cj, Fj, Lc, hrow, hLc, hO, hFj, hput⟩ := slO_open tVersionS_law hown hjl
        clear hme hFg2
        rw [mTo_at hlt] at hO
        have HM : Hid (∃ m', kAt tVersionS xs k (j + 1) = m') := Lib.hid ⟨_, rfl⟩
        obtain ⟨m', hm'⟩ := HM.out
        rw [hm'] at hstep r3 r4
        have HM' := Lib.hid hm'
        clear hm' HM H hown hjl
        generalize kAt tVersionS xs k j = m at *
        generalize xs.getD j tVersionS.d = x at *
        rw [HLL.out] at hrow hput
        have hmm : m + (ndL tVersion x : Int) = m' := hstep.symm
        have HMM := Lib.hid hmm
        have HSET := Lib.hid hset
        have S0 := Lib.hid hzx
        clear hmm hstep hset hzx
        obtain ⟨u, rfl, o0⟩ := hO
        have cv : wr.cell? ⟨g, j, none⟩ = some u := (World.ownsRow.cellAt hrow j (by show j < xs.length * 1; omega)).trans (by have := hLc 0 Nat.one_pos; rw [show tVersionS.n = 1 from rfl, Nat.mul_one, Nat.add_zero] at this; exact this)
        go_wp2_with fail
        clear cv
        refine (markVersionS_S u x _ m wr o0 S0.out (by omega) (by omega)).mono ?_
        rintro e w1 ⟨rfl, m0, t1⟩
        have rr := row_turn hrow t1 (fun b hb h => by simp [Value.ownBlock] at hb; exact (hFj b h).2.1 hb.symm)
        have hst := hput w1 Lc [u] Fj _ rr (fun p hp => rfl) hLc ⟨u, rfl, m0⟩ (fun b hb => ⟨(hFj b hb).1, Or.inl hb⟩) (t1.mono (fun b h => Or.inr (Or.inl h)))
        have HE : Hid (tVersionS.md x m = mAll tVersion x m) := Lib.hid rfl
        rw [← HE.out, HSET.out] at hst
        have HST := Lib.hid hst
        have hon2 := hon.trans (t1.mono (fun b h => (hFj b h).1.1))
        rw [HMM.out]
        clear hst hput rr m0 t1 hon hFj hLc o0 hrow
        go_wp2
        go_roundw
        case rel => exact ⟨j + 1, by omega, by go_num, by rw [HM'.out], HST.out, hon2⟩
        case measure => simp [intOf]; omega
      · obtain rfl : j = xs.length := by omega
        rw [mTo_all] at hown
        go_wp2
        go_ret
        exact ⟨rfl, slO_mono hown (fun b h => h.1), hon⟩
end Go.Proofs.Ytdhglmoanpkeoaa
namespace Go.Proofs.Ytdhglmoanpkeoaa
open Go.RowKit
set_option linter.unusedVariables false
set_option linter.unusedSimpArgs false
def tRow : Ty (Int × List Int) := tPair tInt tIntS
theorem tRow_law : tRow.Law := tPair_law tInt_law tIntS_law
theorem tRow_R {w : World} {cs : List Value} {a0 : Int} {x1 : List Int} (h : tRow.R w cs (a0, x1)) : ∃ v1, cs = [.int .i64 a0, v1] ∧ SlR tInt w v1 x1 := by
  obtain ⟨_, _, rfl, rfl, ⟨v1, rfl, h1⟩⟩ := h
  exact ⟨_, rfl, h1⟩
theorem tRow_mkR {w : World} {a0 : Int} {x1 : List Int} {v1 : Value} (h1 : SlR tInt w v1 x1) : tRow.R w [.int .i64 a0, v1] (a0, x1) := ⟨[.int .i64 a0], [v1], rfl, rfl, ⟨_, rfl, h1⟩⟩
theorem tRow_sz {a0 : Int} {x1 : List Int} : tRow.sz (a0, x1) = zL tInt x1 := by
  simp only [tRow, tPair_sz, tPair_nd, tPair_nv, tInt_sz, tInt_nd, tInt_nv, tSl_sz, tSl_nd, tSl_nv]
  try omega
theorem tRow_nd {a0 : Int} {x1 : List Int} : tRow.nd (a0, x1) = 1 + ndL tInt x1 := by
  simp only [tRow, tPair_sz, tPair_nd, tPair_nv, tInt_sz, tInt_nd, tInt_nv, tSl_sz, tSl_nd, tSl_nv]
  try omega
theorem tRow_md {a0 : Int} {x1 : List Int} {k : Int} : tRow.md (a0, x1) k = ((k), mAll tInt x1 (k + 1)) := by
  simp only [tRow, tPair_md, tPair_mv, tPair_nd, tPair_nv, tInt_md, tInt_mv, tInt_nd, tInt_nv, tSl_md, tSl_mv, tSl_nd, tSl_nv, Int.natCast_add, Int.natCast_zero, Int.natCast_one, Int.add_zero, Int.zero_add, Int.add_assoc]
theorem tRow_O {w : World} {F : Nat → Prop} {cs : List Value} {a0 : Int} {x1 : List Int} (h : tRow.O w F cs (a0, x1)) : ∃ v1, ∃ F1 : Nat → Prop, cs = [.int .i64 a0, v1] ∧ SlO 3 tInt w F1 v1 x1 ∧ (∀ b, F1 b → F b) := by
  obtain ⟨_, _, F0_1, F0_2, rfl, rfl, ⟨v1, rfl, h1⟩, s0_1, s0_2, d0⟩ := h
  exact ⟨v1, F0_2, rfl, h1, fun b h => (s0_2 b h)⟩
theorem tRow_mkO {w : World} {F : Nat → Prop} {a0 : Int} {x1 : List Int} {v1 : Value} {F1 : Nat → Prop} (h1 : SlO 3 tInt w F1 v1 x1) (s1 : ∀ b, F1 b → F b)  : tRow.O w F [.int .i64 a0, v1] (a0, x1) := ⟨[.int .i64 a0], [v1], fun _ => False, F1, rfl, rfl, ⟨_, rfl, h1⟩, (fun b h => (False.elim h)), (fun b h => s1 b h), (fun b h g => (False.elim h))⟩
set_option maxHeartbeats 8000000 in
set_option maxRecDepth 100000 in
theorem eqRow_T (a0 : Int) (v1 : Value) (x1 : List Int) (u1 : Value) (w : World) (h1 : SlR tInt w v1 x1) (g1 : SlR tInt w u1 x1) (s1 : zL tInt x1 ≤ 1048576) :
    Calls Try.prog 36 #[.agg #[.int .i64 a0, v1], .agg #[.int .i64 a0, u1]] w fun e w' => e = .returned (.bool true) ∧ Below w.heap.size w w' := by
  have H1 := Lib.hid h1; have G1 := Lib.hid g1; have S1 := Lib.hid s1
  clear h1 g1 s1
  have e0 : (a0 != a0) = false := by simp
  go_enter Try.func36, Try.ntmps36
  go_wp2_with fail
  have hb : Below w.heap.size w ((w.alloc (.cells #[.int .i64 a0, v1] 73)).alloc (.cells #[.int .i64 a0, u1] 73)) := ((Below.refl _ w).alloc (Nat.le_refl _) _).alloc (by simp) _
  have g1 : ((w.alloc (.cells #[.int .i64 a0, v1] 73)).alloc (.cells #[.int .i64 a0, u1] 73)).heap[w.heap.size + 1]? = some (.cells #[.int .i64 a0, u1] 73 (0, 0)) := by
    have := heap_alloc_new (w.alloc (.cells #[.int .i64 a0, v1] 73)) (.cells #[.int .i64 a0, u1] 73)
    simpa only [World.size_alloc] using this
  have g0 : ((w.alloc (.cells #[.int .i64 a0, v1] 73)).alloc (.cells #[.int .i64 a0, u1] 73)).heap[w.heap.size]? = some (.cells #[.int .i64 a0, v1] 73 (0, 0)) := by
    rw [Below.heap_alloc _ _ _ (by simp)]
    exact heap_alloc_new w _
  have hz : w.heap.size + 1 < ((w.alloc (.cells #[.int .i64 a0, v1] 73)).alloc (.cells #[.int .i64 a0, u1] 73)).heap.size := by simp [World.size_alloc]
  generalize ((w.alloc (.cells #[.int .i64 a0, v1] 73)).alloc (.cells #[.int .i64 a0, u1] 73)) = W at *
  refine (eqIntS_S v1 u1 x1 W (slR_below tInt_law H1.out hb) (slR_below tInt_law G1.out hb) S1.out).mono ?_
  rintro e w1 ⟨rfl, b1⟩
  replace g0 := (b1.block _ (by omega)).trans g0
  replace g1 := (b1.block _ (by omega)).trans g1
  have zz0 := b1.size
  replace hb := hb.trans (b1.mono (by omega))
  clear b1
  go_wp2
  go_ret
  exact ⟨rfl, hb⟩
end Go.Proofs.Ytdhglmoanpkeoaa
namespace Go.Proofs.Ytdhglmoanpkeoaa
open Go.RowKit
set_option linter.unusedVariables false
set_option linter.unusedSimpArgs false
theorem Try.info_Row : (Try.prog.info? 73).map (fun i => (i.zero, i.size)) = some (some (.agg #[.int .i64 0, .slice none 0 0]), 2) := by kernel_rfl
theorem Try.bytes_Row : ((Try.prog.info? 73).map (fun i => decide (i.bytes ≤ 512))) = some true := by kernel_rfl
theorem tRow_zero (w : World) : tRow.O w (fun _ => False) #[.int .i64 0, .slice none 0 0].toList tRow.d := tRow_mkO (slO_nil _ _ _ (fun _ => False)) (fun b h => h) 
set_option maxHeartbeats 8000000 in
set_option maxRecDepth 100000 in
theorem eqRowS_S (v u : Value) (xs : List (Int × List Int)) (w : World) (h : SlR tRow w v xs) (g : SlR tRow w u xs) (hs : zL tRow xs ≤ 1048576) :
    Calls Try.prog 11 #[v, u] w fun e w' => e = .returned (.bool true) ∧ Below w.heap.size w w' := by
  have H := Lib.hid h
  have G := Lib.hid g
  have HS := Lib.hid hs
  have hlen := zL_len hs
  obtain ⟨a, cap, rfl⟩ := slR_len h
  obtain ⟨a2, cap2, rfl⟩ := slR_len g
  clear h g hs
  go_enter Try.func11, Try.ntmps11
  go_wp2
  go_loopw [5] (fun i wr => ∃ k : Nat, k ≤ xs.length ∧ i = .int .i64 k ∧ Below w.heap.size w wr) (fun i _ => xs.length - (intOf i).toNat)
  case atStart => exact ⟨0, Nat.zero_le _, rfl, Below.refl _ _⟩
  case round =>
    obtain ⟨k, hk, rfl, hbel⟩ := hrel
    by_cases hlt : k < xs.length
    · obtain ⟨b, off, cap', cs, hv, hbl, hcs, hR⟩ := slR_at (slR_below tRow_law H.out hbel) hlt
      simp only [Value.slice.injEq] at hv
      obtain ⟨rfl, _, rfl⟩ := hv
      obtain ⟨b2, off2, cap2', ds, hv2, hbl2, hds, hQ⟩ := slR_at (slR_below tRow_law G.out hbel) hlt
      simp only [Value.slice.injEq] at hv2
      obtain ⟨rfl, _, rfl⟩ := hv2
      have hzx := zL_at HS.out hlt
      have i1 : (0 : Int) ≤ (k : Int) := by omega
      have i2 : (k : Int) < (xs.length : Int) := by omega
      generalize xs.getD k tRow.d = x at *
      obtain ⟨a0, x1⟩ := x
      obtain ⟨v1, hR'⟩ := tRow_R hR
      obtain ⟨rfl, h1⟩ := hR'
      obtain ⟨u1, hQ'⟩ := tRow_R hQ
      obtain ⟨rfl, g1⟩ := hQ'
      rw [tRow_sz] at hzx
      have S1 := Lib.hid (show zL tInt x1 ≤ 1048576 by omega)
      have p0 : wr.cell? ⟨b, off + k * 2, none⟩ = some (Value.int .i64 a0) := hcs 0 (by decide)
      have q0 : wr.cell? ⟨b2, off2 + k * 2, none⟩ = some (Value.int .i64 a0) := hds 0 (by decide)
      have p1 : wr.cell? ⟨b, off + k * 2 + 1, none⟩ = some (v1) := hcs 1 (by decide)
      have q1 : wr.cell? ⟨b2, off2 + k * 2 + 1, none⟩ = some (u1) := hds 1 (by decide)
      clear hcs hds hzx
      go_wp2
      go_region_with (first | (go_at_call 36; refine (eqRow_T a0 v1 x1 u1 _ (by exact slR_same tInt_law h1 rfl rfl rfl rfl) (by exact slR_same tInt_law g1 rfl rfl rfl rfl) S1.out).mono ?_; rintro e w8 ⟨rfl, b9⟩; have b10 : Below wr.heap.size wr w8 := ⟨b9.os, b9.tape, b9.output, b9.size, b9.block⟩))
      all_goals
        have b11 := hbel.trans (b10.mono hbel.size)
        go_wp2
        go_roundw
        case rel => exact ⟨k + 1, by omega, by go_num, b11⟩
        case measure => simp [intOf]; omega
    · go_wp2
      go_ret
      exact ⟨rfl, hbel⟩
set_option maxHeartbeats 8000000 in
set_option maxRecDepth 100000 in
theorem markRowS_S (v : Value) (xs : List (Int × List Int)) (F : Nat → Prop) (k : Int) (w : World) (h : SlO 73 tRow w F v xs) (hs : zL tRow xs ≤ 1048576) (k0 : 0 ≤ k) (k1 : k ≤ 1006632960) :
    Calls Try.prog 14 #[v, .int .i64 k] w fun e w' => e = .returned (.int .i64 (k + (ndL tRow xs : Int))) ∧ SlO 73 tRow w' F v (mAll tRow xs k) ∧ Turn F w w' := by
  rw [← kAt_all]
  have HS := Lib.hid hs
  have hlen := zL_len hs
  rcases slO_form h with ⟨rfl, rfl⟩ | ⟨g, cap, rfl, hFg, hgw⟩
  · have H := Lib.hid h
    clear h hs
    go_enter Try.func14, Try.ntmps14
    go_wp2
    go_loop [1, 5] (fun m i => i = .int .i64 0 ∧ m = .int .i64 k) (fun _ _ => 0)
    case atStart => exact ⟨rfl, rfl⟩
    case round =>
      obtain ⟨rfl, rfl⟩ := hrel
      go_wp2
      go_ret
      exact ⟨by simp [kAt, sumN], by rw [show mAll tRow [] k = [] from rfl]; exact H.out, Turn.refl _ _⟩
  · have H := Lib.hid h
    clear h hs
    go_enter Try.func14, Try.ntmps14
    go_wp2
    go_loopw [1, 5] (fun m i wr => ∃ j : Nat, j ≤ xs.length ∧ i = .int .i64 j ∧ m = .int .i64 (kAt tRow xs k j) ∧ SlO 73 tRow wr (fun b => F b ∧ b < w.heap.size) (.slice (some ⟨g, 0, none⟩) xs.length cap) (mTo tRow xs k j) ∧ Turn F w wr) (fun _ i _ => xs.length - (intOf i).toNat)
    case atStart => exact ⟨0, Nat.zero_le _, rfl, by rw [kAt_zero], by rw [mTo_zero]; exact slO_lt tRow_law H.out, Turn.refl _ _⟩
    case round =>
      obtain ⟨j, hj, rfl, rfl, hown, hon⟩ := hrel
      by_cases hlt : j < xs.length
      · have i1 : (0 : Int) ≤ (j : Int) := by omega
        have i2 : (j : Int) < (xs.length : Int) := by omega
        have hjl : j < (mTo tRow xs k j).length := by rw [mTo_len hj]; exact hlt
        have HLL := Lib.hid (mTo_len (T := tRow) (k := k) hj)
        obtain ⟨r1, r2⟩ := kAt_range tRow_law (by decide) (k := k) HS.out hj
        obtain ⟨r3, r4⟩ := kAt_range tRow_law (by decide) (k := k) (j := j + 1) HS.out (by omega)
        have hzx := zL_at HS.out hlt
        have hstep := kAt_step (T := tRow) (k := k) hlt
        have hset := mTo_step (T := tRow) (k := k) hlt
        have hsz := hon.size
        obtain ⟨hme, hFg2, hgl, cj, Fj, Lc, hrow, hLc, hO, hFj, hput⟩ := slO_open tRow_law hown hjl
        clear hme hFg2
        rw [mTo_at hlt] at hO
        have HM : Hid (∃ m', kAt tRow xs k (j + 1) = m') := Lib.hid ⟨_, rfl⟩
        obtain ⟨m', hm'⟩ := HM.out
        rw [hm'] at hstep r3 r4
        have HM' := Lib.hid hm'
        clear hm' HM H hown hjl
        generalize kAt tRow xs k j = m at *
        generalize xs.getD j tRow.d = x at *
        rw [HLL.out] at hrow hput
        obtain ⟨a0, x1⟩ := x
        rw [tRow_md] at hset
        rw [tRow_nd] at hstep
        rw [tRow_sz] at hzx
        obtain ⟨v1, K1, rfl, o1, q1⟩ := tRow_O hO
        have S1 := Lib.hid (show zL tInt x1 ≤ 1048576 by omega)
        have N1 := ndL_le tInt_law (by decide) x1
        have R1 : Hid (0 ≤ m + 1 ∧ m + 1 ≤ 1073741824) := Lib.hid (by omega)
        have hmm : m + 1 + (ndL tInt x1 : Int) = m' := by omega
        have HMM := Lib.hid hmm
        have hm0 : 0 ≤ m := by omega
        have hm1 : m ≤ 1073741824 := by omega
        clear hmm hstep hzx N1
        have hLl : Lc.length = xs.length * 2 := hrow.1
        have HSET := Lib.hid hset
        clear hset
        have tt : Turn (fun b => b = g ∨ Fj b ∨ wr.heap.size ≤ b) wr wr := Turn.refl _ _
        have rr := hrow
        have c0 : ∃ x, wr.cell? ⟨g, j * 2, none⟩ = some x := ⟨_, (World.ownsRow.cellAt rr (j * 2) (by show j * 2 < xs.length * 2; omega)).trans (List.getElem?_eq_getElem (by have h9 := rr.1; have h8 : xs.length * tRow.n = xs.length * 2 := rfl; omega))⟩
        obtain ⟨y0, c0⟩ := c0
        have f0 := World.ownsRow.frozenAt rr (j * 2)
        have cv1 : wr.cell? ⟨g, j * 2 + 1, none⟩ = some v1 := (World.ownsRow.cellAt rr (j * 2 + 1) (by show j * 2 + 1 < xs.length * 2; omega)).trans (by exact hLc 1 (by decide))
        go_wp2_with fail
        clear c0 f0 cv1
        have ts : Turn (fun b => b = g) wr (wr.setCell ⟨g, j * 2, none⟩ (.int .i64 (m))) := ((Turn.refl (fun b => b = g) _).trans (turn_set (G := fun b => b = g) (g := g) (j := j * 2) (u := .int .i64 (m)) rfl))
        replace rr := (World.ownsRow.stored rr (j * 2) (.int .i64 (m))).1
        replace o1 := slO_turn tInt_law o1 ts (fun b h1 h2 => (hFj b (q1 b h1)).2.1 h2)
        replace tt := tt.trans (ts.mono (fun b h => Or.inl h))
        clear ts
        generalize (wr.setCell ⟨g, j * 2, none⟩ (.int .i64 (m))) = W0 at *
        refine (markIntS_S v1 x1 _ (m + 1) W0 o1 S1.out R1.out.1 (by have := R1.out.2; omega)).mono ?_
        rintro e w1 ⟨rfl, m1, t1⟩
        replace rr := row_turn rr t1 (fun b hb h => by simp [Value.ownBlock] at hb; exact (hFj b (q1 b h)).2.1 hb.symm)
        replace o1 := m1
        replace tt := tt.trans (t1.mono (fun b h => Or.inr (Or.inl (q1 b h))))
        clear t1
        have hO2 := tRow_mkO (F := Fj) (a0 := m) o1 q1 
        have hst := hput w1 (Lc.set (j * 2) (.int .i64 (m))) [.int .i64 (m), v1] Fj _ rr (fun p hp => by have hp2 : p < j * 2 ∨ j * 2 + 2 ≤ p := hp; rw [List.getElem?_set_ne (by omega)]) (fun i hi => by have hi' : i < 2 := hi; match i, hi' with | 0, _ => (show ((Lc.set (j * 2) (.int .i64 (m))))[j * 2]? = _; rw [List.getElem?_set_self (by first | omega | (simp only [List.length_set]; omega))]; rfl) | 1, _ => (show ((Lc.set (j * 2) (.int .i64 (m))))[j * 2 + 1]? = _; rw [List.getElem?_set_ne (by omega)]; exact hLc 1 (by decide))) hO2 (fun b hb => ⟨(hFj b hb).1, Or.inl hb⟩) tt
        rw [HSET.out] at hst
        have HST := Lib.hid hst
        have hon2 := hon.trans (Turn.mono (G := fun b => F b ∧ b < w.heap.size) (G' := F) ⟨tt.os, tt.tape, tt.output, tt.size, fun b hb hn => tt.block b hb (fun h => hn (h.elim (fun h => by rw [h]; exact ⟨hFg, hgw⟩) (fun h => h.elim (fun h => (hFj b h).1) (fun h => absurd hb (Nat.not_lt.2 h)))))⟩ (fun b h => h.1))
        clear hst hput tt rr hO2 hon hFj hLc hLl o1
        rw [HMM.out]
        go_wp2
        go_roundw
        case rel => exact ⟨j + 1, by omega, by go_num, by rw [HM'.out], HST.out, hon2⟩
        case measure => simp [intOf]; omega
      · obtain rfl : j = xs.length := by omega
        rw [mTo_all] at hown
        go_wp2
        go_ret
        exact ⟨rfl, slO_mono hown (fun b h => h.1), hon⟩
set_option maxHeartbeats 8000000 in
set_option maxRecDepth 100000 in
theorem heldRowS_S (v : Value) (xs : List (Int × List Int)) (k : Int) (w : World) (h : SlR tRow w v (mAll tRow xs k)) (hs : zL tRow xs ≤ 1048576) (k0 : 0 ≤ k) (k1 : k ≤ 1006632960) :
    Calls Try.prog 15 #[v, .int .i64 k] w fun e w' => e = .returned (.int .i64 (k + (ndL tRow xs : Int))) ∧ w = w' := by
  rw [← kAt_all]
  have HS := Lib.hid hs
  have H := Lib.hid h
  have hlen := zL_len hs
  obtain ⟨a, cap, rfl⟩ := slR_len h
  rw [mAll_len] at H ⊢
  clear h hs
  go_enter Try.func15, Try.ntmps15
  go_wp2
  go_loop [1, 5] (fun m i => ∃ j : Nat, j ≤ xs.length ∧ i = .int .i64 j ∧ m = .int .i64 (kAt tRow xs k j)) (fun _ i => xs.length - (intOf i).toNat)
  case atStart => exact ⟨0, Nat.zero_le _, rfl, by rw [kAt_zero]⟩
  case round =>
    obtain ⟨j, hj, rfl, rfl⟩ := hrel
    by_cases hlt : j < xs.length
    · have i1 : (0 : Int) ≤ (j : Int) := by omega
      have i2 : (j : Int) < (xs.length : Int) := by omega
      obtain ⟨r1, r2⟩ := kAt_range tRow_law (by decide) (k := k) HS.out hj
      obtain ⟨r3, r4⟩ := kAt_range tRow_law (by decide) (k := k) (j := j + 1) HS.out (by omega)
      have hzx := zL_at HS.out hlt
      have hstep := kAt_step (T := tRow) (k := k) hlt
      obtain ⟨b, off, cap', cs, hv, hbl, hcs, hR⟩ := slR_at H.out (k := j) (by rw [mAll_len]; exact hlt)
      rw [mAll_len] at hv
      simp only [Value.slice.injEq] at hv
      obtain ⟨rfl, _, rfl⟩ := hv
      rw [mAll_at hlt] at hR
      have HM : Hid (∃ m', kAt tRow xs k (j + 1) = m') := Lib.hid ⟨_, rfl⟩
      obtain ⟨m', hm'⟩ := HM.out
      rw [hm'] at hstep r3 r4
      have HM' := Lib.hid hm'
      clear hm' HM H
      generalize kAt tRow xs k j = m at *
      generalize xs.getD j tRow.d = x at *
      obtain ⟨a0, x1⟩ := x
      rw [tRow_md] at hR
      obtain ⟨v1, hR'⟩ := tRow_R hR
      obtain ⟨rfl, h1⟩ := hR'
      rw [tRow_sz] at hzx
      rw [tRow_nd] at hstep
      have p0 : w.cell? ⟨b, off + j * 2, none⟩ = some (Value.int .i64 (m)) := hcs 0 (by decide)
      have p1 : w.cell? ⟨b, off + j * 2 + 1, none⟩ = some (v1) := hcs 1 (by decide)
      have S1 := Lib.hid (show zL tInt x1 ≤ 1048576 by omega)
      have N1 := ndL_le tInt_law (by decide) x1
      have R1 : Hid (0 ≤ m + 1 ∧ m + 1 ≤ 1073741824) := Lib.hid (by omega)
      have A1 := Lib.hid h1
      have ng1 : ¬ m + 1 + (ndL tInt x1 : Int) < 0 := by omega
      have eq0 : ((m : Int) != m) = false := by simp
      have hmm : m + 1 + (ndL tInt x1 : Int) = m' := by omega
      have HMM := Lib.hid hmm
      have hm0 : 0 ≤ m := by omega
      have hm1 : m ≤ 1073741824 := by omega
      clear hmm hstep hcs hzx N1 h1
      go_wp2_with fail
      refine (heldIntS_S v1 x1 (m + 1) _ A1.out S1.out R1.out.1 (by have := R1.out.2; omega)).mono ?_
      rintro e w2 ⟨rfl, rfl⟩
      rw [HMM.out]
      clear ng1
      have hnn : ¬ m' < 0 := by omega
      go_wp2
      go_round
      case rel => exact ⟨j + 1, by omega, by go_num, by rw [HM'.out]⟩
      case measure => simp [intOf]; omega
    · obtain rfl : j = xs.length := by omega
      go_wp2
      go_ret
      exact ⟨rfl, rfl⟩
end Go.Proofs.Ytdhglmoanpkeoaa
namespace Go.Proofs.Ytdhglmoanpkeoaa
open Go.RowKit
set_option linter.unusedVariables false
set_option linter.unusedSimpArgs false
/-- What the table of types says of the element. -/
def ElemInfo {α : Type} (T : Ty α) (e : TypeId) (z : Value) : Prop := ∃ i, Try.prog.info? e = some i ∧ i.zero = some z ∧ i.size = T.n ∧ i.bytes ≤ 512
theorem elemInfo_of {α : Type} {T : Ty α} {e : TypeId} {z : Value} (h : (Try.prog.info? e).map (fun i => (i.zero, i.size, decide (i.bytes ≤ 512))) = some (some z, T.n, true)) : ElemInfo T e z := by
  cases q : Try.prog.info? e with
  | none => rw [q] at h; simp at h
  | some i => rw [q] at h; simp only [Option.map_some, Option.some.injEq, Prod.mk.injEq, decide_eq_true_eq] at h; exact ⟨i, q, h.1, h.2.1, h.2.2⟩
theorem addr_add0 (b j : Nat) : (⟨b, 0, none⟩ : Addr).add j = ⟨b, j, none⟩ := by unfold Addr.add; split <;> simp_all
theorem addr_add (b o j : Nat) : (⟨b, o, none⟩ : Addr).add j = ⟨b, o + j, none⟩ := by unfold Addr.add; split <;> simp_all
/-- The blocks of what was there, as the append leaves them. -/
theorem grown_alloc {w w' : World} {o : Obj} {row : Option Nat} (h : (w.alloc o).grownBy w' row) : w.grownBy w' row := by
  have hg := World.grownBy_alloc w o row
  exact ⟨h.os.trans hg.os, h.tape.trans hg.tape, h.output.trans hg.output, Nat.le_trans hg.size h.size, fun k hk hne => (h.block k (Nat.lt_of_lt_of_le hk hg.size) hne).trans (hg.block k hk hne)⟩
theorem run_append_T {α : Type} {T : Ty α} (A : T.Law) {e t : TypeId} {z : Value} (I : ElemInfo T e z) (ht : Try.prog.underlying t = some (.slice e)) (hz : z.cells.size = T.n)
    {w : World} (ty : TypeId) (F : Nat → Prop) (D : Nat) (v : Value) (xs : List α) (hown : SlO e T w (fun b => F b ∧ b < D) v xs) (hD : D ≤ w.heap.size) (hf : ∀ b, D ≤ b → F b) (hn : xs.length ≤ 1048576)
    (cs : List Value) (x0 : α) (hnew : T.O w (fun b => D ≤ b) cs x0) (h1 : ∀ u ∈ cs, u.oneCell' = true) (c : Nat) :
    ∃ v' w', (Builtin.append_ #[t, t] ty #[v, .slice (some ⟨w.heap.size, 0, none⟩) 1 c]).run Try.prog (w.alloc (.cells cs.toArray e)) = .ok v' w' ∧ SlO e T w' F v' (xs ++ [x0]) ∧ Turn (fun b => F b ∧ b < D) w w' := by
  obtain ⟨i0, hi, hz0, hz1, hz2⟩ := I
  obtain ⟨L, us, Fs, g1, g2, g3, g4⟩ := slO_lt A hown
  have hcl : cs.length = T.n := A.len (A.reads hnew)
  have hpos := A.pos
  have hb : (xs.length + 1) * i0.bytes ≤ 1048577 * 512 := Nat.mul_le_mul (by omega) hz2
  obtain ⟨v', w', hr, k1, k2, _, k4⟩ := run_append_own_at (P := Try.prog) (w.alloc (.cells cs.toArray e)) 0 t ty e i0 z T.n i0.bytes ht hi hz0 hz1 rfl hz hpos v xs.length _ (g1.alloc _) ⟨w.heap.size, 0, none⟩ 1 c cs (by omega) (fun j u hj => by
    rw [addr_add0, cell_of_row _ w.heap.size j cs.toArray e (0, 0) (heap_alloc_new w _)]
    simpa using hj) h1 (by unfold maxLen; omega) (by omega) (Nat.zero_le _)
  have k5 := grown_alloc k2
  have hv : ∀ b, v.ownBlock = some b → F b ∧ b < D := fun b hb => (g2 b hb).1
  have hsz : (w.alloc (.cells cs.toArray e)).heap.size = w.heap.size + 1 := by simp [World.size_alloc]
  refine ⟨v', w', hr, ?_, turn_grown k5 hv⟩
  refine slO_app (F := F) (Fn := fun b => D ≤ b ∧ b < w.heap.size) A (fun b hb => (hv b hb).1) (fun j hj => ⟨(g3 j hj).1, (g3 j hj).2.1, fun b hb => ⟨⟨((g3 j hj).2.2 b hb).1.1.1, ((g3 j hj).2.2 b hb).1.2⟩, ((g3 j hj).2.2 b hb).2⟩⟩) g4 g1.1 k1 k5 (fun b hb => ?_) (A.lt hnew) hcl (fun b hb => ⟨hf b hb.1, hb.2, fun q => ?_, fun j hj q => ?_⟩)
  · rcases k4 with q | q
    · exact Or.inl (q ▸ hb)
    · rw [q, hsz] at hb
      have := Option.some.inj hb
      exact Or.inr ⟨by omega, hf b (by omega)⟩
  · have := (hv b q).2; omega
  · have := ((g3 j hj).2.2 b q).1.1.2; omega
theorem append_T {α : Type} {T : Ty α} (A : T.Law) {e t : TypeId} {z : Value} (I : ElemInfo T e z) (ht : Try.prog.underlying t = some (.slice e)) (hz : z.cells.size = T.n)
    {w : World} {ops : Array Oper} {rest : List Oper} {o : Oper} {a : Act} {Q : Exit → Act → World → Prop} (hgd : o.guard = none) (s x : Operand)
    (ho : o.op = .call { callee := .builtin .append, args := #[s, x], argTypes := #[t, t] })
    (F : Nat → Prop) (D : Nat) (v : Value) (xs : List α) (hs : a.eval s = v) (hown : SlO e T w (fun b => F b ∧ b < D) v xs) (hD : D ≤ w.heap.size) (hf : ∀ b, D ≤ b → F b) (hn : xs.length ≤ 1048576)
    (cs : List Value) (x0 : α) (hnew : T.O w (fun b => D ≤ b) cs x0) (h1 : ∀ u ∈ cs, u.oneCell' = true) (c g0 : Nat) (hx : a.eval x = .slice (some ⟨g0, 0, none⟩) 1 c) (hg0 : g0 = w.heap.size)
    (h : ∀ v' w', SlO e T w' F v' (xs ++ [x0]) → Turn (fun b => F b ∧ b < D) w w' → wpList Try.prog ops Q rest (a.put o.dst v') w') : wpList Try.prog ops Q (o :: rest) a (w.alloc (.cells cs.toArray e)) := by
  subst hg0
  refine wpList_plain hgd fun K hK => ?_
  obtain ⟨v', w', hr, h2, h3⟩ := run_append_T A I ht hz o.type F D v xs hown hD hf hn cs x0 hnew h1 c
  unfold Oper.wp execOp
  simp only [ho, resolve, invoke, builtin, Sem.run_bind, Sem.run_pure, Result.andThen_ok, List.map_toArray, List.map_cons, List.map_nil, hs, hx, hr]
  exact hK _ _ (h v' w' h2 h3)
theorem step_append_T {α : Type} {T : Ty α} (A : T.Law) {e t : TypeId} {z : Value} (I : ElemInfo T e z) (ht : Try.prog.underlying t = some (.slice e)) (hz : z.cells.size = T.n)
    {w : World} {ops : Array Oper} {o : Oper} {a : Act} {K : Act → World → Prop} {Q : Exit → Act → World → Prop} {E : Prop} (hwa : Region.wanted o (yielded ops a.tmps) = true) (s x : Operand)
    (ho : o.op = .call { callee := .builtin .append, args := #[s, x], argTypes := #[t, t] })
    (F : Nat → Prop) (D : Nat) (v : Value) (xs : List α) (hs : a.eval s = v) (hown : SlO e T w (fun b => F b ∧ b < D) v xs) (hD : D ≤ w.heap.size) (hf : ∀ b, D ≤ b → F b) (hn : xs.length ≤ 1048576)
    (cs : List Value) (x0 : α) (hnew : T.O w (fun b => D ≤ b) cs x0) (h1 : ∀ u ∈ cs, u.oneCell' = true) (c g0 : Nat) (hx : a.eval x = .slice (some ⟨g0, 0, none⟩) 1 c) (hg0 : g0 = w.heap.size)
    (h : ∀ v' w', SlO e T w' F v' (xs ++ [x0]) → Turn (fun b => F b ∧ b < D) w w' → K (a.put o.dst v') w') : if Region.wanted o (yielded ops a.tmps) = true then Oper.wp Try.prog o a (w.alloc (.cells cs.toArray e)) K Q else E := by
  subst hg0
  rw [if_pos hwa]
  obtain ⟨v', w', hr, h2, h3⟩ := run_append_T A I ht hz o.type F D v xs hown hD hf hn cs x0 hnew h1 c
  unfold Oper.wp execOp
  simp only [ho, resolve, invoke, builtin, Sem.run_bind, Sem.run_pure, Result.andThen_ok, List.map_toArray, List.map_cons, List.map_nil, hs, hx, hr]
  exact h v' w' h2 h3
/-- The cells of a slice that is read, in a row. -/
theorem slR_cells {α : Type} {T : Ty α} {w : World} {b off cap m : Nat} {xs : List α} (A : T.Law) (h : SlR T w (.slice (some ⟨b, off, none⟩) m cap) xs) (hp : 0 < xs.length) :
    m = xs.length ∧ b < w.heap.size ∧ ∃ L : List Value, L.length = xs.length * T.n ∧ (∀ j u, L[j]? = some u → w.cell? ⟨b, off + j, none⟩ = some u) ∧ ∀ j, j < xs.length → ∃ cs, T.R w cs (xs.getD j T.d) ∧ ∀ i, i < T.n → L[j * T.n + i]? = cs[i]? := by
  rcases h with ⟨rfl, _⟩ | ⟨b', off', cap', us, hv, h2, h3, h4⟩
  · simp at hp
  · simp only [Value.slice.injEq, Option.some.injEq, Addr.mk.injEq] at hv
    obtain ⟨⟨rfl, rfl, _⟩, rfl, rfl⟩ := hv
    have hpos := A.pos
    have hlen : ∀ j, j < xs.length → (us j).length = T.n := fun j hj => A.len (h4 j hj).2
    refine ⟨rfl, h3, (List.range (xs.length * T.n)).map (fun k => (us (k / T.n)).getD (k % T.n) undef), by simp, fun j u hj => ?_, fun j hj => ⟨us j, (h4 j hj).2, fun i hi => ?_⟩⟩
    · have hjl : j < xs.length * T.n := by
        have := (List.getElem?_eq_some_iff.1 hj).1
        simpa using this
      rw [List.getElem?_map, List.getElem?_range hjl] at hj
      simp only [Option.map_some, Option.some.injEq] at hj
      have hq : j / T.n < xs.length := (Nat.div_lt_iff_lt_mul hpos).2 hjl
      have hm : j % T.n < T.n := Nat.mod_lt _ hpos
      have e : off + j / T.n * T.n + j % T.n = off + j := by
        have := Nat.div_add_mod j T.n
        rw [Nat.mul_comm] at this; omega
      have hc := (h4 _ hq).1 _ hm
      rw [e, List.getElem?_eq_getElem (by rw [hlen _ hq]; exact hm)] at hc
      rw [hc, ← hj]
      simp [List.getD, hlen _ hq, hm]
    · have hlt : j * T.n + i < xs.length * T.n := by
        have : (j + 1) * T.n ≤ xs.length * T.n := Nat.mul_le_mul_right _ hj
        rw [Nat.add_mul, Nat.one_mul] at this; omega
      have e1 : (j * T.n + i) / T.n = j := by rw [Nat.mul_comm, Nat.mul_add_div hpos, Nat.div_eq_of_lt hi]; omega
      have e2 : (j * T.n + i) % T.n = i := by rw [Nat.mul_comm, Nat.mul_add_mod, Nat.mod_eq_of_lt hi]
      rw [List.getElem?_map, List.getElem?_range hlt]
      simp only [Option.map_some, e1, e2]
      rw [List.getElem?_eq_getElem (by rw [hlen j hj]; exact hi)]
      simp [List.getD, hlen j hj, hi]
/-- Plain data: what is read may be owned. -/
def Flat {α : Type} (T : Ty α) : Prop := (∀ {w w' : World} {F : Nat → Prop} {cs : List Value} {x : α}, T.R w cs x → T.O w' F cs x) ∧ ∀ {w : World} {cs : List Value} {x : α}, T.R w cs x → ∀ u ∈ cs, u.oneCell' = true
theorem flat_int : Flat tInt := ⟨fun h => h, fun h u hu => by rw [show _ = [Value.int .i64 _] from h] at hu; simp at hu; rw [hu]; rfl⟩
/-- What lies in slices of plain data that the call made, element by element. -/
theorem slO_flat {α : Type} {T : Ty α} (A : T.Law) (hfl : Flat T) {e : TypeId} {w : World} {F : Nat → Prop} {v : Value} {xs : List α} {L : List Value} {B : Nat} (h : w.ownsRow B e T.n v xs.length L) (hF : ∀ b, v.ownBlock = some b → F b)
    (hL : ∀ j, j < xs.length → ∃ cs, T.R w cs (xs.getD j T.d) ∧ ∀ i, i < T.n → L[j * T.n + i]? = cs[i]?) : SlO e T w F v xs := by
  haveI : Inhabited (List Value) := ⟨[]⟩
  obtain ⟨f, hf⟩ := Go.Deep.choose_lt (α := List Value) (n := xs.length) (p := fun j cs => T.R w cs (xs.getD j T.d) ∧ ∀ i, i < T.n → L[j * T.n + i]? = cs[i]?) hL
  exact ⟨L, f, fun _ _ => False, row_low h (Nat.zero_le _), hF, fun j hj => ⟨(hf j hj).2, hfl.1 (hf j hj).1, fun b hb => False.elim hb⟩, fun i j _ _ _ b hb => False.elim hb⟩
theorem run_append_flat {α : Type} {T : Ty α} (A : T.Law) (hfl : Flat T) {e t : TypeId} {z : Value} (I : ElemInfo T e z) (ht : Try.prog.underlying t = some (.slice e)) (hz : z.cells.size = T.n)
    {w : World} {F0 F : Nat → Prop} {v u : Value} {xs ys : List α} (ty : TypeId) (hown : SlO e T w F0 v xs) (hu : SlR T w u ys) (h0 : ∀ b, F0 b → F b) (hf : F w.heap.size) (h63 : xs.length + ys.length ≤ 2097152) :
    ∃ v' w', (Builtin.append_ #[t, t] ty #[v, u]).run Try.prog w = .ok v' w' ∧ SlO e T w' F v' (xs ++ ys) ∧ w.grownBy w' v.ownBlock := by
  obtain ⟨i0, hi, hz0, hz1, hz2⟩ := I
  have hpos := A.pos
  by_cases hp : 0 < ys.length
  · obtain ⟨a', cap', rfl⟩ := slR_len hu
    rcases hu with ⟨rfl, _⟩ | hu'
    · simp at hp
    · have hu : SlR T w (.slice a' ys.length cap') ys := Or.inr hu'
      obtain ⟨b, off, cap2, us, hv, _⟩ := hu'
      simp only [Value.slice.injEq] at hv
      obtain ⟨rfl, _, rfl⟩ := hv
      obtain ⟨_, hbl, N, hN, hNc, hNr⟩ := slR_cells A hu hp
      obtain ⟨L, us2, Fs, g1, g2, g3, g4⟩ := hown
      have hb : (xs.length + ys.length) * i0.bytes ≤ 2097152 * 512 := Nat.mul_le_mul h63 hz2
      obtain ⟨v', w', hr, k1, k2, _, k4⟩ := run_append_own_at (P := Try.prog) w 0 t ty e i0 z T.n i0.bytes ht hi hz0 hz1 rfl hz hpos v xs.length _ g1 ⟨b, off, none⟩ ys.length cap' N hN (fun j q hj => by rw [addr_add]; exact hNc j q hj) (fun q hq => by
        obtain ⟨k, hk, rfl⟩ := List.getElem_of_mem hq
        have hkl : k < ys.length * T.n := by omega
        have hq : k / T.n < ys.length := (Nat.div_lt_iff_lt_mul hpos).2 hkl
        have hm : k % T.n < T.n := Nat.mod_lt _ hpos
        obtain ⟨cs, hR, hc⟩ := hNr _ hq
        have e1 : k / T.n * T.n + k % T.n = k := by
          have := Nat.div_add_mod k T.n
          rw [Nat.mul_comm] at this; exact this
        have h5 := hc _ hm
        rw [e1, List.getElem?_eq_getElem hk, List.getElem?_eq_getElem (by rw [A.len hR]; exact hm)] at h5
        rw [Option.some.inj h5]
        exact hfl.2 hR _ (List.getElem_mem _)) (by unfold maxLen; omega) (by omega) (Nat.zero_le _)
      refine ⟨v', w', hr, ?_, k2⟩
      have hLl : L.length = xs.length * T.n := g1.1
      refine slO_flat A hfl (by rw [List.length_append]; exact k1) (fun c hc => ?_) (fun j hj => ?_)
      · rcases k4 with q | q
        · exact h0 c (g2 c (q ▸ hc))
        · rw [q] at hc; rw [← Option.some.inj hc]; exact hf
      · rw [List.length_append] at hj
        by_cases hlt : j < xs.length
        · have er : (xs ++ ys).getD j T.d = xs.getD j T.d := by simp [List.getD, List.getElem?_append_left hlt]
          obtain ⟨c1, c2, _⟩ := g3 j hlt
          refine ⟨us2 j, by rw [er]; exact A.reads (hfl.1 (w' := w') (F := F) (A.reads c2)), fun i hi => ?_⟩
          have hl2 : j * T.n + i < L.length := by
            have : (j + 1) * T.n ≤ xs.length * T.n := Nat.mul_le_mul_right _ hlt
            rw [Nat.add_mul, Nat.one_mul] at this; omega
          rw [List.getElem?_append_left hl2]
          exact c1 i hi
        · obtain ⟨m, rfl⟩ : ∃ m, j = xs.length + m := ⟨j - xs.length, by omega⟩
          have hm : m < ys.length := by omega
          have er : (xs ++ ys).getD (xs.length + m) T.d = ys.getD m T.d := by simp [List.getD, List.getElem?_append_right]
          obtain ⟨cs, hR, hc⟩ := hNr m hm
          refine ⟨cs, by rw [er]; exact A.reads (hfl.1 (w' := w') (F := F) hR), fun i hi => ?_⟩
          have e1 : (xs.length + m) * T.n + i = L.length + (m * T.n + i) := by rw [hLl, Nat.add_mul]; omega
          rw [e1, List.getElem?_append_right (by omega), Nat.add_sub_cancel_left]
          exact hc i hi
  · have hy : ys = [] := List.eq_nil_of_length_eq_zero (by omega)
    subst hy
    obtain ⟨a', cap', rfl⟩ := slR_len hu
    have hs : Src Try.prog i0.size t (.slice a' 0 cap') 0 [] w := by
      cases a' with
      | none => exact Src.ofNil w ht cap'
      | some ad => exact Src.ofSlice w ht ad 0 cap' [] (by simp) (by simp) (by simp)
    obtain ⟨a, cap, hv, hle⟩ : ∃ a cap, v = .slice a xs.length cap ∧ xs.length ≤ cap := by
      obtain ⟨L, us2, Fs, g1, _⟩ := hown
      rcases g1.2 with ⟨rfl, q⟩ | ⟨g, cap, cur, rfl, _, _, hn, _⟩
      · exact ⟨none, 0, by rw [q], by omega⟩
      · exact ⟨_, cap, rfl, hn⟩
    subst hv
    exact ⟨_, _, run_append_nothing w t t ty e i0 ht hi a xs.length cap hle _ hs, by rw [List.append_nil]; exact slO_mono hown h0, World.grownBy.refl _ _⟩
theorem step_append_flat {α : Type} {T : Ty α} (A : T.Law) (hfl : Flat T) {e t : TypeId} {z : Value} (I : ElemInfo T e z) (ht : Try.prog.underlying t = some (.slice e)) (hz : z.cells.size = T.n)
    {w : World} {ops : Array Oper} {o : Oper} {a : Act} {K : Act → World → Prop} {Q : Exit → Act → World → Prop} {E : Prop} (hwa : Region.wanted o (yielded ops a.tmps) = true) (s x : Operand)
    (ho : o.op = .call { callee := .builtin .append, args := #[s, x], argTypes := #[t, t] })
    (F0 F : Nat → Prop) (v u : Value) (xs ys : List α) (hs : a.eval s = v) (hx : a.eval x = u) (hown : SlO e T w F0 v xs) (hu : SlR T w u ys) (h0 : ∀ b, F0 b → F b) (hf : F w.heap.size) (h63 : xs.length + ys.length ≤ 2097152)
    (h : ∀ v' w', SlO e T w' F v' (xs ++ ys) → Turn F0 w w' → K (a.put o.dst v') w') : if Region.wanted o (yielded ops a.tmps) = true then Oper.wp Try.prog o a w K Q else E := by
  rw [if_pos hwa]
  have hblk : ∀ b, v.ownBlock = some b → F0 b := by obtain ⟨L, us2, Fs, g1, g2, _⟩ := hown; exact g2
  obtain ⟨v', w', hr, h2, h3⟩ := run_append_flat A hfl I ht hz o.type hown hu h0 hf h63
  unfold Oper.wp execOp
  simp only [ho, resolve, invoke, builtin, Sem.run_bind, Sem.run_pure, Result.andThen_ok, List.map_toArray, List.map_cons, List.map_nil, hs, hx, hr]
  exact h v' w' h2 (turn_grown h3 hblk)
theorem append_flat {α : Type} {T : Ty α} (A : T.Law) (hfl : Flat T) {e t : TypeId} {z : Value} (I : ElemInfo T e z) (ht : Try.prog.underlying t = some (.slice e)) (hz : z.cells.size = T.n)
    {w : World} {ops : Array Oper} {rest : List Oper} {o : Oper} {a : Act} {Q : Exit → Act → World → Prop} (hgd : o.guard = none) (s x : Operand)
    (ho : o.op = .call { callee := .builtin .append, args := #[s, x], argTypes := #[t, t] })
    (F0 F : Nat → Prop) (v u : Value) (xs ys : List α) (hs : a.eval s = v) (hx : a.eval x = u) (hown : SlO e T w F0 v xs) (hu : SlR T w u ys) (h0 : ∀ b, F0 b → F b) (hf : F w.heap.size) (h63 : xs.length + ys.length ≤ 2097152)
    (h : ∀ v' w', SlO e T w' F v' (xs ++ ys) → Turn F0 w w' → wpList Try.prog ops Q rest (a.put o.dst v') w') : wpList Try.prog ops Q (o :: rest) a w := by
  refine wpList_plain hgd fun K hK => ?_
  have hblk : ∀ b, v.ownBlock = some b → F0 b := by obtain ⟨L, us2, Fs, g1, g2, _⟩ := hown; exact g2
  obtain ⟨v', w', hr, h2, h3⟩ := run_append_flat A hfl I ht hz o.type hown hu h0 hf h63
  unfold Oper.wp execOp
  simp only [ho, resolve, invoke, builtin, Sem.run_bind, Sem.run_pure, Result.andThen_ok, List.map_toArray, List.map_cons, List.map_nil, hs, hx, hr]
  exact hK _ _ (h v' w' h2 (turn_grown h3 hblk))
/-- 'T{}' as a slice: no element yet. -/
theorem slO_empty {α : Type} {T : Ty α} (w : World) (e : TypeId) (F : Nat → Prop) (h : F w.heap.size) : SlO e T (w.alloc (.cells #[] e)) F (.slice (some ⟨w.heap.size, 0, none⟩) 0 0) [] := by
  refine ⟨[], fun _ => [], fun _ _ => False, ?_, fun b hb => ?_, fun j hj => by simp at hj, fun i j hi => by simp at hi⟩
  · have := World.ownsRow_made (base := 0) (e := e) (size := T.n) w #[] 0 (Nat.zero_le _) (by unfold maxLen; omega) (by simp)
    exact this
  · simp [Value.ownBlock] at hb; rw [← hb]; exact h
end Go.Proofs.Ytdhglmoanpkeoaa
namespace Go.Proofs.Ytdhglmoanpkeoaa
open Go.RowKit
set_option linter.unusedVariables false
set_option linter.unusedSimpArgs false
/-- Cells as they are: n of them. -/
def tRaw (n : Nat) : Ty (List Value) := { n := n, d := [], R := fun _ cs x => cs = x ∧ cs.length = n ∧ ∀ u ∈ cs, u.oneCell' = true, O := fun _ _ cs x => cs = x ∧ cs.length = n ∧ ∀ u ∈ cs, u.oneCell' = true, sz := fun _ => 0, nd := fun _ => 0, nv := fun _ => 0, md := fun x _ => x, mv := fun x _ => x, ok := fun _ => True, s := 0 }
theorem tRaw_law {n : Nat} (h : 0 < n) : (tRaw n).Law := ⟨h, fun h => h.2.1, fun h _ => h, fun h => h, fun h _ _ => h, fun h _ => h, fun h => h, fun x => Nat.le_refl _, fun x => Nat.le_refl _⟩
theorem flat_raw (n : Nat) : Flat (tRaw n) := ⟨fun h => h, fun h => h.2.2⟩
/-- Each cell of an element holds one value. -/
def OneC {α : Type} (T : Ty α) : Prop := ∀ {w : World} {cs : List Value} {x : α}, T.R w cs x → ∀ u ∈ cs, u.oneCell' = true
/-- What the cells read as. -/
def Sh {α : Type} (T : Ty α) (w : World) (L : List (List Value)) (xs : List α) : Prop := L.length = xs.length ∧ ∀ j, j < xs.length → T.R w (L.getD j []) (xs.getD j T.d)
section
variable {α : Type} {T : Ty α}
theorem sh_nil (w : World) : Sh T w [] [] := ⟨rfl, fun j hj => by simp at hj⟩
theorem sh_len {w : World} {L : List (List Value)} {xs : List α} (h : Sh T w L xs) : L.length = xs.length := h.1
theorem sh_below (A : T.Law) {W w : World} {L : List (List Value)} {xs : List α} (h : Sh T W L xs) (hb : Below W.heap.size W w) : Sh T w L xs := ⟨h.1, fun j hj => A.below (h.2 j hj) hb⟩
theorem sh_app {w : World} {L M : List (List Value)} {xs ys : List α} (h : Sh T w L xs) (g : Sh T w M ys) : Sh T w (L ++ M) (xs ++ ys) := by
  refine ⟨by rw [List.length_append, List.length_append, h.1, g.1], fun j hj => ?_⟩
  rw [List.length_append] at hj
  by_cases hlt : j < xs.length
  · have e1 : (xs ++ ys).getD j T.d = xs.getD j T.d := by simp [List.getD, List.getElem?_append_left hlt]
    have e2 : (L ++ M).getD j [] = L.getD j [] := by simp only [List.getD]; rw [List.getElem?_append_left (by rw [h.1]; exact hlt)]
    rw [e1, e2]; exact h.2 j hlt
  · have e1 : (xs ++ ys).getD j T.d = ys.getD (j - xs.length) T.d := by simp [List.getD, List.getElem?_append_right (show xs.length ≤ j by omega)]
    have e2 : (L ++ M).getD j [] = M.getD (j - xs.length) [] := by simp only [List.getD]; rw [List.getElem?_append_right (by rw [h.1]; omega), h.1]
    rw [e1, e2]; exact g.2 _ (by omega)
theorem sh_one {w : World} {cs : List Value} {x : α} (h : T.R w cs x) : Sh T w [cs] [x] := ⟨rfl, fun j hj => by
  obtain rfl : j = 0 := by simpa using hj
  exact h⟩
/-- A slice that is read, as cells. -/
theorem slR_raw (A : T.Law) (O : OneC T) {w : World} {v : Value} {xs : List α} (h : SlR T w v xs) : ∃ L, SlR (tRaw T.n) w v L ∧ Sh T w L xs := by
  rcases h with ⟨rfl, a, cap, rfl⟩ | ⟨b, off, cap, us, rfl, h2, h3, h4⟩
  · exact ⟨[], Or.inl ⟨rfl, a, cap, rfl⟩, sh_nil w⟩
  · have hl : ((List.range xs.length).map us).length = xs.length := by simp
    have hg : ∀ j, j < xs.length → ((List.range xs.length).map us).getD j [] = us j := fun j hj => by simp [List.getD, hj]
    refine ⟨(List.range xs.length).map us, Or.inr ⟨b, off, cap, us, by rw [hl], by rw [hl]; exact h2, h3, fun j hj => ?_⟩, hl, fun j hj => by rw [hg j hj]; exact (h4 j hj).2⟩
    rw [hl] at hj
    refine ⟨(h4 j hj).1, ?_⟩
    show us j = ((List.range xs.length).map us).getD j [] ∧ _
    rw [hg j hj]
    exact ⟨rfl, A.len (h4 j hj).2, O (h4 j hj).2⟩
theorem raw_slR {w : World} {v : Value} {L : List (List Value)} {xs : List α} (h : SlR (tRaw T.n) w v L) (g : Sh T w L xs) : SlR T w v xs := by
  rcases h with ⟨rfl, a, cap, rfl⟩ | ⟨b, off, cap, us, rfl, h2, h3, h4⟩
  · have : xs = [] := List.eq_nil_of_length_eq_zero (by rw [← g.1]; rfl)
    subst this
    exact Or.inl ⟨rfl, a, cap, rfl⟩
  · rw [g.1] at h2 h4
    refine Or.inr ⟨b, off, cap, us, by rw [g.1], h2, h3, fun j hj => ⟨(h4 j hj).1, ?_⟩⟩
    have e : us j = L.getD j [] := (h4 j hj).2.1
    rw [e]
    exact g.2 j hj
/-- What is owned raw and read as elements that were there, stays while the rest of the memory stays. -/
theorem raw_reads (hn : 0 < T.n) {e : TypeId} {w : World} {F : Nat → Prop} {v : Value} {L : List (List Value)} {xs : List α} (h : SlO e (tRaw T.n) w F v L) (g : Sh T w L xs) : SlR T w v xs := raw_slR (slO_reads (tRaw_law hn) h) g
end
end Go.Proofs.Ytdhglmoanpkeoaa
namespace Go.Proofs.Ytdhglmoanpkeoaa
open Go.RowKit
set_option linter.unusedVariables false
set_option linter.unusedSimpArgs false
theorem verR_at {w : World} {v : Value} {l : List VerD} (h : SlR tVersion w v l) {k : Nat} (hk : k < l.length) :
    ∃ (b off cap : Nat) (a : Option Addr) (c : Nat), v = .slice (some ⟨b, off, none⟩) l.length cap ∧ b < w.heap.size ∧
      w.cell? ⟨b, off + k * 4, none⟩ = some (.int .i64 (l.getD k v0D).1) ∧ w.cell? ⟨b, off + k * 4 + 1, none⟩ = some (.slice a (l.getD k v0D).2.1.length c) ∧
      w.cell? ⟨b, off + k * 4 + 2, none⟩ = some (.int .i64 (l.getD k v0D).2.2.1) ∧ w.cell? ⟨b, off + k * 4 + 3, none⟩ = some (.int .i64 (l.getD k v0D).2.2.2) ∧
      Ints w (.slice a (l.getD k v0D).2.1.length c) (l.getD k v0D).2.1 := by
  obtain ⟨b, off, cap, cs, hv, hb, hc, hR⟩ := slR_at h hk
  change tVersion.R w cs (l.getD k v0D) at hR
  generalize l.getD k v0D = r at *
  obtain ⟨i, xs, bo, di⟩ := r
  obtain ⟨v1, rfl, h1⟩ := tVersion_R hR
  obtain ⟨a, c, rfl⟩ := slR_len h1
  exact ⟨b, off, cap, a, c, hv, hb, hc 0 (by decide), hc 1 (by decide), hc 2 (by decide), hc 3 (by decide), slR_ints h1⟩
theorem one_Version : OneC tVersion := fun {w cs x} h u hu => by
  obtain ⟨i, xs, bo, di⟩ := x
  obtain ⟨v1, rfl, h1⟩ := tVersion_R h
  obtain ⟨a, c, rfl⟩ := slR_len h1
  simp at hu
  rcases hu with rfl | rfl | rfl | rfl <;> rfl
theorem info_R_Version : ElemInfo (tRaw 4) 115 (.agg #[.int .i64 0, .slice none 0 0, .int .i64 0, .int .i64 0]) := elemInfo_of (by kernel_rfl)
theorem zL_sum {α : Type} (T : Ty α) (xs : List α) : zL T xs = xs.length + (xs.map T.sz).sum := by unfold zL zTo sumN; rw [List.take_length]
theorem ver_sz (v : VerD) : tVersion.sz v = v.2.1.length := by
  obtain ⟨i, xs, bo, di⟩ := v
  rw [tVersion_sz, zL_ints]
theorem row_sz (r : RowD) : tRow.sz r = r.2.length := by
  obtain ⟨i, xs⟩ := r
  rw [tRow_sz, zL_ints]
theorem zL_all (ss : List (List VerD)) : ss.length + zL tVersion ss.flatten = zL tVersionS ss := by
  rw [zL_sum tVersionS, zL_sum tVersion]
  congr 1
  induction ss with
  | nil => rfl
  | cons s ss ih =>
    rw [List.flatten_cons, List.length_append, List.map_append, List.sum_append, List.map_cons, List.sum_cons, ← ih]
    have e : tVersionS.sz s = s.length + (s.map tVersion.sz).sum := zL_sum tVersion s
    rw [e]; omega
theorem zL_seg {ss : List (List VerD)} {k : Nat} (hk : k < ss.length) : zL tVersion (ss.getD k []) ≤ zL tVersionS ss := zL_at (T := tVersionS) (Nat.le_refl _) hk
theorem zL_rowsV (l : List VerD) (t : Int) : zL tRow (rowsV l t) ≤ zL tVersion l := by
  rw [zL_sum, zL_sum]
  induction l with
  | nil => exact Nat.le_refl _
  | cons v l ih =>
    have e : rowsV (v :: l) t = rowsV [v] t ++ rowsV l t := rowsV_app [v] l t
    rw [e, List.length_append, List.map_append, List.sum_append, List.map_cons, List.sum_cons, List.length_cons]
    cases hv : visB v t with
    | false =>
      have e1 : rowsV [v] t = [] := by simp [rowsV, hv]
      rw [e1]; simp only [List.length_nil, List.map_nil, List.sum_nil]; omega
    | true =>
      have e1 : rowsV [v] t = [rowOfV v] := by simp [rowsV, hv]
      rw [e1]; simp only [List.length_cons, List.length_nil, List.map_cons, List.map_nil, List.sum_cons, List.sum_nil]
      rw [row_sz, ver_sz]
      show _ + (v.2.1.length + 0 + _) ≤ _
      omega
theorem ver_len {l : List VerD} (hs : zL tVersion l ≤ 1048576) {k : Nat} (hk : k < l.length) : (l.getD k v0D).2.1.length ≤ 1048576 := by
  have := zL_at (T := tVersion) hs hk
  rw [ver_sz] at this
  exact this
end Go.Proofs.Ytdhglmoanpkeoaa
namespace Go.Proofs.Ytdhglmoanpkeoaa
open Go.RowKit
set_option linter.unusedVariables false
set_option linter.unusedSimpArgs false
set_option maxHeartbeats 8000000 in
set_option maxRecDepth 100000 in
theorem specVersion (id born died now : Int) (vv : Value) (xs : List Int) (w : World) (h : Ints w vv xs) (hn : xs.length ≤ 1048576) (hw : now ≤ 100000) :
    Calls Try.prog 80 #[.agg #[.int .i64 id, vv, .int .i64 born, .int .i64 died], .int .i64 now] w fun e w' => e = .returned (.bool (verB (id, xs, born, died) now)) ∧ Below w.heap.size w w' := by
  have HR := Lib.hid (fun W g => specIsRow id vv xs W g hn)
  have H := Lib.hid h
  clear hn
  obtain ⟨va, vc, rfl⟩ := ints_len h
  have d0 := Lib.hid (show Below w.heap.size w (w.alloc (.cells #[.int .i64 id, .slice va xs.length vc, .int .i64 born, .int .i64 died] 115)) from (Below.refl _ _).alloc (Nat.le_refl _) _)
  have B0 : Hid ((w.alloc (.cells #[.int .i64 id, .slice va xs.length vc, .int .i64 born, .int .i64 died] 115)).heap[w.heap.size]? = some (.cells #[.int .i64 id, .slice va xs.length vc, .int .i64 born, .int .i64 died] 115 (0, 0))) := Lib.hid (heap_alloc_new w _)
  have Y0 : Hid (w.heap.size < (w.alloc (.cells #[.int .i64 id, .slice va xs.length vc, .int .i64 born, .int .i64 died] 115)).heap.size) := Lib.hid (by simp [World.size_alloc])
  have HV : Hid (∀ r l, rowB (id, xs) = r → decide (lifeP born died now) = l → verB (id, xs, born, died) now = (r && l)) := Lib.hid (fun r l h1 h2 => by unfold verB; rw [h1]; show (r && decide (lifeP born died now)) = _; rw [h2])
  clear h
  cases hr : rowB (id, xs) with
  | false =>
    rw [hr] at HR
    rw [HV.out _ _ hr rfl, Bool.false_and]
    clear hr HV
    go_enter Try.func80, Try.ntmps80
    go_wp2_with fail
    generalize w.alloc (.cells #[.int .i64 id, .slice va xs.length vc, .int .i64 born, .int .i64 died] 115) = W at *
    refine (HR.out W (ints_below H.out d0.out)).mono ?_
    rintro e w1 ⟨rfl, b1⟩
    have k0 := (b1.block w.heap.size Y0.out).trans B0.out
    have b2 := d0.out.trans (b1.mono d0.out.size)
    go_wp2
    go_ret
    exact ⟨rfl, b2⟩
  | true =>
    rw [hr] at HR
    have HV2 := Lib.hid (fun l => HV.out _ l hr)
    clear hr HV
    by_cases h1 : 0 ≤ born ∧ born ≤ now
    · obtain ⟨h1a, h1b⟩ := h1
      by_cases h2 : died = -1
      · have hl : decide (lifeP born died now) = true := decide_eq_true ⟨h1a, h1b, Or.inl h2⟩
        rw [HV2.out _ hl]
        have e2 : (died == -1) = true := by simp [h2]
        clear hl h2
        go_enter Try.func80, Try.ntmps80
        go_wp2_with fail
        generalize w.alloc (.cells #[.int .i64 id, .slice va xs.length vc, .int .i64 born, .int .i64 died] 115) = W at *
        refine (HR.out W (ints_below H.out d0.out)).mono ?_
        rintro e w1 ⟨rfl, b1⟩
        have k0 := (b1.block w.heap.size Y0.out).trans B0.out
        have b2 := d0.out.trans (b1.mono d0.out.size)
        have p0 := (cell_of_row w1 _ 0 _ _ _ k0).trans (show _ = some (Value.int .i64 id) from rfl)
        have p1 := (cell_of_row w1 _ 1 _ _ _ k0).trans (show _ = some (Value.slice va xs.length vc) from rfl)
        have p2 := (cell_of_row w1 _ 2 _ _ _ k0).trans (show _ = some (Value.int .i64 born) from rfl)
        have p3 := (cell_of_row w1 _ 3 _ _ _ k0).trans (show _ = some (Value.int .i64 died) from rfl)
        clear k0
        go_wp2_with fail
        refine (in_yes born 0 now _ h1a h1b).mono ?_
        rintro e wx ⟨rfl, rfl⟩
        go_wp2
        go_ret
        exact ⟨rfl, b2⟩
      · have e2 : (died == -1) = false := by simp [h2]
        by_cases h3 : born + 1 ≤ died ∧ died ≤ now
        · have hl : decide (lifeP born died now) = true := decide_eq_true ⟨h1a, h1b, Or.inr ⟨by omega, h3.2⟩⟩
          rw [HV2.out _ hl]
          have H3 := Lib.hid h3
          clear hl h2 h3
          go_enter Try.func80, Try.ntmps80
          go_wp2_with fail
          generalize w.alloc (.cells #[.int .i64 id, .slice va xs.length vc, .int .i64 born, .int .i64 died] 115) = W at *
          refine (HR.out W (ints_below H.out d0.out)).mono ?_
          rintro e w1 ⟨rfl, b1⟩
          have k0 := (b1.block w.heap.size Y0.out).trans B0.out
          have b2 := d0.out.trans (b1.mono d0.out.size)
          have p0 := (cell_of_row w1 _ 0 _ _ _ k0).trans (show _ = some (Value.int .i64 id) from rfl)
          have p1 := (cell_of_row w1 _ 1 _ _ _ k0).trans (show _ = some (Value.slice va xs.length vc) from rfl)
          have p2 := (cell_of_row w1 _ 2 _ _ _ k0).trans (show _ = some (Value.int .i64 born) from rfl)
          have p3 := (cell_of_row w1 _ 3 _ _ _ k0).trans (show _ = some (Value.int .i64 died) from rfl)
          clear k0
          go_wp2_with fail
          refine (in_yes born 0 now _ h1a h1b).mono ?_
          rintro e wx ⟨rfl, rfl⟩
          go_wp2_with fail
          refine (in_yes died (born + 1) now _ H3.out.1 H3.out.2).mono ?_
          rintro e wx ⟨rfl, rfl⟩
          go_wp2
          go_ret
          exact ⟨rfl, b2⟩
        · have hl : decide (lifeP born died now) = false := decide_eq_false (fun g => by unfold lifeP at g; omega)
          rw [HV2.out _ hl]
          have H3 := Lib.hid h3
          clear hl h2 h3
          go_enter Try.func80, Try.ntmps80
          go_wp2_with fail
          generalize w.alloc (.cells #[.int .i64 id, .slice va xs.length vc, .int .i64 born, .int .i64 died] 115) = W at *
          refine (HR.out W (ints_below H.out d0.out)).mono ?_
          rintro e w1 ⟨rfl, b1⟩
          have k0 := (b1.block w.heap.size Y0.out).trans B0.out
          have b2 := d0.out.trans (b1.mono d0.out.size)
          have p0 := (cell_of_row w1 _ 0 _ _ _ k0).trans (show _ = some (Value.int .i64 id) from rfl)
          have p1 := (cell_of_row w1 _ 1 _ _ _ k0).trans (show _ = some (Value.slice va xs.length vc) from rfl)
          have p2 := (cell_of_row w1 _ 2 _ _ _ k0).trans (show _ = some (Value.int .i64 born) from rfl)
          have p3 := (cell_of_row w1 _ 3 _ _ _ k0).trans (show _ = some (Value.int .i64 died) from rfl)
          clear k0
          go_wp2_with fail
          refine (in_yes born 0 now _ h1a h1b).mono ?_
          rintro e wx ⟨rfl, rfl⟩
          go_wp2_with fail
          refine (in_no died (born + 1) now _ H3.out).mono ?_
          rintro e wx ⟨rfl, rfl⟩
          go_wp2
          go_ret
          exact ⟨rfl, b2⟩
    · have hl : decide (lifeP born died now) = false := decide_eq_false (fun g => h1 ⟨g.1, g.2.1⟩)
      rw [HV2.out _ hl]
      have H1 := Lib.hid h1
      clear hl h1
      go_enter Try.func80, Try.ntmps80
      go_wp2_with fail
      generalize w.alloc (.cells #[.int .i64 id, .slice va xs.length vc, .int .i64 born, .int .i64 died] 115) = W at *
      refine (HR.out W (ints_below H.out d0.out)).mono ?_
      rintro e w1 ⟨rfl, b1⟩
      have k0 := (b1.block w.heap.size Y0.out).trans B0.out
      have b2 := d0.out.trans (b1.mono d0.out.size)
      have p0 := (cell_of_row w1 _ 0 _ _ _ k0).trans (show _ = some (Value.int .i64 id) from rfl)
      have p1 := (cell_of_row w1 _ 1 _ _ _ k0).trans (show _ = some (Value.slice va xs.length vc) from rfl)
      have p2 := (cell_of_row w1 _ 2 _ _ _ k0).trans (show _ = some (Value.int .i64 born) from rfl)
      have p3 := (cell_of_row w1 _ 3 _ _ _ k0).trans (show _ = some (Value.int .i64 died) from rfl)
      clear k0
      go_wp2_with fail
      refine (in_no born 0 now _ H1.out).mono ?_
      rintro e wx ⟨rfl, rfl⟩
      go_wp2
      go_ret
      exact ⟨rfl, b2⟩
set_option maxHeartbeats 8000000 in
set_option maxRecDepth 100000 in
theorem specApart (i1 b1 d1 i2 b2 d2 : Int) (v1 v2 : Value) (w : World) :
    Calls Try.prog 81 #[.agg #[.int .i64 i1, v1, .int .i64 b1, .int .i64 d1], .agg #[.int .i64 i2, v2, .int .i64 b2, .int .i64 d2]] w fun e w' => e = .returned (.bool (decide (apartP i1 b1 d1 i2 b2 d2))) ∧ Below w.heap.size w w' := by
  have hb : Below w.heap.size w ((w.alloc (.cells #[.int .i64 i1, v1, .int .i64 b1, .int .i64 d1] 115)).alloc (.cells #[.int .i64 i2, v2, .int .i64 b2, .int .i64 d2] 115)) := ((Below.refl _ w).alloc (Nat.le_refl _) _).alloc (by simp) _
  by_cases q1 : i1 = i2
  · have e1 : (i1 != i2) = false := by simp [q1]
    have Q1 := Lib.hid q1
    clear q1
    by_cases q2 : d1 = -1
    · have e2 : (d1 != -1) = false := by simp [q2]
      have Q2 := Lib.hid q2
      clear q2
      by_cases q4 : d2 = -1
      · have e4 : (d2 != -1) = false := by simp [q4]
        have HD : Hid (decide (apartP i1 b1 d1 i2 b2 d2) = false) := Lib.hid (by have h1 := Q1.out; have h2 := Q2.out; exact decide_eq_false (fun g => by unfold apartP at g; omega))
        rw [HD.out]
        clear q4
        go_enter Try.func81, Try.ntmps81
        go_wp2
        go_ret
        exact ⟨ret_b (by first | rfl | simp [*]), hb⟩
      · have e4 : (d2 != -1) = true := by simp [q4]
        by_cases q5 : d2 ≤ b1
        · have q6 : d2 ≤ b1 := q5
          have HD : Hid (decide (apartP i1 b1 d1 i2 b2 d2) = true) := Lib.hid (decide_eq_true (Or.inr (Or.inr ⟨q4, q5⟩)))
          rw [HD.out]
          clear q4
          go_enter Try.func81, Try.ntmps81
          go_wp2
          go_ret
          exact ⟨ret_b (by first | rfl | simp [*]), hb⟩
        · have e5 : decide (d2 ≤ b1) = false := decide_eq_false q5
          have HD : Hid (decide (apartP i1 b1 d1 i2 b2 d2) = false) := Lib.hid (by have h1 := Q1.out; have h2 := Q2.out; exact decide_eq_false (fun g => by unfold apartP at g; omega))
          rw [HD.out]
          clear q4
          go_enter Try.func81, Try.ntmps81
          go_wp2
          go_ret
          exact ⟨ret_b (by first | rfl | simp [*]), hb⟩
    · have e2 : (d1 != -1) = true := by simp [q2]
      have Q2 := Lib.hid q2
      clear q2
      by_cases q3 : d1 ≤ b2
      · have q6 : d1 ≤ b2 := q3
        have HD : Hid (decide (apartP i1 b1 d1 i2 b2 d2) = true) := Lib.hid (decide_eq_true (Or.inr (Or.inl ⟨Q2.out, q3⟩)))
        rw [HD.out]
        go_enter Try.func81, Try.ntmps81
        go_wp2
        go_ret
        exact ⟨ret_b (by first | rfl | simp [*]), hb⟩
      · have e3 : decide (d1 ≤ b2) = false := decide_eq_false q3
        have Q3 := Lib.hid q3
        by_cases q4 : d2 = -1
        · have e4 : (d2 != -1) = false := by simp [q4]
          have HD : Hid (decide (apartP i1 b1 d1 i2 b2 d2) = false) := Lib.hid (by have h1 := Q1.out; have h2 := Q2.out; have h3 := Q3.out; exact decide_eq_false (fun g => by unfold apartP at g; omega))
          rw [HD.out]
          clear q4
          go_enter Try.func81, Try.ntmps81
          go_wp2
          go_ret
          exact ⟨ret_b (by first | rfl | simp [*]), hb⟩
        · have e4 : (d2 != -1) = true := by simp [q4]
          by_cases q5 : d2 ≤ b1
          · have q6 : d2 ≤ b1 := q5
            have HD : Hid (decide (apartP i1 b1 d1 i2 b2 d2) = true) := Lib.hid (decide_eq_true (Or.inr (Or.inr ⟨q4, q5⟩)))
            rw [HD.out]
            clear q4
            go_enter Try.func81, Try.ntmps81
            go_wp2
            go_ret
            exact ⟨ret_b (by first | rfl | simp [*]), hb⟩
          · have e5 : decide (d2 ≤ b1) = false := decide_eq_false q5
            have HD : Hid (decide (apartP i1 b1 d1 i2 b2 d2) = false) := Lib.hid (by have h1 := Q1.out; have h2 := Q2.out; have h3 := Q3.out; exact decide_eq_false (fun g => by unfold apartP at g; omega))
            rw [HD.out]
            clear q4
            go_enter Try.func81, Try.ntmps81
            go_wp2
            go_ret
            exact ⟨ret_b (by first | rfl | simp [*]), hb⟩
  · have e1 : (i1 != i2) = true := by simp [q1]
    have HD : Hid (decide (apartP i1 b1 d1 i2 b2 d2) = true) := Lib.hid (decide_eq_true (Or.inl q1))
    rw [HD.out]
    clear q1
    go_enter Try.func81, Try.ntmps81
    go_wp2
    go_ret
    exact ⟨ret_b (by first | rfl | simp [*]), hb⟩
/-- The answer: a slice of the call's own whose cells read as these versions. -/
def AllV (w : World) (l : List VerD) (e : Ending) (w' : World) : Prop := ∃ (v : Value) (L : List (List Value)), e = .returned v ∧ SlO 115 (tRaw 4) w' (since w) v L ∧ Sh tVersion w L l ∧ Below w.heap.size w w'
set_option maxHeartbeats 8000000 in
set_option maxRecDepth 100000 in
theorem specL7All (sv : Value) (ss : List (List VerD)) (now : Int) (w : World) (h : SlR tVersionS w sv ss) (hs : zL tVersionS ss ≤ 1048576) :
    Calls Try.prog 79 #[.agg #[sv, .int .i64 now]] w (AllV w ss.flatten) := by
  have H := Lib.hid h
  have HS := Lib.hid hs
  have hlen := zL_len hs
  have HF : Hid (ss.flatten.length ≤ 1048576) := Lib.hid (by have h1 := zL_all ss; have h2 := zL_len (T := tVersion) (xs := ss.flatten) (M := 1048576) (by omega); omega)
  obtain ⟨a, cap, rfl⟩ := slR_len h
  clear h hs
  have d0 := Lib.hid (show Below w.heap.size w ((w.alloc (.cells #[.slice a ss.length cap, .int .i64 now] 30)).alloc (.cells #[] 115)) from ((Below.refl _ _).alloc (Nat.le_refl _) _).alloc (by simp) _)
  have B0 : Hid (((w.alloc (.cells #[.slice a ss.length cap, .int .i64 now] 30)).alloc (.cells #[] 115)).heap[w.heap.size]? = some (.cells #[.slice a ss.length cap, .int .i64 now] 30 (0, 0))) := Lib.hid (by rw [Below.heap_alloc _ _ _ (by simp)]; exact heap_alloc_new w _)
  have Y0 : Hid (w.heap.size < ((w.alloc (.cells #[.slice a ss.length cap, .int .i64 now] 30)).alloc (.cells #[] 115)).heap.size) := Lib.hid (by simp [World.size_alloc]; omega)
  have P0 : Hid (SlO 115 (tRaw 4) ((w.alloc (.cells #[.slice a ss.length cap, .int .i64 now] 30)).alloc (.cells #[] 115)) (fun b => w.heap.size < b) (.slice (some ⟨w.heap.size + 1, 0, none⟩) 0 0) []) := Lib.hid (by have := slO_empty (T := tRaw 4) (w.alloc (.cells #[.slice a ss.length cap, .int .i64 now] 30)) 115 (fun b => w.heap.size < b) (by simp [World.size_alloc]); simpa only [World.size_alloc] using this)
  go_enter Try.func79, Try.ntmps79
  go_wp2
  go_loopw [3, 4] (fun o i wr => ∃ (k : Nat) (L : List (List Value)), k ≤ ss.length ∧ i = .int .i64 k ∧ SlO 115 (tRaw 4) wr (fun b => w.heap.size < b) o L ∧ Hid (Sh tVersion w L (cat ss k)) ∧ wr.heap[w.heap.size]? = some (.cells #[.slice a ss.length cap, .int .i64 now] 30 (0, 0)) ∧ Below w.heap.size w wr ∧ w.heap.size < wr.heap.size) (fun _ i _ => ss.length - (intOf i).toNat)
  case atStart => exact ⟨0, [], Nat.zero_le _, rfl, P0.out, Lib.hid (by rw [cat_zero]; exact sh_nil w), B0.out, d0.out, Y0.out⟩
  case round =>
    obtain ⟨k, L, hk, rfl, hown, hsh, hbox, hbel, hy⟩ := hrel
    clear d0 B0 Y0 P0
    obtain ⟨oa, oc, rfl⟩ := slO_len hown
    have c0 := (cell_of_row wr _ 0 _ _ _ hbox).trans (show _ = some (Value.slice a ss.length cap) from rfl)
    by_cases hlt : k < ss.length
    · obtain ⟨b, off, cap2, cs, hv, hbl, hcs, hR⟩ := slR_at H.out hlt
      simp only [Value.slice.injEq] at hv
      obtain ⟨rfl, _, rfl⟩ := hv
      obtain ⟨u, rfl, hU⟩ := hR
      have p0 : w.cell? ⟨b, off + k, none⟩ = some u := by have := hcs 0 Nat.one_pos; rw [show tVersionS.n = 1 from rfl, Nat.mul_one, Nat.add_zero] at this; exact this
      have hel := (hbel.cell (p := ⟨b, off + k, none⟩) hbl).trans p0
      obtain ⟨M, hM, hSh⟩ := slR_raw tVersion_law one_Version hU
      have HM := Lib.hid (slR_below (tRaw_law (by decide)) hM hbel)
      have HC : Hid (Sh tVersion w (L ++ M) (cat ss (k + 1))) := Lib.hid (by rw [← cat_step hlt]; exact sh_app hsh.out hSh)
      have HL : Hid (L.length + M.length ≤ 2097152) := Lib.hid (by have h1 := sh_len HC.out; have h2 := cat_le ss (k + 1); have h3 := HF.out; rw [List.length_append] at h1; omega)
      have i1 : (0 : Int) ≤ (k : Int) := by omega
      have i2 : (k : Int) < (ss.length : Int) := by omega
      obtain ⟨ua, uc, hu⟩ := slR_len hU
      have HOWN := Lib.hid hown
      have HB := Lib.hid hbox
      have HY := Lib.hid hy
      have HD := Lib.hid hbel
      have HUV : Hid (∃ m, u = .slice ua m uc) := Lib.hid ⟨_, hu⟩
      clear hcs p0 hU hM hSh hsh hown hbox hu hbel hy
      obtain ⟨m, rfl⟩ := HUV.out
      clear HUV
      go_wp2_with (at_builtin; refine append_flat (tRaw_law (by decide)) (flat_raw 4) info_R_Version Try.underlying61 rfl rfl (.tmp 13) (.tmp 18) rfl (fun b => w.heap.size < b) (fun b => w.heap.size < b) _ _ L M rfl rfl HOWN.out HM.out (fun b h => h) HY.out HL.out ?_)
      intro v' w4 ho4 t4
      have hb4 := (t4.block w.heap.size HY.out (fun h => Nat.lt_irrefl _ h)).trans HB.out
      have hy4 := Nat.lt_of_lt_of_le HY.out t4.size
      have hd4 := below_turn HD.out t4 (fun b h => Nat.le_of_lt h) (Nat.le_of_lt HY.out)
      clear HOWN HM HL HB HY HD t4 c0 hel
      go_wp2
      go_roundw
      case rel => exact ⟨k + 1, _, by omega, by go_num, ho4, HC, hb4, hd4, hy4⟩
      case measure => simp [intOf]; omega
    · obtain rfl : k = ss.length := by omega
      have HC : Hid (Sh tVersion w L ss.flatten) := Lib.hid (by rw [← cat_all]; exact hsh.out)
      clear hsh
      go_wp2
      go_ret
      exact ⟨_, L, rfl, slO_mono hown (fun b h => Nat.le_of_lt h), HC.out, hbel⟩
end Go.Proofs.Ytdhglmoanpkeoaa
namespace Go.Proofs.Ytdhglmoanpkeoaa
open Go.RowKit
set_option linter.unusedVariables false
set_option linter.unusedSimpArgs false
end Go.Proofs.Ytdhglmoanpkeoaa
namespace Go.Proofs.Ytdhglmoanpkeoaa
open Go.RowKit
set_option linter.unusedVariables false
theorem info_T_int : ElemInfo tInt 3 (.int .i64 0) := elemInfo_of (by kernel_rfl)
end Go.Proofs.Ytdhglmoanpkeoaa
namespace Go.Proofs.Ytdhglmoanpkeoaa
open Go.RowKit
set_option linter.unusedVariables false
set_option linter.unusedSimpArgs false
theorem info_T_Row : ElemInfo tRow 73 (.agg #[.int .i64 0, .slice none 0 0]) := elemInfo_of (by kernel_rfl)
set_option maxHeartbeats 8000000 in
set_option maxRecDepth 100000 in
theorem specL7Rows (v : Value) (l : List VerD) (t : Int) (w : World) (h : SlR tVersion w v l) (hs : zL tVersion l ≤ 1048576) :
    Calls Try.prog 30 #[v, .int .i64 t] w (FreshS 73 tRow w (rowsV l t)) := by
  have H := Lib.hid h
  have hlen := zL_len hs
  have HS := Lib.hid hs
  obtain ⟨a, cap, rfl⟩ := slR_len h
  clear h hs
  go_enter Try.func30, Try.ntmps30
  go_wp2
  go_loopw [5, 6] (fun u i wr => ∃ k : Nat, k ≤ l.length ∧ i = .int .i64 k ∧ SlO 73 tRow wr (since w) u (rowsV (l.take k) t) ∧ Below w.heap.size w wr) (fun _ i _ => l.length - (intOf i).toNat)
  case atStart => exact ⟨0, Nat.zero_le _, rfl, slO_empty w 73 (since w) (Nat.le_refl _), (Below.refl _ _).alloc (Nat.le_refl _) _⟩
  case round =>
    obtain ⟨k, hk, rfl, hown, hbel⟩ := hrel
    by_cases hlt : k < l.length
    · have i1 : (0 : Int) ≤ (k : Int) := by omega
      have i2 : (k : Int) < (l.length : Int) := by omega
      obtain ⟨b, off, cap', xa, xc, hv, hbl, c0, c1, c2, c3, hx⟩ := verR_at H.out hlt
      simp only [Value.slice.injEq] at hv
      obtain ⟨rfl, _, rfl⟩ := hv
      have HTY := Lib.hid (fun g => rowsV_yes (t := t) hlt g)
      have HTN := Lib.hid (fun g => rowsV_no (t := t) hlt g)
      have HKL : Hid ((rowsV (l.take k) t).length ≤ 1048576) := Lib.hid (Nat.le_trans (rowsV_take l t k) hlen)
      have HXL := Lib.hid (ver_len HS.out hlt)
      generalize l.getD k v0D = x at *
      obtain ⟨id, xs, born, died⟩ := x
      have HX := Lib.hid (ints_slR hx)
      clear hx
      simp only at c0 c1 c2 c3
      generalize rowsV (l.take k) t = ys at *
      obtain ⟨oa, oc, rfl⟩ := slO_len hown
      have PF := Lib.hid (slO_lt tRow_law hown)
      have d := Lib.hid hbel
      have C0 := Lib.hid c0
      have C1 := Lib.hid c1
      have C2 := Lib.hid c2
      have C3 := Lib.hid c3
      have HBL := Lib.hid hbl
      have e0 := (hbel.cell (p := ⟨b, off + k * 4, none⟩) hbl).trans c0
      have e1 := (hbel.cell (p := ⟨b, off + k * 4 + 1, none⟩) hbl).trans c1
      have e2 := (hbel.cell (p := ⟨b, off + k * 4 + 2, none⟩) hbl).trans c2
      have e3 := (hbel.cell (p := ⟨b, off + k * 4 + 3, none⟩) hbl).trans c3
      clear hown hbel c0 c1 c2 c3 hbl
      go_wp2_with fail
      clear e0 e1 e2 e3
      have HV := Lib.hid (specVisible id born died t (.slice xa xs.length xc) wr)
      cases hvis : decide (visP born died t) with
      | false =>
        have HT2 := Lib.hid (HTN.out hvis)
        rw [hvis] at HV
        clear hvis HTY HTN
        refine HV.out.mono ?_
        rintro e w2 ⟨rfl, b2⟩
        have PF2 := Lib.hid (slO_fresh tRow_law PF.out b2)
        have d2 := Lib.hid (d.out.trans (b2.mono d.out.size))
        clear PF d b2
        go_wp2
        go_roundw
        case rel => exact ⟨k + 1, by omega, by go_num, by rw [HT2.out]; exact slO_mono PF2.out (fun b h => h.1), d2.out⟩
        case measure => simp [intOf]; omega
      | true =>
        have HT2 := Lib.hid (HTY.out hvis)
        rw [hvis] at HV
        clear hvis HTY HTN
        refine HV.out.mono ?_
        rintro e w2 ⟨rfl, b2⟩
        have QF := Lib.hid (fun b (h : since w b ∧ b < wr.heap.size) => (show w.heap.size ≤ b ∧ b < wr.heap.size from h))
        have Z0 := Lib.hid (show wr.heap.size ≤ w2.heap.size from b2.size)
        have Z1 := Lib.hid (show w.heap.size ≤ wr.heap.size from d.out.size)
        replace PF := Lib.hid (slO_fresh tRow_law PF.out b2)
        replace d := Lib.hid (d.out.trans (b2.mono d.out.size))
        clear b2 HV
        go_wp2
        have p_C0 := (d.out.cell (p := ⟨b, off + k * 4, none⟩) HBL.out).trans C0.out
        have p_C1 := (d.out.cell (p := ⟨b, off + k * 4 + 1, none⟩) HBL.out).trans C1.out
        refine wp_region_held_drew (S := fun w' => w'.cell? ⟨b, off + k * 4, none⟩ = some (Value.int .i64 id) ∧ w'.cell? ⟨b, off + k * 4 + 1, none⟩ = some (Value.slice xa xs.length xc)) (by kernel_rfl) ⟨p_C0, p_C1⟩ (fun hHeld => ?_)
        clear p_C0 p_C1
        have cdr : Below w2.heap.size w2 w2.drew := below_drew (Below.refl _ _)
        replace PF := Lib.hid (slO_fresh tRow_law PF.out cdr)
        replace d := Lib.hid (d.out.trans (cdr.mono d.out.size))
        clear cdr
        refine take_runs (i := 0) (v := ?_) (by simp only [List.getElem?_toArray, List.getElem?_cons_succ, List.getElem?_cons_zero]; rfl) (by kernel_rfl) (by kernel_rfl) (by kernel_rfl) rfl (by exact fun _ _ _ h => h) (by rfl) ?_ (by assumption) ?_
        rotate_left
        · intro w hSw; (try dsimp only at hSw); go_simp; try (with_reducible rfl)
        try simp only [Act.put, List.setIfInBounds_toArray, List.set_cons_zero, List.set_cons_succ]
        refine take_runs (i := 1) (v := ?_) (by simp only [List.getElem?_toArray, List.getElem?_cons_succ, List.getElem?_cons_zero]; rfl) (by kernel_rfl) (by kernel_rfl) (by kernel_rfl) rfl (by exact fun _ _ _ h => h) (by rfl) ?_ (by assumption) ?_
        rotate_left
        · intro w hSw; (try dsimp only at hSw); go_simp; try (with_reducible rfl)
        try simp only [Act.put, List.setIfInBounds_toArray, List.set_cons_zero, List.set_cons_succ]
        refine take_runs (i := 2) (v := ?_) (by simp only [List.getElem?_toArray, List.getElem?_cons_succ, List.getElem?_cons_zero]; rfl) (by kernel_rfl) (by kernel_rfl) (by kernel_rfl) rfl (by exact fun _ _ _ h => h) (by rfl) ?_ (by assumption) ?_
        rotate_left
        · intro w hSw; (try dsimp only at hSw); go_simp; try (with_reducible rfl)
        try simp only [Act.put, List.setIfInBounds_toArray, List.set_cons_zero, List.set_cons_succ]
        refine take_runs (i := 3) (v := ?_) (by simp only [List.getElem?_toArray, List.getElem?_cons_succ, List.getElem?_cons_zero]; rfl) (by kernel_rfl) (by kernel_rfl) (by kernel_rfl) rfl (by exact fun _ _ _ h => h) (by rfl) ?_ (by assumption) ?_
        rotate_left
        · intro w hSw; (try dsimp only at hSw); go_simp; try (with_reducible rfl)
        try simp only [Act.put, List.setIfInBounds_toArray, List.set_cons_zero, List.set_cons_succ]
        refine take_runs (i := 4) (v := ?_) (by simp only [List.getElem?_toArray, List.getElem?_cons_succ, List.getElem?_cons_zero]; rfl) (by kernel_rfl) (by kernel_rfl) (by kernel_rfl) rfl (by exact fun _ _ _ h => h) (by rfl) ?_ (by assumption) ?_
        rotate_left
        · intro w hSw; (try dsimp only at hSw); go_simp; try (with_reducible rfl)
        try simp only [Act.put, List.setIfInBounds_toArray, List.set_cons_zero, List.set_cons_succ]
        refine take_runs (i := 5) (v := ?_) (by simp only [List.getElem?_toArray, List.getElem?_cons_succ, List.getElem?_cons_zero]; rfl) (by kernel_rfl) (by kernel_rfl) (by kernel_rfl) rfl (by exact fun _ _ _ h => h) (by rfl) ?_ (by assumption) ?_
        rotate_left
        · intro w hSw; (try dsimp only at hSw); go_simp; try (with_reducible rfl)
        try simp only [Act.put, List.setIfInBounds_toArray, List.set_cons_zero, List.set_cons_succ]
        refine take_runs (i := 7) (v := ?_) (by simp only [List.getElem?_toArray, List.getElem?_cons_succ, List.getElem?_cons_zero]; rfl) (by kernel_rfl) (by kernel_rfl) (by kernel_rfl) rfl (by exact fun _ _ _ h => h) (by rfl) ?_ (by assumption) ?_
        rotate_left
        · intro w hSw; (try dsimp only at hSw); go_simp; try (with_reducible rfl)
        try simp only [Act.put, List.setIfInBounds_toArray, List.set_cons_zero, List.set_cons_succ]
        refine take_runs (i := 8) (v := ?_) (by simp only [List.getElem?_toArray, List.getElem?_cons_succ, List.getElem?_cons_zero]; rfl) (by kernel_rfl) (by kernel_rfl) (by kernel_rfl) rfl (by exact fun _ _ _ h => h) (by rfl) ?_ (by assumption) ?_
        rotate_left
        · intro w hSw; (try dsimp only at hSw); go_simp; try (with_reducible rfl)
        try simp only [Act.put, List.setIfInBounds_toArray, List.set_cons_zero, List.set_cons_succ]
        refine take_runs (i := 9) (v := ?_) (by simp only [List.getElem?_toArray, List.getElem?_cons_succ, List.getElem?_cons_zero]; rfl) (by kernel_rfl) (by kernel_rfl) (by kernel_rfl) rfl (by exact fun _ _ _ h => h) (by rfl) ?_ (by assumption) ?_
        rotate_left
        · intro w hSw; (try dsimp only at hSw); go_simp; try (with_reducible rfl)
        try simp only [Act.put, List.setIfInBounds_toArray, List.set_cons_zero, List.set_cons_succ]
        refine take_runs (i := 10) (v := ?_) (by simp only [List.getElem?_toArray, List.getElem?_cons_succ, List.getElem?_cons_zero]; rfl) (by kernel_rfl) (by kernel_rfl) (by kernel_rfl) rfl (by exact fun _ _ _ h => h) (by rfl) ?_ (by assumption) ?_
        rotate_left
        · intro w hSw; (try dsimp only at hSw); go_simp; try (with_reducible rfl)
        try simp only [Act.put, List.setIfInBounds_toArray, List.set_cons_zero, List.set_cons_succ]
        refine take_runs (i := 11) (v := ?_) (by simp only [List.getElem?_toArray, List.getElem?_cons_succ, List.getElem?_cons_zero]; rfl) (by kernel_rfl) (by kernel_rfl) (by kernel_rfl) rfl (by exact fun _ _ _ h => h) (by rfl) ?_ (by assumption) ?_
        rotate_left
        · intro w hSw; (try dsimp only at hSw); go_simp; try (with_reducible rfl)
        try simp only [Act.put, List.setIfInBounds_toArray, List.set_cons_zero, List.set_cons_succ]
        refine wpAnyH_ready (rs := [6]) (by kernel_rfl) (by simp) ?_
        refine (AllReadyH.cons (o := _) (by simp only [List.getElem?_toArray, List.getElem?_cons_succ, List.getElem?_cons_zero]; rfl) (fun K hK => ?_) AllReadyH.nil)
        go_simp
        have hal : Below w2.heap.size (w2.drew) (w2.alloc (.cells #[] 3)).drew := ⟨rfl, rfl, rfl, by show w2.heap.size ≤ (w2.alloc (.cells #[] 3)).heap.size; simp [World.size_alloc], fun k hk => Below.heap_alloc w2 _ k hk⟩
        have Y_i := Lib.hid (show w2.heap.size < (w2.alloc (.cells #[] 3)).drew.heap.size by show w2.heap.size < (w2.alloc (.cells #[] 3)).heap.size; simp [World.size_alloc])
        replace PF := Lib.hid (slO_fresh tRow_law PF.out hal)
        replace d := Lib.hid (d.out.trans (hal.mono d.out.size))
        have PI := Lib.hid (slO_fresh tInt_law (slO_empty (T := tInt) w2 3 (fun b => b = w2.heap.size) rfl) (below_drew (Below.refl _ _)))
        have QI := Lib.hid (fun b (h : b = w2.heap.size) => h)
        clear hal
        generalize (w2.alloc (.cells #[] 3)).drew = V1 at *
        have p_C0 := (d.out.cell (p := ⟨b, off + k * 4, none⟩) HBL.out).trans C0.out
        have p_C1 := (d.out.cell (p := ⟨b, off + k * 4 + 1, none⟩) HBL.out).trans C1.out
        refine hK.out _ _ ⟨p_C0, p_C1⟩ (fun hHeld => ?_)
        clear p_C0 p_C1
        clear hK K
        try simp only [Act.put, List.setIfInBounds_toArray, List.set_cons_zero, List.set_cons_succ]
        refine wpAnyH_ready (rs := [12]) (by kernel_rfl) (by simp) ?_
        refine (AllReadyH.cons (o := _) (by simp only [List.getElem?_toArray, List.getElem?_cons_succ, List.getElem?_cons_zero]; rfl) (fun K hK => ?_) AllReadyH.nil)
        refine step_append_flat tInt_law flat_int info_T_int Try.underlying37 rfl rfl (.tmp 26) (.tmp 31) rfl (fun b => b = w2.heap.size) (fun b => (fun b => b = w2.heap.size) b ∨ b = V1.heap.size) _ _ [] xs rfl rfl PI.out (slR_below tInt_law HX.out d.out) (fun b h => Or.inl h) (Or.inr rfl) (by have := HXL.out; simp; omega) ?_
        intro u V2 oB tB
        rw [List.nil_append] at oB
        obtain ⟨ua, uc, rfl⟩ := slO_len oB
        have y0 := Z0.out
        have y1 := Z1.out
        have y2 := Y_i.out
        have yd : w.heap.size ≤ V1.heap.size := d.out.size
        replace PF := Lib.hid (slO_turn tRow_law PF.out tB (fun b h1 h2 => by have r1 := QF.out b h1; have r2 := QI.out _ h2; omega))
        replace d := Lib.hid (below_turn d.out tB (fun b h => by have r2 := QI.out _ h; omega) (by omega))
        have Z_V2 := Lib.hid (show V1.heap.size ≤ V2.heap.size from tB.size)
        clear yd y0 y1 y2
        replace PI := Lib.hid (slO_lt tInt_law oB)
        replace QI := Lib.hid (fun b (h : ((fun b => b = w2.heap.size) b ∨ b = V1.heap.size) ∧ b < V2.heap.size) => (show (b = w2.heap.size ∨ b = V1.heap.size) ∧ b < V2.heap.size from h))
        clear oB tB
        have p_C0 := (d.out.cell (p := ⟨b, off + k * 4, none⟩) HBL.out).trans C0.out
        have p_C1 := (d.out.cell (p := ⟨b, off + k * 4 + 1, none⟩) HBL.out).trans C1.out
        refine hK.out _ _ ⟨p_C0, p_C1⟩ (fun hHeld => ?_)
        clear p_C0 p_C1
        clear hK K
        try simp only [Act.put, List.setIfInBounds_toArray, List.set_cons_zero, List.set_cons_succ]
        refine take_runs (i := 13) (v := ?_) (by simp only [List.getElem?_toArray, List.getElem?_cons_succ, List.getElem?_cons_zero]; rfl) (by kernel_rfl) (by kernel_rfl) (by kernel_rfl) rfl (by exact fun _ _ _ h => h) (by rfl) ?_ (by assumption) ?_
        rotate_left
        · intro w hSw; (try dsimp only at hSw); go_simp; try (with_reducible rfl)
        try simp only [Act.put, List.setIfInBounds_toArray, List.set_cons_zero, List.set_cons_succ]
        refine wpAnyH_ready (rs := [14]) (by kernel_rfl) (by simp) ?_
        refine (AllReadyH.cons (o := _) (by simp only [List.getElem?_toArray, List.getElem?_cons_succ, List.getElem?_cons_zero]; rfl) (fun K hK => ?_) AllReadyH.nil)
        go_simp
        have hal : Below V2.heap.size V2 (V2.alloc (.cells #[.int .i64 id, .slice ua xs.length uc] 73)) := (Below.refl _ _).alloc (Nat.le_refl _) _
        have KPF := PF
        have KPI := PI
        have Kd := d
        replace PF := Lib.hid (slO_fresh tRow_law PF.out hal)
        replace PI := Lib.hid (slO_fresh tInt_law PI.out hal)
        replace d := Lib.hid (d.out.trans (hal.mono d.out.size))
        clear hal
        have p_C0 := (d.out.cell (p := ⟨b, off + k * 4, none⟩) HBL.out).trans C0.out
        have p_C1 := (d.out.cell (p := ⟨b, off + k * 4 + 1, none⟩) HBL.out).trans C1.out
        refine hK.out _ _ ⟨p_C0, p_C1⟩ (fun hHeld => ?_)
        clear p_C0 p_C1
        clear hK K
        try simp only [Act.put, List.setIfInBounds_toArray, List.set_cons_zero, List.set_cons_succ]
        refine wpAnyH_ready (rs := [15]) (by kernel_rfl) (by simp) ?_
        refine (AllReadyH.cons (o := _) (by simp only [List.getElem?_toArray, List.getElem?_cons_succ, List.getElem?_cons_zero]; rfl) (fun K hK => ?_) AllReadyH.nil)
        have y0 := Z0.out
        have y1 := Z1.out
        have y2 := Y_i.out
        have y3 := Z_V2.out
        have yd : w.heap.size ≤ V2.heap.size := Kd.out.size
        have hD : wr.heap.size ≤ V2.heap.size := by omega
        have hnew : tRow.O V2 (fun b => wr.heap.size ≤ b) [.int .i64 id, .slice ua xs.length uc] (id, xs) := tRow_mkO KPI.out (fun b h => by have r1 := QI.out b h; show wr.heap.size ≤ b; omega)
        refine step_append_T tRow_law info_T_Row Try.underlying26 rfl rfl (.tmp 20) (.tmp 34) rfl (since w) (wr.heap.size) _ (ys) rfl KPF.out hD (fun b hb => by show w.heap.size ≤ b; omega) (by have := HKL.out; omega) [.int .i64 id, .slice ua xs.length uc] (id, xs) hnew (by simp [Value.oneCell']) 1 _ rfl rfl ?_
        intro v' V3 oN tN
        replace d := Lib.hid (below_turn Kd.out tN (fun b h => by exact h.1) yd)
        have zN := Lib.hid (show V2.heap.size ≤ V3.heap.size from tN.size)
        have HR3 := HT2
        have PFN := Lib.hid oN
        clear hnew hD oN tN yd PI KPI KPF Kd PF y0 y1 y2 y3
        have p_C0 := (d.out.cell (p := ⟨b, off + k * 4, none⟩) HBL.out).trans C0.out
        have p_C1 := (d.out.cell (p := ⟨b, off + k * 4 + 1, none⟩) HBL.out).trans C1.out
        refine hK.out _ _ ⟨p_C0, p_C1⟩ (fun hHeld => ?_)
        clear p_C0 p_C1
        clear hK K
        try simp only [Act.put, List.setIfInBounds_toArray, List.set_cons_zero, List.set_cons_succ]
        refine take_runs (i := 16) (v := ?_) (by simp only [List.getElem?_toArray, List.getElem?_cons_succ, List.getElem?_cons_zero]; rfl) (by kernel_rfl) (by kernel_rfl) (by kernel_rfl) rfl (by exact fun _ _ _ h => h) (by rfl) ?_ (by assumption) ?_
        rotate_left
        · intro w hSw; (try dsimp only at hSw); go_simp; try (with_reducible rfl)
        try simp only [Act.put, List.setIfInBounds_toArray, List.set_cons_zero, List.set_cons_succ]
        refine wpAnyH_done (by kernel_rfl) ?_ _
        clear hHeld
        go_wp2
        go_roundw
        case rel => exact ⟨k + 1, by omega, by go_num, by rw [HT2.out]; exact PFN.out, d.out⟩
        case measure => simp [intOf]; omega
    · obtain rfl : k = l.length := by omega
      rw [List.take_length] at hown
      go_wp2
      go_ret
      exact ⟨_, rfl, hown, hbel⟩
end Go.Proofs.Ytdhglmoanpkeoaa
