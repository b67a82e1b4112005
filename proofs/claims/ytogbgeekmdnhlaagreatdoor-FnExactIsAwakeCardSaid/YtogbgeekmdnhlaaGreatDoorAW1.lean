/-
 Texts of the proof, merged: Ints, LawInts, RowVal, Ty, TyInt, TVersion, TVersionS, TVersionSS, TStore, TyIntE, TCond, TCondS, TQuery.
-/
import Derived.Test.YtogbgeekmdnhlaaGreatDoorRows
import Derived.WalkKit
import Derived.Below
import Derived.Lib.Hide
import Derived.OwnWalk
import Derived.BigQuiet
import Derived.Deep.QuietTactic
import Derived.WalkSpells
import Derived.Deep.RegionHeld3
import Derived.IntWalk
import Derived.Laws.OwnMore
import Derived.Laws.MakeOwn
namespace Go.Proofs.YtogbgeekmdnhlaaGreatDoor
open Go.RowKit
set_option maxRecDepth 100000
set_option linter.unusedVariables false
set_option linter.unusedSimpArgs false
theorem Tryz.infoI64 : (Tryz.prog.info? 3).map (fun i => (i.zero, i.size, i.bytes)) = some (some (.int .i64 0), 1, 8) := by kernel_rfl
/-- The slice v reads as the numbers xs. -/
def Ints (w : World) (v : Value) (xs : List Int) : Prop :=
 (xs = [] ∧ ∃ a cap, v = .slice a 0 cap) ∨ ∃ b off cap, v = .slice (some ⟨b, off, none⟩) xs.length cap ∧ xs.length ≤ cap ∧ b < w.heap.size ∧ ∀ j, j < xs.length → w.cell? ⟨b, off + j, none⟩ = some (.int .i64 (xs.getD j 0))
/-- The slice v owns the numbers xs, in a block from B on. -/
def OwnsN (w : World) (B : Nat) (v : Value) (xs : List Int) : Prop := w.ownsRow B 3 1 v xs.length (xs.map (Value.int .i64))
theorem below_same {B : Nat} {a w w' : World} (h : Below B a w) (h1 : w'.heap = w.heap) (h2 : w'.os = w.os) (h3 : w'.tape = w.tape) (h4 : w'.output = w.output) : Below B a w' :=
 ⟨h2.trans h.os, h3.trans h.tape, h4.trans h.output, by rw [h1]; exact h.size, fun k hk => by rw [h1]; exact h.block k hk⟩
theorem ints_len {w : World} {v : Value} {xs : List Int} (h : Ints w v xs) : ∃ a cap, v = .slice a xs.length cap := by
 rcases h with ⟨rfl, a, cap, rfl⟩ | ⟨b, off, cap, rfl, _⟩
 ·
  exact ⟨a, cap, rfl⟩
 ·
  exact ⟨_, cap, rfl⟩
theorem ints_below {W w : World} {v : Value} {xs : List Int} (h : Ints W v xs) (hb : Below W.heap.size W w) : Ints w v xs := by
 rcases h with h | ⟨b, off, cap, h1, h2, h3, h4⟩
 ·
  exact Or.inl h
 ·
  exact Or.inr ⟨b, off, cap, h1, h2, Nat.lt_of_lt_of_le h3 hb.size, fun j hj => (hb.cell (p := ⟨b, off + j, none⟩) h3).trans (h4 j hj)⟩
/-- What 'make([]int, n)' owns. -/
theorem ownsN_made {w : World} {B g n : Nat} (h : w.ownsRow B 3 1 (.slice (some ⟨g, 0, none⟩) n n) n (madeCells #[Value.int .i64 0] n).toList) : OwnsN w B (.slice (some ⟨g, 0, none⟩) n n) (List.replicate n 0) := by
 have e : (madeCells #[Value.int .i64 0] n).toList = List.replicate n (.int .i64 0) := toList_madeCells_one (.int .i64 0) n
 rw [e] at h
 unfold OwnsN
 simpa using h
theorem ownsN_len {w : World} {B : Nat} {a : Option Addr} {n cap : Nat} {xs : List Int} (h : OwnsN w B (.slice a n cap) xs) : n = xs.length := by
 rcases h.2 with ⟨h', h0⟩ | ⟨_, _, _, h', _⟩
 ·
  simp only [Value.slice.injEq] at h'; omega
 ·
  simp only [Value.slice.injEq] at h'; exact h'.2.1
theorem ownsN_cell {w : World} {B g n cap j : Nat} {xs : List Int} {x : Int} (h : OwnsN w B (.slice (some ⟨g, 0, none⟩) n cap) xs) (hx : xs[j]? = some x) : w.cell? ⟨g, j, none⟩ = some (.int .i64 x) := by
 have := World.ownsRow.cells h (g := g) rfl j (.int .i64 x) (by simp [hx])
 have e : (⟨g, 0, none⟩ : Addr).add j = ⟨g, j, none⟩ := by unfold Addr.add; split <;> simp_all
 rwa [e] at this
theorem ownsN_frozen {w : World} {B g n cap : Nat} {xs : List Int} (h : OwnsN w B (.slice (some ⟨g, 0, none⟩) n cap) xs) (j : Nat) : w.frozen? ⟨g, j, none⟩ = false := by
 obtain rfl := ownsN_len h
 exact World.ownsRow.frozenAt h j
theorem ownsN_store {w : World} {B g n cap : Nat} {xs : List Int} (h : OwnsN w B (.slice (some ⟨g, 0, none⟩) n cap) xs) (j : Nat) (x : Int) : OwnsN (w.setCell ⟨g, j, none⟩ (.int .i64 x)) B (.slice (some ⟨g, 0, none⟩) n cap) (xs.set j x) := by
 obtain rfl := ownsN_len h
 have := (World.ownsRow.stored h j (.int .i64 x)).1
 unfold OwnsN
 rw [List.length_set, List.map_set]
 exact this
/-- The form of what is owned: nil, or the head of a block. -/
theorem ownsN_form {w : World} {B : Nat} {v : Value} {xs : List Int} (h : OwnsN w B v xs) : (v = .slice none 0 0 ∧ xs = []) ∨ ∃ g cap, v = .slice (some ⟨g, 0, none⟩) xs.length cap ∧ B ≤ g ∧ g < w.heap.size := by
 rcases h.2 with ⟨rfl, h0⟩ | ⟨g, cap, cur, rfl, hb, hg, _⟩
 ·
  exact .inl ⟨rfl, List.eq_nil_of_length_eq_zero h0⟩
 ·
  exact .inr ⟨g, cap, rfl, hb, (Array.getElem?_eq_some_iff.1 hg).1⟩
/-- A slice in new memory that holds the numbers xs. -/
def Fresh (w : World) (xs : List Int) (e : Ending) (w' : World) : Prop := ∃ v', e = .returned v' ∧ OwnsN w' w.heap.size v' xs ∧ Below w.heap.size w w'
theorem ints_cell {w : World} {v : Value} {xs : List Int} (h : Ints w v xs) (hp : 0 < xs.length) : ∃ b off cap, v = .slice (some ⟨b, off, none⟩) xs.length cap ∧ b < w.heap.size ∧ ∀ j, j < xs.length → w.cell? ⟨b, off + j, none⟩ = some (.int .i64 (xs.getD j 0)) := by
 rcases h with ⟨rfl, _⟩ | ⟨b, off, cap, h1, h2, h3, h4⟩
 ·
  simp at hp
 ·
  exact ⟨b, off, cap, h1, h3, h4⟩
theorem copy_step (xs : List Int) (k : Nat) (h : k < xs.length) : (xs.take k ++ List.replicate (xs.length - k) 0).set k (xs.getD k 0) = xs.take (k + 1) ++ List.replicate (xs.length - (k + 1)) 0 := by
 have hk : (xs.take k).length = k := by rw [List.length_take]; omega
 rw [List.set_append_right _ _ (by omega), hk, Nat.sub_self, show xs.length - k = (xs.length - (k + 1)) + 1 by omega, List.replicate_succ, List.set_cons_zero, List.take_succ_eq_append_getElem h, List.append_assoc]
 simp [List.getD, h]
theorem copy_at (xs : List Int) (k : Nat) (h : k < xs.length) : (xs.take k ++ List.replicate (xs.length - k) 0)[k]? = some 0 := by
 have hk : (xs.take k).length = k := by rw [List.length_take]; omega
 rw [List.getElem?_append_right (by omega), hk, Nat.sub_self, List.getElem?_replicate, if_pos (by omega)]
theorem toIntS_any (v : Value) (xs : List Int) (w : World) (h : Ints w v xs) (hn : xs.length ≤ 1048576) :
  Calls Tryz.prog 57 #[v] w (Fresh w xs) := by
 obtain ⟨i0, hi, hz0, hz1, hz2⟩ := info_parts Tryz.infoI64
 have HI := Lib.hid hi; have HZ0 := Lib.hid hz0; have HZ1 := Lib.hid hz1; have HZ2 := Lib.hid hz2
 clear hi hz0 hz1 hz2
 have H := Lib.hid h
 obtain ⟨a, cap, rfl⟩ := ints_len h
 clear h
 go_enter Tryz.func57, Tryz.ntmps57
 go_wp2_with (at_make; refine wpList_make_full _ rfl (.tmp 6) (.tmp 6) 25 rfl w.heap.size 3 i0 (.int .i64 0) 1 Tryz.underlying25 HI.out HZ0.out HZ1.out _ _ _ _ xs.length rfl rfl rfl rfl (by rw [HZ2.out]; omega) (by unfold maxLen; omega) (Nat.le_refl _) ?_)
 intro w1 hown0 hg0
 have hown1 := ownsN_made hown0
 have hbel1 := (Below.refl w.heap.size w).grown hg0 (Nat.le_refl _) (fun k hk => by cases hk)
 clear hown0 hg0
 go_wp2
 go_loopw [4] (fun i wr => ∃ k : Nat, k ≤ xs.length ∧ i = .int .i64 k ∧ OwnsN wr w.heap.size (.slice (some ⟨w.heap.size, 0, none⟩) xs.length xs.length) (xs.take k ++ List.replicate (xs.length - k) 0) ∧ Below w.heap.size w wr) (fun i _ => xs.length - (intOf i).toNat)
 case atStart => exact ⟨0, Nat.zero_le _, rfl, by simpa using hown1, hbel1⟩
 case round =>
  obtain ⟨k, hk, rfl, hown, hbel⟩ := hrel
  by_cases hlt : k < xs.length
  ·
   obtain ⟨b, off, cap', hv, hbl, hc⟩ := ints_cell H.out (by omega)
   simp only [Value.slice.injEq] at hv
   obtain ⟨rfl, _, rfl⟩ := hv
   have hcell := (hbel.cell (p := ⟨b, off + k, none⟩) hbl).trans (hc k hlt)
   have hset := copy_step xs k hlt
   have i1 : (0 : Int) ≤ (k : Int) := by omega
   have i2 : (k : Int) < (xs.length : Int) := by omega
   have c1 := ownsN_cell hown (copy_at xs k hlt)
   have f1 := ownsN_frozen hown k
   have hst := ownsN_store hown k (xs.getD k 0)
   rw [hset] at hst
   have hb2 := hbel.setCell (p := ⟨w.heap.size, k, none⟩) (Nat.le_refl _) (.int .i64 (xs.getD k 0))
   have HST := Lib.hid hst
   clear hst hset hc hown hbel hown1 hbel1
   generalize xs.getD k 0 = y at *
   go_wp2
   go_roundw
   case rel => exact ⟨k + 1, by omega, by go_num, HST.out, hb2⟩
   case measure => simp [intOf]; omega
  ·
   obtain rfl : k = xs.length := by omega
   rw [List.take_of_length_le (Nat.le_refl _), Nat.sub_self, List.replicate_zero, List.append_nil] at hown
   go_wp2
   go_ret
   exact ⟨_, rfl, hown, hbel⟩
theorem eqIntS_same (v u : Value) (xs : List Int) (w : World) (h : Ints w v xs) (g : Ints w u xs) (hn : xs.length ≤ 1048576) :
  Calls Tryz.prog 19 #[v, u] w fun e w' => e = .returned (.bool true) ∧ Below w.heap.size w w' := by
 have H := Lib.hid h
 have G := Lib.hid g
 obtain ⟨a, cap, rfl⟩ := ints_len h
 obtain ⟨a2, cap2, rfl⟩ := ints_len g
 clear h g
 go_enter Tryz.func19, Tryz.ntmps19
 go_wp2
 go_loopw [5] (fun i wr => ∃ k : Nat, k ≤ xs.length ∧ i = .int .i64 k ∧ Below w.heap.size w wr) (fun i _ => xs.length - (intOf i).toNat)
 case atStart => exact ⟨0, Nat.zero_le _, rfl, Below.refl _ _⟩
 case round =>
  obtain ⟨k, hk, rfl, hbel⟩ := hrel
  by_cases hlt : k < xs.length
  ·
   obtain ⟨b, off, cap', hv, hbl, hc⟩ := ints_cell H.out (by omega)
   obtain ⟨b2, off2, cap2', hv2, hbl2, hc2⟩ := ints_cell G.out (by omega)
   simp only [Value.slice.injEq] at hv hv2
   obtain ⟨rfl, _, rfl⟩ := hv
   obtain ⟨rfl, _, rfl⟩ := hv2
   have hcell := (hbel.cell (p := ⟨b, off + k, none⟩) hbl).trans (hc k hlt)
   have hcell2 := (hbel.cell (p := ⟨b2, off2 + k, none⟩) hbl2).trans (hc2 k hlt)
   have i1 : (0 : Int) ≤ (k : Int) := by omega
   have i2 : (k : Int) < (xs.length : Int) := by omega
   clear hc hc2
   generalize xs.getD k 0 = y at *
   go_wp2
   go_quiet (fail)
   go_wp2
   go_roundw
   case rel => exact ⟨k + 1, by omega, by go_num, below_same hbel rfl rfl rfl rfl⟩
   case measure => simp [intOf]; omega
  ·
   obtain rfl : k = xs.length := by omega
   go_wp2
   go_ret
   exact ⟨rfl, hbel⟩
/-- The numbers k, k + 1, ... -/
def marks (k : Int) (n : Nat) : List Int := (List.range n).map fun i : Nat => k + (i : Int)
theorem marks_length (k : Int) (n : Nat) : (marks k n).length = n := by simp [marks]
theorem marks_at (k : Int) (n j : Nat) (h : j < n) : (marks k n).getD j 0 = k + (j : Int) := by simp [marks, List.getD, h]
/-- The first j numbers marked. -/
def markedTo (xs : List Int) (k : Int) (j : Nat) : List Int := marks k j ++ xs.drop j
theorem markedTo_step (xs : List Int) (k : Int) (j : Nat) (h : j < xs.length) : (markedTo xs k j).set j (k + (j : Int)) = markedTo xs k (j + 1) := by
 unfold markedTo
 rw [List.set_append_right _ _ (by rw [marks_length]; exact Nat.le_refl _), marks_length, Nat.sub_self, List.drop_eq_getElem_cons h, List.set_cons_zero]
 simp [marks, List.range_succ]
theorem markedTo_at (xs : List Int) (k : Int) (j : Nat) (h : j < xs.length) : (markedTo xs k j)[j]? = some xs[j] := by
 unfold markedTo
 rw [List.getElem?_append_right (by rw [marks_length]; exact Nat.le_refl _), marks_length, Nat.sub_self, List.drop_eq_getElem_cons h]
 rfl
theorem markedTo_all (xs : List Int) (k : Int) : markedTo xs k xs.length = marks k xs.length := by unfold markedTo; simp
/-- What marking leaves. -/
def Marked (w : World) (B : Nat) (v : Value) (n : Nat) (k : Int) (e : Ending) (w' : World) : Prop := e = .returned (.int .i64 (k + (n : Int))) ∧ OwnsN w' B v (marks k n) ∧ w.grownBy w' v.ownBlock
theorem grownBy_store (w : World) (g j : Nat) (u : Value) : w.grownBy (w.setCell ⟨g, j, none⟩ u) (some g) :=
 ⟨rfl, rfl, rfl, by simp [World.setCell], fun k _ hk => heap_setCell_other w ⟨g, j, none⟩ k u (fun e => hk (by simp [e]))⟩
theorem grown_more {a b c : World} {r : Option Nat} (h : a.grownBy b r) (k : b.grownBy c r) : a.grownBy c r :=
 ⟨k.os.trans h.os, k.tape.trans h.tape, k.output.trans h.output, Nat.le_trans h.size k.size, fun i hi hne => (k.block i (Nat.lt_of_lt_of_le hi h.size) hne).trans (h.block i hi hne)⟩
theorem markIntS_any (v : Value) (xs : List Int) (B : Nat) (k : Int) (w : World) (h : OwnsN w B v xs) (hn : xs.length ≤ 1048576) (k0 : 0 ≤ k) (k1 : k ≤ 1073741824) :
  Calls Tryz.prog 21 #[v, .int .i64 k] w (Marked w B v xs.length k) := by
 have H := Lib.hid h
 rcases ownsN_form h with ⟨rfl, rfl⟩ | ⟨g, cap, rfl, hBg, hgl⟩
 ·
  clear h
  go_enter Tryz.func21, Tryz.ntmps21
  go_wp2
  go_loop [1, 5] (fun m i => i = .int .i64 0 ∧ m = .int .i64 k) (fun _ _ => 0)
  case atStart => exact ⟨rfl, rfl⟩
  case round =>
   obtain ⟨rfl, rfl⟩ := hrel
   go_wp2
   go_ret
   exact ⟨by simp, by rw [show marks k 0 = [] from rfl]; exact H.out, World.grownBy.refl _ _⟩
 ·
  clear h
  go_enter Tryz.func21, Tryz.ntmps21
  go_wp2
  go_loopw [1, 5] (fun m i wr => ∃ j : Nat, j ≤ xs.length ∧ i = .int .i64 j ∧ m = .int .i64 (k + (j : Int)) ∧ OwnsN wr B (.slice (some ⟨g, 0, none⟩) xs.length cap) (markedTo xs k j) ∧ w.grownBy wr (some g)) (fun _ i _ => xs.length - (intOf i).toNat)
  case atStart => exact ⟨0, Nat.zero_le _, rfl, by simp, by rw [show markedTo xs k 0 = xs by simp [markedTo, marks]]; exact H.out, World.grownBy.refl _ _⟩
  case round =>
   obtain ⟨j, hj, rfl, rfl, hown, hgr⟩ := hrel
   by_cases hlt : j < xs.length
   ·
    have i1 : (0 : Int) ≤ (j : Int) := by omega
    have i2 : (j : Int) < (xs.length : Int) := by omega
    have c1 := ownsN_cell hown (markedTo_at xs k j hlt)
    have f1 := ownsN_frozen hown j
    have hst := ownsN_store hown j (k + (j : Int))
    rw [markedTo_step xs k j hlt] at hst
    have hg2 := grown_more hgr (grownBy_store wr g j (.int .i64 (k + (j : Int))))
    have HST := Lib.hid hst
    clear hst hown hgr
    go_wp2
    go_roundw
    case rel => exact ⟨j + 1, by omega, by go_num, by simp; omega, HST.out, hg2⟩
    case measure => simp [intOf]; omega
   ·
    obtain rfl : j = xs.length := by omega
    rw [markedTo_all] at hown
    go_wp2
    go_ret
    exact ⟨rfl, hown, hgr⟩
theorem heldIntS_any (v : Value) (n : Nat) (k : Int) (w : World) (h : Ints w v (marks k n)) (hn : n ≤ 1048576) (k0 : 0 ≤ k) (k1 : k ≤ 1073741824) :
  Calls Tryz.prog 22 #[v, .int .i64 k] w fun e w' => e = .returned (.int .i64 (k + (n : Int))) ∧ w = w' := by
 have H := Lib.hid h
 obtain ⟨a, cap, rfl⟩ := ints_len h
 clear h
 have hl := Lib.hid (marks_length k n)
 rw [hl.out]
 go_enter Tryz.func22, Tryz.ntmps22
 go_wp2
 go_loop [1, 5] (fun m i => ∃ j : Nat, j ≤ n ∧ i = .int .i64 j ∧ m = .int .i64 (k + (j : Int))) (fun _ i => n - (intOf i).toNat)
 case atStart => exact ⟨0, Nat.zero_le _, rfl, by simp⟩
 case round =>
  obtain ⟨j, hj, rfl, rfl⟩ := hrel
  by_cases hlt : j < n
  ·
   obtain ⟨b, off, cap', hv, hbl, hc⟩ := ints_cell H.out (by rw [hl.out]; omega)
   rw [hl.out] at hv hc
   simp only [Value.slice.injEq] at hv
   obtain ⟨rfl, _, rfl⟩ := hv
   have hcell := hc j hlt
   rw [marks_at k n j hlt] at hcell
   have i1 : (0 : Int) ≤ (j : Int) := by omega
   have i2 : (j : Int) < (n : Int) := by omega
   clear hc
   go_wp2
   go_round
   case rel => exact ⟨j + 1, by omega, by go_num, by simp; omega⟩
   case measure => simp [intOf]; omega
  ·
   obtain rfl : j = n := by omega
   go_wp2
   go_ret
   exact ⟨rfl, rfl⟩
/-- A row: its number and its values. -/
abbrev RowD := Int × List Int
theorem szInt_yes (a : Option Addr) (cap n : Nat) (k : Int) (w : World) (h : (n : Int) ≤ k) (hk : k ≤ 1048576) :
  Calls Tryz.prog 50 #[.slice a n cap, .int .i64 k] w fun e w' => e = .returned (.int .i64 (k - (n : Int))) ∧ w' = w := by
 have h0 : ¬ k - (n : Int) < 0 := by omega
 go_enter Tryz.func50, Tryz.ntmps50
 go_wp2
 go_ret
 exact ⟨rfl, rfl⟩
theorem szInt_no (a : Option Addr) (cap n : Nat) (k : Int) (w : World) (h : k < (n : Int)) (hk : 0 ≤ k) (hn : (n : Int) ≤ 9223372036854775807) :
  Calls Tryz.prog 50 #[.slice a n cap, .int .i64 k] w fun e w' => e = .returned (.int .i64 (-1)) ∧ w' = w := by
 have h0 : k - (n : Int) < 0 := by omega
 go_enter Tryz.func50, Tryz.ntmps50
 go_wp2
 go_ret
 exact ⟨rfl, rfl⟩
/-- Only blocks in G, of those that were there, have turned. -/
structure Turn (G : Nat → Prop) (w w' : World) : Prop where
 os : w'.os = w.os
 tape : w'.tape = w.tape
 output : w'.output = w.output
 size : w.heap.size ≤ w'.heap.size
 block : ∀ k, k < w.heap.size → ¬ G k → w'.heap[k]? = w.heap[k]?
theorem Turn.refl (G : Nat → Prop) (w : World) : Turn G w w := ⟨rfl, rfl, rfl, Nat.le_refl _, fun _ _ _ => rfl⟩
theorem Turn.trans {G : Nat → Prop} {a b c : World} (h : Turn G a b) (k : Turn G b c) : Turn G a c :=
 ⟨k.os.trans h.os, k.tape.trans h.tape, k.output.trans h.output, Nat.le_trans h.size k.size, fun i hi hn => (k.block i (Nat.lt_of_lt_of_le hi h.size) hn).trans (h.block i hi hn)⟩
theorem Turn.mono {G G' : Nat → Prop} {a b : World} (h : Turn G a b) (hg : ∀ k, G k → G' k) : Turn G' a b :=
 ⟨h.os, h.tape, h.output, h.size, fun i hi hn => h.block i hi (fun g => hn (hg i g))⟩
theorem turn_grown {G : Nat → Prop} {w w' : World} {row : Option Nat} (h : w.grownBy w' row) (hr : ∀ b, row = some b → G b) : Turn G w w' :=
 ⟨h.os, h.tape, h.output, h.size, fun k hk hn => h.block k hk (fun e => hn (hr k e.symm))⟩
theorem turn_below {G : Nat → Prop} {w w' : World} (h : Below w.heap.size w w') : Turn G w w' := ⟨h.os, h.tape, h.output, h.size, fun k hk _ => h.block k hk⟩
theorem turn_set {G : Nat → Prop} {w : World} {g j : Nat} {u : Value} (h : G g) : Turn G w (w.setCell ⟨g, j, none⟩ u) :=
 ⟨rfl, rfl, rfl, by simp [World.setCell], fun k hk hn => Below.heap_setCell w _ u k (fun e => hn (by rw [e]; exact h))⟩
theorem below_turn {B : Nat} {G : Nat → Prop} {a w w' : World} (h : Below B a w) (k : Turn G w w') (hG : ∀ b, G b → B ≤ b) (hs : B ≤ w.heap.size) : Below B a w' :=
 h.trans ⟨k.os, k.tape, k.output, k.size, fun i hi => k.block i (by omega) (fun g => by have := hG i g; omega)⟩
theorem row_turn {w w' : World} {G : Nat → Prop} {B : Nat} {e : TypeId} {size : Nat} {u : Value} {n : Nat} {xs : List Value} (h : w.ownsRow B e size u n xs) (k : Turn G w w') (hd : ∀ b, u.ownBlock = some b → ¬ G b) : w'.ownsRow B e size u n xs := by
 refine ⟨h.1, ?_⟩
 rcases h.2 with hn | ⟨g, cap, cur, rfl, hb', hg, rest⟩
 ·
  exact .inl hn
 ·
  refine .inr ⟨g, cap, cur, rfl, hb', ?_, rest⟩
  rw [k.block g (Array.getElem?_eq_some_iff.1 hg).1 (hd g rfl)]
  exact hg
theorem row_low {w : World} {B C : Nat} {e : TypeId} {size : Nat} {v : Value} {n : Nat} {xs : List Value} (h : w.ownsRow C e size v n xs) (hb : B ≤ C) : w.ownsRow B e size v n xs := by
 refine ⟨h.1, ?_⟩
 rcases h.2 with hn | ⟨g, cap, cur, e, hb', rest⟩
 ·
  exact .inl hn
 ·
  exact .inr ⟨g, cap, cur, e, Nat.le_trans hb hb', rest⟩
theorem row_form {w : World} {B : Nat} {e : TypeId} {size : Nat} {v : Value} {n : Nat} {xs : List Value} (h : w.ownsRow B e size v n xs) : (v = .slice none 0 0 ∧ n = 0) ∨ ∃ g cap, v = .slice (some ⟨g, 0, none⟩) n cap ∧ g < w.heap.size := by
 rcases h.2 with h' | ⟨g, cap, cur, rfl, hb, hg, _⟩
 ·
  exact .inl h'
 ·
  exact .inr ⟨g, cap, rfl, (Array.getElem?_eq_some_iff.1 hg).1⟩
/-- A kind of data: how many cells; what is read; what is owned, in blocks of the set; size; marks (nd, md: in memory, numbers too; nv, mv: by value); lengths that a slice can have; how many numbers lie in the cells. -/
structure Ty (α : Type) where
 n : Nat
 d : α
 R : World → List Value → α → Prop
 O : World → (Nat → Prop) → List Value → α → Prop
 sz : α → Nat
 nd : α → Nat
 nv : α → Nat
 md : α → Int → α
 mv : α → Int → α
 ok : α → Prop
 s : Nat
structure Ty.Law {α : Type} (T : Ty α) : Prop where
 pos : 0 < T.n
 len : ∀ {w cs x}, T.R w cs x → cs.length = T.n
 below : ∀ {W w cs x}, T.R W cs x → Below W.heap.size W w → T.R w cs x
 reads : ∀ {w F cs x}, T.O w F cs x → T.R w cs x
 turn : ∀ {w w' F G cs x}, T.O w F cs x → Turn G w w' → (∀ b, F b → ¬ G b) → T.O w' F cs x
 mono : ∀ {w F F' cs x}, T.O w F cs x → (∀ b, F b → F' b) → T.O w F' cs x
 lt : ∀ {w F cs x}, T.O w F cs x → T.O w (fun b => F b ∧ b < w.heap.size) cs x
 nd_le : ∀ x, T.nd x ≤ 16 * T.sz x + T.s
 nv_le : ∀ x, T.nv x ≤ 16 * T.sz x
/- Numbers. -/
def tInt : Ty Int := { n := 1, d := 0, R := fun _ cs x => cs = [.int .i64 x], O := fun _ _ cs x => cs = [.int .i64 x], sz := fun _ => 0, nd := fun _ => 1, nv := fun _ => 0, md := fun _ k => k, mv := fun x _ => x, ok := fun _ => True, s := 1 }
theorem tInt_law : tInt.Law := ⟨by decide, fun h => by cases h; rfl, fun h _ => h, fun h => h, fun h _ _ => h, fun h _ => h, fun h => h, fun x => Nat.le_refl _, fun x => Nat.le_refl _⟩
/- Pairs. -/
def tPair {α β : Type} (a : Ty α) (b : Ty β) : Ty (α × β) where
 n := a.n + b.n
 d := (a.d, b.d)
 R := fun w cs p => ∃ c1 c2, cs = c1 ++ c2 ∧ a.R w c1 p.1 ∧ b.R w c2 p.2
 O := fun w F cs p => ∃ c1 c2 F1 F2, cs = c1 ++ c2 ∧ a.O w F1 c1 p.1 ∧ b.O w F2 c2 p.2 ∧ (∀ k, F1 k → F k) ∧ (∀ k, F2 k → F k) ∧ ∀ k, F1 k → ¬ F2 k
 sz := fun p => a.sz p.1 + b.sz p.2
 nd := fun p => a.nd p.1 + b.nd p.2
 nv := fun p => a.nv p.1 + b.nv p.2
 md := fun p k => (a.md p.1 k, b.md p.2 (k + (a.nd p.1 : Int)))
 mv := fun p k => (a.mv p.1 k, b.mv p.2 (k + (a.nv p.1 : Int)))
 ok := fun p => a.ok p.1 ∧ b.ok p.2
 s := a.s + b.s
theorem tPair_law {α β : Type} {a : Ty α} {b : Ty β} (A : a.Law) (B : b.Law) : (tPair a b).Law where
 pos := by have := A.pos; show 0 < a.n + b.n; omega
 len := fun {w cs x} h => by
  obtain ⟨c1, c2, rfl, h1, h2⟩ := h
  rw [List.length_append, A.len h1, B.len h2]; rfl
 below := fun {W w cs x} h hb => by
  obtain ⟨c1, c2, e, h1, h2⟩ := h
  exact ⟨c1, c2, e, A.below h1 hb, B.below h2 hb⟩
 reads := fun {w F cs x} h => by
  obtain ⟨c1, c2, F1, F2, e, h1, h2, _⟩ := h
  exact ⟨c1, c2, e, A.reads h1, B.reads h2⟩
 turn := fun {w w' F G cs x} h k hd => by
  obtain ⟨c1, c2, F1, F2, e, h1, h2, h3, h4, h5⟩ := h
  exact ⟨c1, c2, F1, F2, e, A.turn h1 k (fun b g => hd b (h3 b g)), B.turn h2 k (fun b g => hd b (h4 b g)), h3, h4, h5⟩
 mono := fun {w F F' cs x} h hf => by
  obtain ⟨c1, c2, F1, F2, e, h1, h2, h3, h4, h5⟩ := h
  exact ⟨c1, c2, F1, F2, e, h1, h2, fun k g => hf k (h3 k g), fun k g => hf k (h4 k g), h5⟩
 lt := fun {w F cs x} h => by
  obtain ⟨c1, c2, F1, F2, e, h1, h2, h3, h4, h5⟩ := h
  exact ⟨c1, c2, _, _, e, A.lt h1, B.lt h2, fun k g => ⟨h3 k g.1, g.2⟩, fun k g => ⟨h4 k g.1, g.2⟩, fun k g g' => h5 k g.1 g'.1⟩
 nd_le := fun x => by
  have h1 := A.nd_le x.1; have h2 := B.nd_le x.2
  show a.nd x.1 + b.nd x.2 ≤ 16 * (a.sz x.1 + b.sz x.2) + (a.s + b.s); omega
 nv_le := fun x => by
  have h1 := A.nv_le x.1; have h2 := B.nv_le x.2
  show a.nv x.1 + b.nv x.2 ≤ 16 * (a.sz x.1 + b.sz x.2); omega
theorem tPair_md {α β : Type} (a : Ty α) (b : Ty β) (p : α × β) (k : Int) : (tPair a b).md p k = (a.md p.1 k, b.md p.2 (k + (a.nd p.1 : Int))) := rfl
theorem tPair_mv {α β : Type} (a : Ty α) (b : Ty β) (p : α × β) (k : Int) : (tPair a b).mv p k = (a.mv p.1 k, b.mv p.2 (k + (a.nv p.1 : Int))) := rfl
theorem tPair_sz {α β : Type} (a : Ty α) (b : Ty β) (p : α × β) : (tPair a b).sz p = a.sz p.1 + b.sz p.2 := rfl
theorem tPair_nd {α β : Type} (a : Ty α) (b : Ty β) (p : α × β) : (tPair a b).nd p = a.nd p.1 + b.nd p.2 := rfl
theorem tPair_nv {α β : Type} (a : Ty α) (b : Ty β) (p : α × β) : (tPair a b).nv p = a.nv p.1 + b.nv p.2 := rfl
theorem tInt_md (x k : Int) : tInt.md x k = k := rfl
theorem tInt_mv (x k : Int) : tInt.mv x k = x := rfl
theorem tInt_sz (x : Int) : tInt.sz x = 0 := rfl
theorem tInt_nd (x : Int) : tInt.nd x = 1 := rfl
theorem tInt_nv (x : Int) : tInt.nv x = 0 := rfl
/- Slices. -/
section
variable {α : Type}
def SlR (T : Ty α) (w : World) (v : Value) (xs : List α) : Prop :=
 (xs = [] ∧ ∃ a cap, v = .slice a 0 cap) ∨ ∃ (b off cap : Nat) (us : Nat → List Value), v = .slice (some ⟨b, off, none⟩) xs.length cap ∧ xs.length ≤ cap ∧ b < w.heap.size ∧
  ∀ j, j < xs.length → (∀ i, i < T.n → w.cell? ⟨b, off + j * T.n + i, none⟩ = (us j)[i]?) ∧ T.R w (us j) (xs.getD j T.d)
def SlO (e : TypeId) (T : Ty α) (w : World) (F : Nat → Prop) (v : Value) (xs : List α) : Prop :=
 ∃ (L : List Value) (us : Nat → List Value) (Fs : Nat → Nat → Prop), w.ownsRow 0 e T.n v xs.length L ∧ (∀ b, v.ownBlock = some b → F b) ∧
  (∀ j, j < xs.length → (∀ i, i < T.n → L[j * T.n + i]? = (us j)[i]?) ∧ T.O w (Fs j) (us j) (xs.getD j T.d) ∧ ∀ b, Fs j b → F b ∧ v.ownBlock ≠ some b) ∧
  ∀ i j, i < xs.length → j < xs.length → i ≠ j → ∀ b, Fs i b → ¬ Fs j b
def sumN (f : α → Nat) (xs : List α) (k : Nat) : Nat := ((xs.take k).map f).sum
theorem sumN_zero (f : α → Nat) (xs : List α) : sumN f xs 0 = 0 := by simp [sumN]
theorem sumN_step (f : α → Nat) {xs : List α} {k : Nat} (d : α) (hk : k < xs.length) : sumN f xs (k + 1) = sumN f xs k + f (xs.getD k d) := by
 unfold sumN
 have e : xs.getD k d = xs[k] := by simp [List.getD, hk]
 rw [e, List.take_succ_eq_append_getElem hk, List.map_append, List.sum_append]
 simp
theorem sumN_le (f : α → Nat) {xs : List α} {k : Nat} (hk : k ≤ xs.length) : sumN f xs k ≤ sumN f xs xs.length := by
 unfold sumN
 have e : xs.take xs.length = xs.take k ++ xs.drop k := by rw [List.take_length, List.take_append_drop]
 rw [e, List.map_append, List.sum_append]
 omega
theorem sum_map_le {f g : α → Nat} {c s : Nat} (h : ∀ x, f x ≤ c * g x + s) : ∀ xs : List α, (xs.map f).sum ≤ c * (xs.map g).sum + s * xs.length
 | [] => by simp
 | x :: xs => by
  have h1 := h x
  have h2 := sum_map_le h xs
  simp only [List.map_cons, List.sum_cons, List.length_cons, Nat.mul_add, Nat.mul_one]
  omega
/-- The mark with which element j begins. -/
def kAt (T : Ty α) (xs : List α) (k : Int) (j : Nat) : Int := k + (sumN T.nd xs j : Int)
def mAt (T : Ty α) (xs : List α) (k : Int) (j : Nat) : α := T.md (xs.getD j T.d) (kAt T xs k j)
def mTo (T : Ty α) (xs : List α) (k : Int) (j : Nat) : List α := (List.range j).map (mAt T xs k) ++ xs.drop j
def mAll (T : Ty α) (xs : List α) (k : Int) : List α := (List.range xs.length).map (mAt T xs k)
def zTo (T : Ty α) (xs : List α) (k : Nat) : Nat := xs.length + sumN T.sz xs k
def zL (T : Ty α) (xs : List α) : Nat := zTo T xs xs.length
def ndL (T : Ty α) (xs : List α) : Nat := sumN T.nd xs xs.length
def tSl (e : TypeId) (T : Ty α) : Ty (List α) where
 n := 1
 d := []
 R := fun w cs xs => ∃ v, cs = [v] ∧ SlR T w v xs
 O := fun w F cs xs => ∃ v, cs = [v] ∧ SlO e T w F v xs
 sz := zL T
 nd := ndL T
 nv := ndL T
 md := mAll T
 mv := mAll T
 ok := fun xs => (xs.length : Int) ≤ 9223372036854775807 ∧ ∀ j, j < xs.length → T.ok (xs.getD j T.d)
 s := 0
theorem tSl_md (e : TypeId) (T : Ty α) (xs : List α) (k : Int) : (tSl e T).md xs k = mAll T xs k := rfl
theorem tSl_mv (e : TypeId) (T : Ty α) (xs : List α) (k : Int) : (tSl e T).mv xs k = mAll T xs k := rfl
theorem tSl_sz (e : TypeId) (T : Ty α) (xs : List α) : (tSl e T).sz xs = zL T xs := rfl
theorem tSl_nd (e : TypeId) (T : Ty α) (xs : List α) : (tSl e T).nd xs = ndL T xs := rfl
theorem tSl_nv (e : TypeId) (T : Ty α) (xs : List α) : (tSl e T).nv xs = ndL T xs := rfl
theorem slR_len {T : Ty α} {w : World} {v : Value} {xs : List α} (h : SlR T w v xs) : ∃ a cap, v = .slice a xs.length cap := by
 rcases h with ⟨rfl, a, cap, rfl⟩ | ⟨b, off, cap, us, rfl, _⟩
 ·
  exact ⟨a, cap, rfl⟩
 ·
  exact ⟨_, cap, rfl⟩
theorem slR_below {T : Ty α} (A : T.Law) {W w : World} {v : Value} {xs : List α} (h : SlR T W v xs) (hb : Below W.heap.size W w) : SlR T w v xs := by
 rcases h with h | ⟨b, off, cap, us, h1, h2, h3, h4⟩
 ·
  exact Or.inl h
 ·
  exact Or.inr ⟨b, off, cap, us, h1, h2, Nat.lt_of_lt_of_le h3 hb.size, fun j hj => ⟨fun i hi => (hb.cell (p := ⟨b, off + j * T.n + i, none⟩) h3).trans ((h4 j hj).1 i hi), A.below (h4 j hj).2 hb⟩⟩
theorem slR_same {T : Ty α} (A : T.Law) {w w' : World} {v : Value} {xs : List α} (h : SlR T w v xs) (h1 : w'.heap = w.heap) (h2 : w'.os = w.os) (h3 : w'.tape = w.tape) (h4 : w'.output = w.output) : SlR T w' v xs :=
 slR_below A h ⟨h2, h3, h4, by rw [h1]; exact Nat.le_refl _, fun k _ => by rw [h1]⟩
theorem slR_at {T : Ty α} {w : World} {v : Value} {xs : List α} (h : SlR T w v xs) {k : Nat} (hk : k < xs.length) : ∃ (b off cap : Nat) (cs : List Value), v = .slice (some ⟨b, off, none⟩) xs.length cap ∧ b < w.heap.size ∧ (∀ i, i < T.n → w.cell? ⟨b, off + k * T.n + i, none⟩ = cs[i]?) ∧ T.R w cs (xs.getD k T.d) := by
 rcases h with ⟨rfl, _⟩ | ⟨b, off, cap, us, h1, h2, h3, h4⟩
 ·
  simp at hk
 ·
  exact ⟨b, off, cap, us k, h1, h3, (h4 k hk).1, (h4 k hk).2⟩
theorem slO_reads {e : TypeId} {T : Ty α} (A : T.Law) {w : World} {F : Nat → Prop} {v : Value} {xs : List α} (h : SlO e T w F v xs) : SlR T w v xs := by
 obtain ⟨L, us, Fs, h1, _, h2, _⟩ := h
 have h1' := h1
 rcases h1.2 with ⟨rfl, hn⟩ | ⟨g, cap, cur, rfl, hb, hg, hn, hm, hcs, htake⟩
 ·
  exact Or.inl ⟨List.eq_nil_of_length_eq_zero hn, none, 0, rfl⟩
 ·
  refine Or.inr ⟨g, 0, cap, us, rfl, hn, (Array.getElem?_eq_some_iff.1 hg).1, fun j hj => ⟨fun i hi => ?_, A.reads (h2 j hj).2.1⟩⟩
  have hlt : j * T.n + i < xs.length * T.n := by
   have : (j + 1) * T.n ≤ xs.length * T.n := Nat.mul_le_mul_right _ hj
   rw [Nat.add_mul, Nat.one_mul] at this; omega
  rw [Nat.zero_add, World.ownsRow.cellAt h1' _ hlt]
  exact (h2 j hj).1 i hi
theorem slO_turn {e : TypeId} {T : Ty α} (A : T.Law) {w w' : World} {F G : Nat → Prop} {v : Value} {xs : List α} (h : SlO e T w F v xs) (k : Turn G w w') (hd : ∀ b, F b → ¬ G b) : SlO e T w' F v xs := by
 obtain ⟨L, us, Fs, h1, h2, h3, h4⟩ := h
 exact ⟨L, us, Fs, row_turn h1 k (fun b hb => hd b (h2 b hb)), h2, fun j hj => ⟨(h3 j hj).1, A.turn (h3 j hj).2.1 k (fun b hb => hd b ((h3 j hj).2.2 b hb).1), (h3 j hj).2.2⟩, h4⟩
theorem slO_mono {e : TypeId} {T : Ty α} {w : World} {F F' : Nat → Prop} {v : Value} {xs : List α} (h : SlO e T w F v xs) (hf : ∀ b, F b → F' b) : SlO e T w F' v xs := by
 obtain ⟨L, us, Fs, h1, h2, h3, h4⟩ := h
 exact ⟨L, us, Fs, h1, fun b hb => hf b (h2 b hb), fun j hj => ⟨(h3 j hj).1, (h3 j hj).2.1, fun b hb => ⟨hf b ((h3 j hj).2.2 b hb).1, ((h3 j hj).2.2 b hb).2⟩⟩, h4⟩
theorem slO_lt {e : TypeId} {T : Ty α} (A : T.Law) {w : World} {F : Nat → Prop} {v : Value} {xs : List α} (h : SlO e T w F v xs) : SlO e T w (fun b => F b ∧ b < w.heap.size) v xs := by
 obtain ⟨L, us, Fs, h1, h2, h3, h4⟩ := h
 exact ⟨L, us, fun j b => Fs j b ∧ b < w.heap.size, h1, fun b hb => ⟨h2 b hb, (h1.lt b hb).2⟩, fun j hj => ⟨(h3 j hj).1, A.lt (h3 j hj).2.1, fun b hb => ⟨⟨((h3 j hj).2.2 b hb.1).1, hb.2⟩, ((h3 j hj).2.2 b hb.1).2⟩⟩, fun i j hi hj hij b hb hc => h4 i j hi hj hij b hb.1 hc.1⟩
theorem slO_fresh {e : TypeId} {T : Ty α} (A : T.Law) {w w' : World} {F : Nat → Prop} {v : Value} {xs : List α} (h : SlO e T w F v xs) (hb : Below w.heap.size w w') : SlO e T w' F v xs :=
 slO_turn (G := fun _ => False) A h (turn_below hb) (fun _ _ => not_false)
theorem slO_nil (e : TypeId) (T : Ty α) (w : World) (F : Nat → Prop) : SlO e T w F (.slice none 0 0) [] :=
 ⟨[], fun _ => [], fun _ _ => False, World.ownsRow_nil w 0 _ _, fun b hb => by simp [Value.ownBlock] at hb, fun j hj => by simp at hj, fun i j hi => by simp at hi⟩
theorem slO_form {e : TypeId} {T : Ty α} {w : World} {F : Nat → Prop} {v : Value} {xs : List α} (h : SlO e T w F v xs) : (v = .slice none 0 0 ∧ xs = []) ∨ ∃ g cap, v = .slice (some ⟨g, 0, none⟩) xs.length cap ∧ F g ∧ g < w.heap.size := by
 obtain ⟨L, us, Fs, h1, h2, _⟩ := h
 rcases row_form h1 with ⟨e, h0⟩ | ⟨g, cap, e, hg⟩
 ·
  exact Or.inl ⟨e, List.eq_nil_of_length_eq_zero h0⟩
 ·
  exact Or.inr ⟨g, cap, e, h2 g (by rw [e]; rfl), hg⟩
theorem slO_len {e : TypeId} {T : Ty α} {w : World} {F : Nat → Prop} {v : Value} {xs : List α} (h : SlO e T w F v xs) : ∃ a cap, v = .slice a xs.length cap := by
 rcases slO_form h with ⟨e, e'⟩ | ⟨g, cap, e, _⟩
 ·
  exact ⟨none, 0, by rw [e, e']; rfl⟩
 ·
  exact ⟨_, cap, e⟩
/-- What 'make' owns. -/
theorem slO_made {e : TypeId} {T : Ty α} (A : T.Law) {w : World} {F : Nat → Prop} {g n B : Nat} {z : Array Value} (hz : z.size = T.n) (ho : T.O w (fun _ => False) z.toList T.d) (hF : F g)
  (h : w.ownsRow B e T.n (.slice (some ⟨g, 0, none⟩) n n) n (madeCells z (n * T.n)).toList) : SlO e T w F (.slice (some ⟨g, 0, none⟩) n n) (List.replicate n T.d) := by
 refine ⟨_, fun _ => z.toList, fun _ _ => False, by rw [List.length_replicate]; exact row_low h (Nat.zero_le _), fun b hb => ?_, fun j hj => ?_, fun i j _ _ _ b hb => False.elim hb⟩
 ·
  simp [Value.ownBlock] at hb; subst hb; exact hF
 ·
  rw [List.length_replicate] at hj
  have er : (List.replicate n T.d).getD j T.d = T.d := by simp [List.getD, hj]
  rw [er]
  refine ⟨fun i hi => ?_, ho, fun b hb => False.elim hb⟩
  have hlt : j * T.n + i < n * T.n := by
   have : (j + 1) * T.n ≤ n * T.n := Nat.mul_le_mul_right _ hj
   rw [Nat.add_mul, Nat.one_mul] at this; omega
  have hmod : (j * T.n + i) % z.size = i := by rw [hz, Nat.mul_comm, Nat.mul_add_mod, Nat.mod_eq_of_lt hi]
  rw [Array.getElem?_toList]
  unfold madeCells
  rw [Array.getElem?_map, Array.getElem?_range, if_pos hlt]
  have hi' : i < z.size := by omega
  simp [hmod, hi']
/-- An element is opened: its cells, its blocks; and what is owned when the element has turned. -/
theorem slO_open {e : TypeId} {T : Ty α} (A : T.Law) {w : World} {F : Nat → Prop} {g m cap : Nat} {xs : List α} (h : SlO e T w F (.slice (some ⟨g, 0, none⟩) m cap) xs) {j : Nat} (hj : j < xs.length) :
  m = xs.length ∧ F g ∧ g < w.heap.size ∧ ∃ (cs : List Value) (Fj : Nat → Prop) (L : List Value), w.ownsRow 0 e T.n (.slice (some ⟨g, 0, none⟩) xs.length cap) xs.length L ∧ (∀ i, i < T.n → L[j * T.n + i]? = cs[i]?) ∧ T.O w Fj cs (xs.getD j T.d) ∧ (∀ b, Fj b → F b ∧ b ≠ g ∧ b < w.heap.size) ∧
   ∀ (w' : World) (L' cs' : List Value) (Fj' : Nat → Prop) (x' : α), w'.ownsRow 0 e T.n (.slice (some ⟨g, 0, none⟩) xs.length cap) xs.length L' → (∀ o, (o < j * T.n ∨ j * T.n + T.n ≤ o) → L'[o]? = L[o]?) → (∀ i, i < T.n → L'[j * T.n + i]? = cs'[i]?) → T.O w' Fj' cs' x' → (∀ b, Fj' b → F b ∧ (Fj b ∨ w.heap.size ≤ b)) →
    Turn (fun b => b = g ∨ Fj b ∨ w.heap.size ≤ b) w w' → SlO e T w' F (.slice (some ⟨g, 0, none⟩) m cap) (xs.set j x') := by
 obtain ⟨L, us, Fs, h1, h2, h3, h4⟩ := slO_lt A h
 have hm : m = xs.length := by
  rcases h1.2 with ⟨h', _⟩ | ⟨_, _, _, h', _⟩
  ·
   simp at h'
  ·
   simp only [Value.slice.injEq] at h'; exact h'.2.1
 subst hm
 have hg := h2 g rfl
 refine ⟨rfl, hg.1, hg.2, us j, Fs j, L, h1, (h3 j hj).1, (h3 j hj).2.1, fun b hb => ?_, ?_⟩
 ·
  obtain ⟨⟨k1, k2⟩, k3⟩ := (h3 j hj).2.2 b hb
  exact ⟨k1, fun e => k3 (by rw [e]; rfl), k2⟩
 ·
  intro w' L' cs' Fj' x' g1 g2 g3 g4 g5 g6
  refine ⟨L', fun i => if i = j then cs' else us i, fun i => if i = j then Fj' else Fs i, by rw [List.length_set]; exact g1, fun b hb => (h2 b hb).1, fun i hi => ?_, fun a b ha hb hab c => ?_⟩
  ·
   rw [List.length_set] at hi
   by_cases eij : i = j
   ·
    subst eij
    have er : (xs.set i x').getD i T.d = x' := by simp [List.getD, hi]
    rw [er]
    simp only [if_true]
    refine ⟨g3, g4, fun b hb => ⟨(g5 b hb).1, ?_⟩⟩
    rcases (g5 b hb).2 with q | q
    ·
     exact ((h3 i hj).2.2 b q).2
    ·
     intro q2
     simp [Value.ownBlock] at q2
     omega
   ·
    have er : (xs.set j x').getD i T.d = xs.getD i T.d := by simp [List.getD, List.getElem?_set_ne (Ne.symm eij)]
    rw [er]
    simp only [if_neg eij]
    refine ⟨fun p hp => ?_, ?_, fun b hb => ⟨((h3 i hi).2.2 b hb).1.1, ((h3 i hi).2.2 b hb).2⟩⟩
    ·
     rw [g2 _ ?_]
     ·
      exact (h3 i hi).1 p hp
     ·
      rcases Nat.lt_or_gt_of_ne eij with q | q
      ·
       left
       have : (i + 1) * T.n ≤ j * T.n := Nat.mul_le_mul_right _ q
       rw [Nat.add_mul, Nat.one_mul] at this; omega
      ·
       right
       have : (j + 1) * T.n ≤ i * T.n := Nat.mul_le_mul_right _ q
       rw [Nat.add_mul, Nat.one_mul] at this; omega
    ·
     refine A.turn (h3 i hi).2.1 g6 (fun b hb hc => ?_)
     rcases hc with q | q | q
     ·
      exact ((h3 i hi).2.2 b hb).2 (by rw [q]; rfl)
     ·
      exact h4 i j hi hj eij b hb q
     ·
      have := ((h3 i hi).2.2 b hb).1.2; omega
  ·
   rw [List.length_set] at ha hb
   by_cases ea : a = j
   ·
    have eb : ¬ b = j := fun q => hab (ea.trans q.symm)
    simp only [if_pos ea, if_neg eb]
    intro q1 q2
    rcases (g5 c q1).2 with q | q
    ·
     exact h4 j b hj hb (fun q' => eb q'.symm) c q q2
    ·
     have := ((h3 b hb).2.2 c q2).1.2; omega
   ·
    by_cases eb : b = j
    ·
     simp only [if_neg ea, if_pos eb]
     intro q1 q2
     rcases (g5 c q2).2 with q | q
     ·
      exact h4 a j ha hj ea c q1 q
     ·
      have := ((h3 a ha).2.2 c q1).1.2; omega
    ·
     simp only [if_neg ea, if_neg eb]
     exact h4 a b ha hb hab c
/-- An element is appended. -/
theorem slO_app {e : TypeId} {T : Ty α} (A : T.Law) {w w' : World} {F Fn : Nat → Prop} {v v' : Value} {xs : List α} {x : α} {cs : List Value} {L : List Value} {us : Nat → List Value} {Fs : Nat → Nat → Prop}
  (h2 : ∀ b, v.ownBlock = some b → F b) (h3 : ∀ j, j < xs.length → (∀ i, i < T.n → L[j * T.n + i]? = (us j)[i]?) ∧ T.O w (Fs j) (us j) (xs.getD j T.d) ∧ ∀ b, Fs j b → (F b ∧ b < w.heap.size) ∧ v.ownBlock ≠ some b)
  (h4 : ∀ i j, i < xs.length → j < xs.length → i ≠ j → ∀ b, Fs i b → ¬ Fs j b) (hL : L.length = xs.length * T.n)
  (k1 : w'.ownsRow 0 e T.n v' (xs.length + 1) (L ++ cs)) (k2 : w.grownBy w' v.ownBlock) (k3 : ∀ b, v'.ownBlock = some b → v.ownBlock = some b ∨ (w.heap.size ≤ b ∧ F b))
  (hn : T.O w Fn cs x) (hc : cs.length = T.n) (hF : ∀ b, Fn b → F b ∧ b < w.heap.size ∧ v.ownBlock ≠ some b ∧ ∀ j, j < xs.length → ¬ Fs j b) : SlO e T w' F v' (xs ++ [x]) := by
 have hold : ∀ {G : Nat → Prop} {us : List Value} {y : α}, T.O w G us y → (∀ b, G b → v.ownBlock ≠ some b) → T.O w' G us y := fun h hd =>
  A.turn (G := fun b => v.ownBlock = some b) h (turn_grown k2 (fun b hb => hb)) (fun b hb => hd b hb)
 have hnew : ∀ b, b < w.heap.size → v.ownBlock ≠ some b → v'.ownBlock ≠ some b := fun b hb h1 h2 => by
  rcases k3 b h2 with q | q
  ·
   exact h1 q
  ·
   omega
 refine ⟨L ++ cs, fun j => if j < xs.length then us j else cs, fun j => if j < xs.length then Fs j else Fn, by rw [List.length_append]; exact k1, fun b hb => ?_, fun j hj => ?_, fun i j hi hj hij b => ?_⟩
 ·
  rcases k3 b hb with q | q
  ·
   exact h2 b q
  ·
   exact q.2
 ·
  rw [List.length_append, List.length_singleton] at hj
  by_cases hlt : j < xs.length
  ·
   have er : (xs ++ [x]).getD j T.d = xs.getD j T.d := by simp [List.getD, List.getElem?_append_left hlt]
   rw [er]
   simp only [if_pos hlt]
   obtain ⟨g1, g2, g3⟩ := h3 j hlt
   refine ⟨fun i hi => ?_, hold g2 (fun b hb => (g3 b hb).2), fun b hb => ⟨(g3 b hb).1.1, hnew b (g3 b hb).1.2 (g3 b hb).2⟩⟩
   have hl2 : j * T.n + i < L.length := by
    have : (j + 1) * T.n ≤ xs.length * T.n := Nat.mul_le_mul_right _ hlt
    rw [Nat.add_mul, Nat.one_mul] at this; omega
   rw [List.getElem?_append_left hl2]
   exact g1 i hi
  ·
   obtain rfl : j = xs.length := by omega
   have er : (xs ++ [x]).getD xs.length T.d = x := by simp [List.getD]
   rw [er]
   simp only [if_neg hlt]
   refine ⟨fun i hi => ?_, hold hn (fun b hb => (hF b hb).2.2.1), fun b hb => ⟨(hF b hb).1, hnew b (hF b hb).2.1 (hF b hb).2.2.1⟩⟩
   rw [List.getElem?_append_right (by omega), hL]
   simp
 ·
  rw [List.length_append, List.length_singleton] at hi hj
  by_cases h1 : i < xs.length
  ·
   by_cases h2 : j < xs.length
   ·
    simp only [if_pos h1, if_pos h2]; exact h4 i j h1 h2 hij b
   ·
    simp only [if_pos h1, if_neg h2]; exact fun q1 q2 => (hF b q2).2.2.2 i h1 q1
  ·
   by_cases h2 : j < xs.length
   ·
    simp only [if_neg h1, if_pos h2]; exact fun q1 q2 => (hF b q1).2.2.2 j h2 q2
   ·
    omega
theorem zTo_zero (T : Ty α) (xs : List α) : zTo T xs 0 = xs.length := by simp [zTo, sumN_zero]
theorem zTo_step {T : Ty α} {xs : List α} {k : Nat} (hk : k < xs.length) : zTo T xs (k + 1) = zTo T xs k + T.sz (xs.getD k T.d) := by
 unfold zTo; rw [sumN_step T.sz T.d hk]; omega
theorem zTo_le {T : Ty α} {xs : List α} {k : Nat} (hk : k ≤ xs.length) : zTo T xs k ≤ zL T xs := by
 unfold zL zTo; have := sumN_le T.sz hk; omega
theorem zL_at {T : Ty α} {xs : List α} {M : Nat} (hs : zL T xs ≤ M) {k : Nat} (hk : k < xs.length) : T.sz (xs.getD k T.d) ≤ M := by
 have h1 := zTo_step (T := T) hk
 have h2 := zTo_le (T := T) (xs := xs) (k := k + 1) (by omega)
 omega
theorem zL_len {T : Ty α} {xs : List α} {M : Nat} (hs : zL T xs ≤ M) : xs.length ≤ M := by
 have := zTo_le (T := T) (xs := xs) (Nat.zero_le _); rw [zTo_zero] at this; omega
theorem ndL_le {T : Ty α} (A : T.Law) (hs : T.s ≤ 16) (xs : List α) : ndL T xs ≤ 16 * zL T xs := by
 have := sum_map_le A.nd_le xs
 have h2 : T.s * xs.length ≤ 16 * xs.length := Nat.mul_le_mul_right _ hs
 unfold ndL zL zTo sumN
 rw [List.take_length]
 omega
theorem tSl_law {e : TypeId} {T : Ty α} (A : T.Law) (hs : T.s ≤ 16) : (tSl e T).Law where
 pos := Nat.one_pos
 len := fun {w cs x} h => by obtain ⟨v, rfl, _⟩ := h; rfl
 below := fun {W w cs x} h hb => by obtain ⟨v, e, h⟩ := h; exact ⟨v, e, slR_below A h hb⟩
 reads := fun {w F cs x} h => by obtain ⟨v, e, h⟩ := h; exact ⟨v, e, slO_reads A h⟩
 turn := fun {w w' F G cs x} h k hd => by obtain ⟨v, e, h⟩ := h; exact ⟨v, e, slO_turn A h k hd⟩
 mono := fun {w F F' cs x} h hf => by obtain ⟨v, e, h⟩ := h; exact ⟨v, e, slO_mono h hf⟩
 lt := fun {w F cs x} h => by obtain ⟨v, e, h⟩ := h; exact ⟨v, e, slO_lt A h⟩
 nd_le := fun x => ndL_le A hs x
 nv_le := fun x => ndL_le A hs x
theorem kAt_zero (T : Ty α) (xs : List α) (k : Int) : kAt T xs k 0 = k := by simp [kAt, sumN_zero]
theorem kAt_step {T : Ty α} {xs : List α} {k : Int} {j : Nat} (hj : j < xs.length) : kAt T xs k (j + 1) = kAt T xs k j + (T.nd (xs.getD j T.d) : Int) := by
 unfold kAt; rw [sumN_step T.nd T.d hj]; omega
theorem kAt_all (T : Ty α) (xs : List α) (k : Int) : kAt T xs k xs.length = k + (ndL T xs : Int) := rfl
theorem kAt_range {T : Ty α} (A : T.Law) (h16 : T.s ≤ 16) {xs : List α} {k : Int} {j : Nat} (hs : zL T xs ≤ 1048576) (hj : j ≤ xs.length) : k ≤ kAt T xs k j ∧ kAt T xs k j ≤ k + 16777216 := by
 have h1 := ndL_le A h16 xs
 have h2 := sumN_le T.nd hj
 unfold ndL at h1
 unfold kAt
 omega
theorem mTo_len {T : Ty α} {xs : List α} {k : Int} {j : Nat} (hj : j ≤ xs.length) : (mTo T xs k j).length = xs.length := by simp [mTo]; omega
theorem mTo_at {T : Ty α} {xs : List α} {k : Int} {j : Nat} (hj : j < xs.length) : (mTo T xs k j).getD j T.d = xs.getD j T.d := by
 unfold mTo
 simp only [List.getD]
 rw [List.getElem?_append_right (by simp), List.getElem?_drop]
 simp
theorem mTo_step {T : Ty α} {xs : List α} {k : Int} {j : Nat} (hj : j < xs.length) : (mTo T xs k j).set j (T.md (xs.getD j T.d) (kAt T xs k j)) = mTo T xs k (j + 1) := by
 unfold mTo
 rw [List.set_append_right _ _ (by simp), List.drop_eq_getElem_cons hj, List.range_succ, List.map_append]
 simp only [List.length_map, List.length_range, Nat.sub_self, List.set_cons_zero, List.map_cons, List.map_nil, List.append_assoc, List.cons_append, List.nil_append]
 rfl
theorem mTo_all (T : Ty α) (xs : List α) (k : Int) : mTo T xs k xs.length = mAll T xs k := by simp [mTo, mAll]
theorem mTo_zero (T : Ty α) (xs : List α) (k : Int) : mTo T xs k 0 = xs := by simp [mTo]
theorem cTo_step {xs : List α} {d : α} {k : Nat} (h : k < xs.length) : (xs.take k ++ List.replicate (xs.length - k) d).set k (xs.getD k d) = xs.take (k + 1) ++ List.replicate (xs.length - (k + 1)) d := by
 have hk : (xs.take k).length = k := by rw [List.length_take]; omega
 rw [List.set_append_right _ _ (by omega), hk, Nat.sub_self, show xs.length - k = (xs.length - (k + 1)) + 1 by omega, List.replicate_succ, List.set_cons_zero, List.take_succ_eq_append_getElem h, List.append_assoc]
 simp [List.getD, h]
theorem cTo_len {xs : List α} {d : α} {k : Nat} (h : k ≤ xs.length) : (xs.take k ++ List.replicate (xs.length - k) d).length = xs.length := by simp; omega
end
/-- New blocks: those since w. -/
def since (w : World) : Nat → Prop := fun b => w.heap.size ≤ b
/-- A value in new memory is answered. -/
def FreshT {α : Type} (T : Ty α) (mk : List Value → Value) (w : World) (x : α) (e : Ending) (w' : World) : Prop := ∃ cs, e = .returned (mk cs) ∧ T.O w' (since w) cs x ∧ Below w.heap.size w w'
def FreshS {α : Type} (t : TypeId) (T : Ty α) (w : World) (xs : List α) (e : Ending) (w' : World) : Prop := ∃ v, e = .returned v ∧ SlO t T w' (since w) v xs ∧ Below w.heap.size w w'
theorem cls2 {w : World} {b : Nat} {t : TypeId} {f : Nat × Nat} {v0 v1 : Value} (h : w.heap[b]? = some (.cells #[v0, v1] t f)) : w.cell? ⟨b, 0, none⟩ = some v0 ∧ w.cell? ⟨b, 1, none⟩ = some v1 :=
 ⟨cell_of_row w b 0 _ _ _ h, cell_of_row w b 1 _ _ _ h⟩
theorem cls3 {w : World} {b : Nat} {t : TypeId} {f : Nat × Nat} {v0 v1 v2 : Value} (h : w.heap[b]? = some (.cells #[v0, v1, v2] t f)) : w.cell? ⟨b, 0, none⟩ = some v0 ∧ w.cell? ⟨b, 1, none⟩ = some v1 ∧ w.cell? ⟨b, 2, none⟩ = some v2 :=
 ⟨cell_of_row w b 0 _ _ _ h, cell_of_row w b 1 _ _ _ h, cell_of_row w b 2 _ _ _ h⟩
theorem cls4 {w : World} {b : Nat} {t : TypeId} {f : Nat × Nat} {v0 v1 v2 v3 : Value} (h : w.heap[b]? = some (.cells #[v0, v1, v2, v3] t f)) : w.cell? ⟨b, 0, none⟩ = some v0 ∧ w.cell? ⟨b, 1, none⟩ = some v1 ∧ w.cell? ⟨b, 2, none⟩ = some v2 ∧ w.cell? ⟨b, 3, none⟩ = some v3 :=
 ⟨cell_of_row w b 0 _ _ _ h, cell_of_row w b 1 _ _ _ h, cell_of_row w b 2 _ _ _ h, cell_of_row w b 3 _ _ _ h⟩
theorem cls5 {w : World} {b : Nat} {t : TypeId} {f : Nat × Nat} {v0 v1 v2 v3 v4 : Value} (h : w.heap[b]? = some (.cells #[v0, v1, v2, v3, v4] t f)) : w.cell? ⟨b, 0, none⟩ = some v0 ∧ w.cell? ⟨b, 1, none⟩ = some v1 ∧ w.cell? ⟨b, 2, none⟩ = some v2 ∧ w.cell? ⟨b, 3, none⟩ = some v3 ∧ w.cell? ⟨b, 4, none⟩ = some v4 :=
 ⟨cell_of_row w b 0 _ _ _ h, cell_of_row w b 1 _ _ _ h, cell_of_row w b 2 _ _ _ h, cell_of_row w b 3 _ _ _ h, cell_of_row w b 4 _ _ _ h⟩
theorem cls6 {w : World} {b : Nat} {t : TypeId} {f : Nat × Nat} {v0 v1 v2 v3 v4 v5 : Value} (h : w.heap[b]? = some (.cells #[v0, v1, v2, v3, v4, v5] t f)) : w.cell? ⟨b, 0, none⟩ = some v0 ∧ w.cell? ⟨b, 1, none⟩ = some v1 ∧ w.cell? ⟨b, 2, none⟩ = some v2 ∧ w.cell? ⟨b, 3, none⟩ = some v3 ∧ w.cell? ⟨b, 4, none⟩ = some v4 ∧ w.cell? ⟨b, 5, none⟩ = some v5 :=
 ⟨cell_of_row w b 0 _ _ _ h, cell_of_row w b 1 _ _ _ h, cell_of_row w b 2 _ _ _ h, cell_of_row w b 3 _ _ _ h, cell_of_row w b 4 _ _ _ h, cell_of_row w b 5 _ _ _ h⟩
theorem cls7 {w : World} {b : Nat} {t : TypeId} {f : Nat × Nat} {v0 v1 v2 v3 v4 v5 v6 : Value} (h : w.heap[b]? = some (.cells #[v0, v1, v2, v3, v4, v5, v6] t f)) : w.cell? ⟨b, 0, none⟩ = some v0 ∧ w.cell? ⟨b, 1, none⟩ = some v1 ∧ w.cell? ⟨b, 2, none⟩ = some v2 ∧ w.cell? ⟨b, 3, none⟩ = some v3 ∧ w.cell? ⟨b, 4, none⟩ = some v4 ∧ w.cell? ⟨b, 5, none⟩ = some v5 ∧ w.cell? ⟨b, 6, none⟩ = some v6 :=
 ⟨cell_of_row w b 0 _ _ _ h, cell_of_row w b 1 _ _ _ h, cell_of_row w b 2 _ _ _ h, cell_of_row w b 3 _ _ _ h, cell_of_row w b 4 _ _ _ h, cell_of_row w b 5 _ _ _ h, cell_of_row w b 6 _ _ _ h⟩
theorem cls8 {w : World} {b : Nat} {t : TypeId} {f : Nat × Nat} {v0 v1 v2 v3 v4 v5 v6 v7 : Value} (h : w.heap[b]? = some (.cells #[v0, v1, v2, v3, v4, v5, v6, v7] t f)) : w.cell? ⟨b, 0, none⟩ = some v0 ∧ w.cell? ⟨b, 1, none⟩ = some v1 ∧ w.cell? ⟨b, 2, none⟩ = some v2 ∧ w.cell? ⟨b, 3, none⟩ = some v3 ∧ w.cell? ⟨b, 4, none⟩ = some v4 ∧ w.cell? ⟨b, 5, none⟩ = some v5 ∧ w.cell? ⟨b, 6, none⟩ = some v6 ∧ w.cell? ⟨b, 7, none⟩ = some v7 :=
 ⟨cell_of_row w b 0 _ _ _ h, cell_of_row w b 1 _ _ _ h, cell_of_row w b 2 _ _ _ h, cell_of_row w b 3 _ _ _ h, cell_of_row w b 4 _ _ _ h, cell_of_row w b 5 _ _ _ h, cell_of_row w b 6 _ _ _ h, cell_of_row w b 7 _ _ _ h⟩
theorem cls9 {w : World} {b : Nat} {t : TypeId} {f : Nat × Nat} {v0 v1 v2 v3 v4 v5 v6 v7 v8 : Value} (h : w.heap[b]? = some (.cells #[v0, v1, v2, v3, v4, v5, v6, v7, v8] t f)) : w.cell? ⟨b, 0, none⟩ = some v0 ∧ w.cell? ⟨b, 1, none⟩ = some v1 ∧ w.cell? ⟨b, 2, none⟩ = some v2 ∧ w.cell? ⟨b, 3, none⟩ = some v3 ∧ w.cell? ⟨b, 4, none⟩ = some v4 ∧ w.cell? ⟨b, 5, none⟩ = some v5 ∧ w.cell? ⟨b, 6, none⟩ = some v6 ∧ w.cell? ⟨b, 7, none⟩ = some v7 ∧ w.cell? ⟨b, 8, none⟩ = some v8 :=
 ⟨cell_of_row w b 0 _ _ _ h, cell_of_row w b 1 _ _ _ h, cell_of_row w b 2 _ _ _ h, cell_of_row w b 3 _ _ _ h, cell_of_row w b 4 _ _ _ h, cell_of_row w b 5 _ _ _ h, cell_of_row w b 6 _ _ _ h, cell_of_row w b 7 _ _ _ h, cell_of_row w b 8 _ _ _ h⟩
theorem cls10 {w : World} {b : Nat} {t : TypeId} {f : Nat × Nat} {v0 v1 v2 v3 v4 v5 v6 v7 v8 v9 : Value} (h : w.heap[b]? = some (.cells #[v0, v1, v2, v3, v4, v5, v6, v7, v8, v9] t f)) : w.cell? ⟨b, 0, none⟩ = some v0 ∧ w.cell? ⟨b, 1, none⟩ = some v1 ∧ w.cell? ⟨b, 2, none⟩ = some v2 ∧ w.cell? ⟨b, 3, none⟩ = some v3 ∧ w.cell? ⟨b, 4, none⟩ = some v4 ∧ w.cell? ⟨b, 5, none⟩ = some v5 ∧ w.cell? ⟨b, 6, none⟩ = some v6 ∧ w.cell? ⟨b, 7, none⟩ = some v7 ∧ w.cell? ⟨b, 8, none⟩ = some v8 ∧ w.cell? ⟨b, 9, none⟩ = some v9 :=
 ⟨cell_of_row w b 0 _ _ _ h, cell_of_row w b 1 _ _ _ h, cell_of_row w b 2 _ _ _ h, cell_of_row w b 3 _ _ _ h, cell_of_row w b 4 _ _ _ h, cell_of_row w b 5 _ _ _ h, cell_of_row w b 6 _ _ _ h, cell_of_row w b 7 _ _ _ h, cell_of_row w b 8 _ _ _ h, cell_of_row w b 9 _ _ _ h⟩
theorem hd {p : Prop} (h : p) : Hid p := Lib.hid h
theorem zb {w w' : World} {b : Nat} {o : Obj} (c : Below w.heap.size w w') (h : Hid (w.heap[b]? = some o)) : Hid (w'.heap[b]? = some o) := Lib.hid ((c.block b (Array.getElem?_eq_some_iff.1 h.out).1).trans h.out)
theorem zB {G : Nat → Prop} {w w' : World} {b : Nat} {o : Obj} (c : Turn G w w') (h : Hid (w.heap[b]? = some o)) (g : ¬ G b) : Hid (w'.heap[b]? = some o) := Lib.hid ((c.block b (Array.getElem?_eq_some_iff.1 h.out).1 g).trans h.out)
theorem zd {B : Nat} {w0 w w' : World} (d : Hid (Below B w0 w)) (c : Below w.heap.size w w') (h : B ≤ w.heap.size) : Hid (Below B w0 w') := Lib.hid (d.out.trans (c.mono h))
theorem zD {w0 w w' : World} (d : Hid (Below w0.heap.size w0 w)) (c : Below w.heap.size w w') : Hid (Below w0.heap.size w0 w') := Lib.hid (d.out.trans (c.mono d.out.size))
theorem zf {α : Type} {T : Ty α} (A : T.Law) {e : TypeId} {w w' : World} {F : Nat → Prop} {v : Value} {xs : List α} (h : Hid (SlO e T w F v xs)) (c : Below w.heap.size w w') : Hid (SlO e T w' F v xs) := Lib.hid (slO_fresh A h.out c)
theorem zt {α : Type} {T : Ty α} (A : T.Law) {e : TypeId} {w w' : World} {F G : Nat → Prop} {v : Value} {xs : List α} (h : Hid (SlO e T w F v xs)) (c : Turn G w w') (g : ∀ b, F b → ¬ G b) : Hid (SlO e T w' F v xs) := Lib.hid (slO_turn A h.out c g)
theorem zal (w : World) (o : Obj) : Below w.heap.size w (w.alloc o) := (Below.refl _ _).alloc (Nat.le_refl _) _
theorem zs (w : World) (o : Obj) : w.heap.size < (w.alloc o).heap.size := by simp [World.size_alloc]
theorem cr {w : World} {b : Nat} {C : Array Value} {t : TypeId} {f : Nat × Nat} (i : Nat) (v : Value) (h : w.heap[b]? = some (.cells C t f)) (e : C[i]? = some v := by rfl) : w.cell? ⟨b, i, none⟩ = some v := (cell_of_row w b i C t f h).trans e
theorem cx {B : Nat} {w w' : World} {p : Addr} {v : Value} (d : Hid (Below B w w')) (c : Hid (w.cell? p = some v)) (l : Hid (p.block < B)) : w'.cell? p = some v := (d.out.cell l.out).trans c.out
theorem zq {w : World} {base : Nat} {e : TypeId} {size g n cap : Nat} {xs : List Value} (h : w.ownsRow base e size (.slice (some ⟨g, 0, none⟩) n cap) n xs) (j : Nat) (hj : j < n * size) : ∃ x, w.cell? ⟨g, j, none⟩ = some x := ⟨_, (World.ownsRow.cellAt h j hj).trans (List.getElem?_eq_getElem (by have h1 : xs.length = n * size := h.1; omega))⟩
theorem ts2 (w : World) (g : Nat) (v0 v1 : Value) : Turn (fun b => b = g) w ((w.setCell ⟨g, 0, none⟩ v0).setCell ⟨g, 1, none⟩ v1) := (((Turn.refl (fun b => b = g) w).trans (turn_set (G := fun b => b = g) (g := g) (j := 0) (u := v0) rfl)).trans (turn_set (G := fun b => b = g) (g := g) (j := 1) (u := v1) rfl))
theorem st2 {w : World} {g : Nat} {t : TypeId} {u0 u1 : Value} (h : w.heap[g]? = some (.cells #[u0, u1] t (0, 0))) (v0 v1 : Value) : ((w.setCell ⟨g, 0, none⟩ v0).setCell ⟨g, 1, none⟩ v1).heap[g]? = some (.cells #[v0, v1] t (0, 0)) := by
 have r := (heap_setCell_same _ g 1 _ _ v1 (heap_setCell_same _ g 0 _ _ v0 h))
 simpa using r
theorem ts3 (w : World) (g : Nat) (v0 v1 v2 : Value) : Turn (fun b => b = g) w (((w.setCell ⟨g, 0, none⟩ v0).setCell ⟨g, 1, none⟩ v1).setCell ⟨g, 2, none⟩ v2) := ((((Turn.refl (fun b => b = g) w).trans (turn_set (G := fun b => b = g) (g := g) (j := 0) (u := v0) rfl)).trans (turn_set (G := fun b => b = g) (g := g) (j := 1) (u := v1) rfl)).trans (turn_set (G := fun b => b = g) (g := g) (j := 2) (u := v2) rfl))
theorem st3 {w : World} {g : Nat} {t : TypeId} {u0 u1 u2 : Value} (h : w.heap[g]? = some (.cells #[u0, u1, u2] t (0, 0))) (v0 v1 v2 : Value) : (((w.setCell ⟨g, 0, none⟩ v0).setCell ⟨g, 1, none⟩ v1).setCell ⟨g, 2, none⟩ v2).heap[g]? = some (.cells #[v0, v1, v2] t (0, 0)) := by
 have r := (heap_setCell_same _ g 2 _ _ v2 (heap_setCell_same _ g 1 _ _ v1 (heap_setCell_same _ g 0 _ _ v0 h)))
 simpa using r
theorem ts4 (w : World) (g : Nat) (v0 v1 v2 v3 : Value) : Turn (fun b => b = g) w ((((w.setCell ⟨g, 0, none⟩ v0).setCell ⟨g, 1, none⟩ v1).setCell ⟨g, 2, none⟩ v2).setCell ⟨g, 3, none⟩ v3) := (((((Turn.refl (fun b => b = g) w).trans (turn_set (G := fun b => b = g) (g := g) (j := 0) (u := v0) rfl)).trans (turn_set (G := fun b => b = g) (g := g) (j := 1) (u := v1) rfl)).trans (turn_set (G := fun b => b = g) (g := g) (j := 2) (u := v2) rfl)).trans (turn_set (G := fun b => b = g) (g := g) (j := 3) (u := v3) rfl))
theorem st4 {w : World} {g : Nat} {t : TypeId} {u0 u1 u2 u3 : Value} (h : w.heap[g]? = some (.cells #[u0, u1, u2, u3] t (0, 0))) (v0 v1 v2 v3 : Value) : ((((w.setCell ⟨g, 0, none⟩ v0).setCell ⟨g, 1, none⟩ v1).setCell ⟨g, 2, none⟩ v2).setCell ⟨g, 3, none⟩ v3).heap[g]? = some (.cells #[v0, v1, v2, v3] t (0, 0)) := by
 have r := (heap_setCell_same _ g 3 _ _ v3 (heap_setCell_same _ g 2 _ _ v2 (heap_setCell_same _ g 1 _ _ v1 (heap_setCell_same _ g 0 _ _ v0 h))))
 simpa using r
theorem ts5 (w : World) (g : Nat) (v0 v1 v2 v3 v4 : Value) : Turn (fun b => b = g) w (((((w.setCell ⟨g, 0, none⟩ v0).setCell ⟨g, 1, none⟩ v1).setCell ⟨g, 2, none⟩ v2).setCell ⟨g, 3, none⟩ v3).setCell ⟨g, 4, none⟩ v4) := ((((((Turn.refl (fun b => b = g) w).trans (turn_set (G := fun b => b = g) (g := g) (j := 0) (u := v0) rfl)).trans (turn_set (G := fun b => b = g) (g := g) (j := 1) (u := v1) rfl)).trans (turn_set (G := fun b => b = g) (g := g) (j := 2) (u := v2) rfl)).trans (turn_set (G := fun b => b = g) (g := g) (j := 3) (u := v3) rfl)).trans (turn_set (G := fun b => b = g) (g := g) (j := 4) (u := v4) rfl))
theorem st5 {w : World} {g : Nat} {t : TypeId} {u0 u1 u2 u3 u4 : Value} (h : w.heap[g]? = some (.cells #[u0, u1, u2, u3, u4] t (0, 0))) (v0 v1 v2 v3 v4 : Value) : (((((w.setCell ⟨g, 0, none⟩ v0).setCell ⟨g, 1, none⟩ v1).setCell ⟨g, 2, none⟩ v2).setCell ⟨g, 3, none⟩ v3).setCell ⟨g, 4, none⟩ v4).heap[g]? = some (.cells #[v0, v1, v2, v3, v4] t (0, 0)) := by
 have r := (heap_setCell_same _ g 4 _ _ v4 (heap_setCell_same _ g 3 _ _ v3 (heap_setCell_same _ g 2 _ _ v2 (heap_setCell_same _ g 1 _ _ v1 (heap_setCell_same _ g 0 _ _ v0 h)))))
 simpa using r
theorem ts6 (w : World) (g : Nat) (v0 v1 v2 v3 v4 v5 : Value) : Turn (fun b => b = g) w ((((((w.setCell ⟨g, 0, none⟩ v0).setCell ⟨g, 1, none⟩ v1).setCell ⟨g, 2, none⟩ v2).setCell ⟨g, 3, none⟩ v3).setCell ⟨g, 4, none⟩ v4).setCell ⟨g, 5, none⟩ v5) := (((((((Turn.refl (fun b => b = g) w).trans (turn_set (G := fun b => b = g) (g := g) (j := 0) (u := v0) rfl)).trans (turn_set (G := fun b => b = g) (g := g) (j := 1) (u := v1) rfl)).trans (turn_set (G := fun b => b = g) (g := g) (j := 2) (u := v2) rfl)).trans (turn_set (G := fun b => b = g) (g := g) (j := 3) (u := v3) rfl)).trans (turn_set (G := fun b => b = g) (g := g) (j := 4) (u := v4) rfl)).trans (turn_set (G := fun b => b = g) (g := g) (j := 5) (u := v5) rfl))
theorem st6 {w : World} {g : Nat} {t : TypeId} {u0 u1 u2 u3 u4 u5 : Value} (h : w.heap[g]? = some (.cells #[u0, u1, u2, u3, u4, u5] t (0, 0))) (v0 v1 v2 v3 v4 v5 : Value) : ((((((w.setCell ⟨g, 0, none⟩ v0).setCell ⟨g, 1, none⟩ v1).setCell ⟨g, 2, none⟩ v2).setCell ⟨g, 3, none⟩ v3).setCell ⟨g, 4, none⟩ v4).setCell ⟨g, 5, none⟩ v5).heap[g]? = some (.cells #[v0, v1, v2, v3, v4, v5] t (0, 0)) := by
 have r := (heap_setCell_same _ g 5 _ _ v5 (heap_setCell_same _ g 4 _ _ v4 (heap_setCell_same _ g 3 _ _ v3 (heap_setCell_same _ g 2 _ _ v2 (heap_setCell_same _ g 1 _ _ v1 (heap_setCell_same _ g 0 _ _ v0 h))))))
 simpa using r
theorem ts7 (w : World) (g : Nat) (v0 v1 v2 v3 v4 v5 v6 : Value) : Turn (fun b => b = g) w (((((((w.setCell ⟨g, 0, none⟩ v0).setCell ⟨g, 1, none⟩ v1).setCell ⟨g, 2, none⟩ v2).setCell ⟨g, 3, none⟩ v3).setCell ⟨g, 4, none⟩ v4).setCell ⟨g, 5, none⟩ v5).setCell ⟨g, 6, none⟩ v6) := ((((((((Turn.refl (fun b => b = g) w).trans (turn_set (G := fun b => b = g) (g := g) (j := 0) (u := v0) rfl)).trans (turn_set (G := fun b => b = g) (g := g) (j := 1) (u := v1) rfl)).trans (turn_set (G := fun b => b = g) (g := g) (j := 2) (u := v2) rfl)).trans (turn_set (G := fun b => b = g) (g := g) (j := 3) (u := v3) rfl)).trans (turn_set (G := fun b => b = g) (g := g) (j := 4) (u := v4) rfl)).trans (turn_set (G := fun b => b = g) (g := g) (j := 5) (u := v5) rfl)).trans (turn_set (G := fun b => b = g) (g := g) (j := 6) (u := v6) rfl))
theorem st7 {w : World} {g : Nat} {t : TypeId} {u0 u1 u2 u3 u4 u5 u6 : Value} (h : w.heap[g]? = some (.cells #[u0, u1, u2, u3, u4, u5, u6] t (0, 0))) (v0 v1 v2 v3 v4 v5 v6 : Value) : (((((((w.setCell ⟨g, 0, none⟩ v0).setCell ⟨g, 1, none⟩ v1).setCell ⟨g, 2, none⟩ v2).setCell ⟨g, 3, none⟩ v3).setCell ⟨g, 4, none⟩ v4).setCell ⟨g, 5, none⟩ v5).setCell ⟨g, 6, none⟩ v6).heap[g]? = some (.cells #[v0, v1, v2, v3, v4, v5, v6] t (0, 0)) := by
 have r := (heap_setCell_same _ g 6 _ _ v6 (heap_setCell_same _ g 5 _ _ v5 (heap_setCell_same _ g 4 _ _ v4 (heap_setCell_same _ g 3 _ _ v3 (heap_setCell_same _ g 2 _ _ v2 (heap_setCell_same _ g 1 _ _ v1 (heap_setCell_same _ g 0 _ _ v0 h)))))))
 simpa using r
theorem ts8 (w : World) (g : Nat) (v0 v1 v2 v3 v4 v5 v6 v7 : Value) : Turn (fun b => b = g) w ((((((((w.setCell ⟨g, 0, none⟩ v0).setCell ⟨g, 1, none⟩ v1).setCell ⟨g, 2, none⟩ v2).setCell ⟨g, 3, none⟩ v3).setCell ⟨g, 4, none⟩ v4).setCell ⟨g, 5, none⟩ v5).setCell ⟨g, 6, none⟩ v6).setCell ⟨g, 7, none⟩ v7) := (((((((((Turn.refl (fun b => b = g) w).trans (turn_set (G := fun b => b = g) (g := g) (j := 0) (u := v0) rfl)).trans (turn_set (G := fun b => b = g) (g := g) (j := 1) (u := v1) rfl)).trans (turn_set (G := fun b => b = g) (g := g) (j := 2) (u := v2) rfl)).trans (turn_set (G := fun b => b = g) (g := g) (j := 3) (u := v3) rfl)).trans (turn_set (G := fun b => b = g) (g := g) (j := 4) (u := v4) rfl)).trans (turn_set (G := fun b => b = g) (g := g) (j := 5) (u := v5) rfl)).trans (turn_set (G := fun b => b = g) (g := g) (j := 6) (u := v6) rfl)).trans (turn_set (G := fun b => b = g) (g := g) (j := 7) (u := v7) rfl))
theorem st8 {w : World} {g : Nat} {t : TypeId} {u0 u1 u2 u3 u4 u5 u6 u7 : Value} (h : w.heap[g]? = some (.cells #[u0, u1, u2, u3, u4, u5, u6, u7] t (0, 0))) (v0 v1 v2 v3 v4 v5 v6 v7 : Value) : ((((((((w.setCell ⟨g, 0, none⟩ v0).setCell ⟨g, 1, none⟩ v1).setCell ⟨g, 2, none⟩ v2).setCell ⟨g, 3, none⟩ v3).setCell ⟨g, 4, none⟩ v4).setCell ⟨g, 5, none⟩ v5).setCell ⟨g, 6, none⟩ v6).setCell ⟨g, 7, none⟩ v7).heap[g]? = some (.cells #[v0, v1, v2, v3, v4, v5, v6, v7] t (0, 0)) := by
 have r := (heap_setCell_same _ g 7 _ _ v7 (heap_setCell_same _ g 6 _ _ v6 (heap_setCell_same _ g 5 _ _ v5 (heap_setCell_same _ g 4 _ _ v4 (heap_setCell_same _ g 3 _ _ v3 (heap_setCell_same _ g 2 _ _ v2 (heap_setCell_same _ g 1 _ _ v1 (heap_setCell_same _ g 0 _ _ v0 h))))))))
 simpa using r
theorem ts10 (w : World) (g : Nat) (v0 v1 v2 v3 v4 v5 v6 v7 v8 v9 : Value) : Turn (fun b => b = g) w ((((((((((w.setCell ⟨g, 0, none⟩ v0).setCell ⟨g, 1, none⟩ v1).setCell ⟨g, 2, none⟩ v2).setCell ⟨g, 3, none⟩ v3).setCell ⟨g, 4, none⟩ v4).setCell ⟨g, 5, none⟩ v5).setCell ⟨g, 6, none⟩ v6).setCell ⟨g, 7, none⟩ v7).setCell ⟨g, 8, none⟩ v8).setCell ⟨g, 9, none⟩ v9) := (((((((((((Turn.refl (fun b => b = g) w).trans (turn_set (G := fun b => b = g) (g := g) (j := 0) (u := v0) rfl)).trans (turn_set (G := fun b => b = g) (g := g) (j := 1) (u := v1) rfl)).trans (turn_set (G := fun b => b = g) (g := g) (j := 2) (u := v2) rfl)).trans (turn_set (G := fun b => b = g) (g := g) (j := 3) (u := v3) rfl)).trans (turn_set (G := fun b => b = g) (g := g) (j := 4) (u := v4) rfl)).trans (turn_set (G := fun b => b = g) (g := g) (j := 5) (u := v5) rfl)).trans (turn_set (G := fun b => b = g) (g := g) (j := 6) (u := v6) rfl)).trans (turn_set (G := fun b => b = g) (g := g) (j := 7) (u := v7) rfl)).trans (turn_set (G := fun b => b = g) (g := g) (j := 8) (u := v8) rfl)).trans (turn_set (G := fun b => b = g) (g := g) (j := 9) (u := v9) rfl))
theorem st10 {w : World} {g : Nat} {t : TypeId} {u0 u1 u2 u3 u4 u5 u6 u7 u8 u9 : Value} (h : w.heap[g]? = some (.cells #[u0, u1, u2, u3, u4, u5, u6, u7, u8, u9] t (0, 0))) (v0 v1 v2 v3 v4 v5 v6 v7 v8 v9 : Value) : ((((((((((w.setCell ⟨g, 0, none⟩ v0).setCell ⟨g, 1, none⟩ v1).setCell ⟨g, 2, none⟩ v2).setCell ⟨g, 3, none⟩ v3).setCell ⟨g, 4, none⟩ v4).setCell ⟨g, 5, none⟩ v5).setCell ⟨g, 6, none⟩ v6).setCell ⟨g, 7, none⟩ v7).setCell ⟨g, 8, none⟩ v8).setCell ⟨g, 9, none⟩ v9).heap[g]? = some (.cells #[v0, v1, v2, v3, v4, v5, v6, v7, v8, v9] t (0, 0)) := by
 have r := (heap_setCell_same _ g 9 _ _ v9 (heap_setCell_same _ g 8 _ _ v8 (heap_setCell_same _ g 7 _ _ v7 (heap_setCell_same _ g 6 _ _ v6 (heap_setCell_same _ g 5 _ _ v5 (heap_setCell_same _ g 4 _ _ v4 (heap_setCell_same _ g 3 _ _ v3 (heap_setCell_same _ g 2 _ _ v2 (heap_setCell_same _ g 1 _ _ v1 (heap_setCell_same _ g 0 _ _ v0 h))))))))))
 simpa using r
theorem ty_ret {a b : Int} (h : a = b) : Ending.returned (.int .i64 a) = .returned (.int .i64 b) := by rw [h]
abbrev tIntS : Ty (List Int) := tSl 3 tInt
theorem tIntS_law : tIntS.Law := tSl_law tInt_law (by decide)
theorem ints_slR {w : World} {v : Value} {xs : List Int} (h : Ints w v xs) : SlR tInt w v xs := by
 rcases h with h | ⟨b, off, cap, h1, h2, h3, h4⟩
 ·
  exact Or.inl h
 ·
  refine Or.inr ⟨b, off, cap, fun j => [.int .i64 (xs.getD j 0)], h1, h2, h3, fun j hj => ⟨fun i hi => ?_, rfl⟩⟩
  have hi0 : i < 1 := hi
  obtain rfl : i = 0 := by omega
  have e : off + j * tInt.n + 0 = off + j := by show off + j * 1 + 0 = _; omega
  rw [e, h4 j hj]; rfl
theorem slR_ints {w : World} {v : Value} {xs : List Int} (h : SlR tInt w v xs) : Ints w v xs := by
 rcases h with h | ⟨b, off, cap, us, h1, h2, h3, h4⟩
 ·
  exact Or.inl h
 ·
  refine Or.inr ⟨b, off, cap, h1, h2, h3, fun j hj => ?_⟩
  have h5 := (h4 j hj).1 0 (by decide)
  have h6 : us j = [.int .i64 (xs.getD j 0)] := (h4 j hj).2
  have e : off + j * tInt.n + 0 = off + j := by show off + j * 1 + 0 = _; omega
  rw [e, h6] at h5
  exact h5
theorem zL_flat {α : Type} {T : Ty α} (h : ∀ x, T.sz x = 0) (xs : List α) : zL T xs = xs.length := by
 unfold zL zTo sumN
 have : ∀ l : List α, (l.map T.sz).sum = 0 := fun l => by
  induction l with
  | nil => rfl
  | cons x l ih => rw [List.map_cons, List.sum_cons, h x, ih]
 rw [this]; rfl
theorem sumN_one {α : Type} {f : α → Nat} {c : Nat} (h : ∀ x, f x = c) (xs : List α) {k : Nat} (hk : k ≤ xs.length) : sumN f xs k = c * k := by
 unfold sumN
 have : ∀ l : List α, (l.map f).sum = c * l.length := fun l => by
  induction l with
  | nil => rfl
  | cons x l ih => rw [List.map_cons, List.sum_cons, h x, ih, List.length_cons, Nat.mul_add]; omega
 rw [this, List.length_take, Nat.min_eq_left hk]
theorem zL_ints (xs : List Int) : zL tInt xs = xs.length := zL_flat (fun _ => rfl) xs
theorem ndL_ints (xs : List Int) : ndL tInt xs = xs.length := by
 unfold ndL; rw [sumN_one (f := tInt.nd) (c := 1) (fun _ => rfl) xs (Nat.le_refl _)]; omega
theorem mAll_ints (xs : List Int) (k : Int) : mAll tInt xs k = marks k xs.length := by
 unfold mAll marks
 apply List.map_congr_left
 intro i hi
 rw [List.mem_range] at hi
 show kAt tInt xs k i = k + (i : Int)
 unfold kAt
 rw [sumN_one (f := tInt.nd) (c := 1) (fun _ => rfl) xs (by omega)]; omega
theorem slO_own {w : World} {F : Nat → Prop} {v : Value} {xs : List Int} (h : SlO 3 tInt w F v xs) : OwnsN w 0 v xs ∧ ∀ b, v.ownBlock = some b → F b := by
 obtain ⟨L, us, Fs, h1, h2, h3, h4⟩ := h
 refine ⟨?_, h2⟩
 have e : L = xs.map (Value.int .i64) := by
  apply List.ext_getElem?
  intro i
  by_cases hi : i < xs.length
  ·
   obtain ⟨g1, g2, _⟩ := h3 i hi
   have g3 := g1 0 (by decide)
   have g4 : us i = [.int .i64 (xs.getD i 0)] := g2
   have e : i * tInt.n + 0 = i := by show i * 1 + 0 = _; omega
   rw [e, g4] at g3
   rw [g3]
   simp [List.getD, hi]
  ·
   have hl : L.length = xs.length * 1 := h1.1
   rw [List.getElem?_eq_none (by omega), List.getElem?_eq_none (by simp; omega)]
 rw [e] at h1
 exact h1
theorem own_slO {w : World} {F : Nat → Prop} {v : Value} {xs : List Int} {B : Nat} (h : OwnsN w B v xs) (hF : ∀ b, v.ownBlock = some b → F b) : SlO 3 tInt w F v xs := by
 refine ⟨_, fun j => [.int .i64 (xs.getD j 0)], fun _ _ => False, row_low h (Nat.zero_le _), hF, fun j hj => ⟨fun i hi => ?_, rfl, fun b hb => False.elim hb⟩, fun i j _ _ _ b hb => False.elim hb⟩
 have hi0 : i < 1 := hi
 obtain rfl : i = 0 := by omega
 have e : j * tInt.n + 0 = j := by show j * 1 + 0 = _; omega
 rw [e]
 simp [List.getD, hj]
/-- Numbers in new memory, either way. -/
theorem fresh_ints {w w' : World} {v : Value} {xs : List Int} (h : OwnsN w' w.heap.size v xs) : SlO 3 tInt w' (since w) v xs := own_slO h (fun b hb => (h.lt b hb).1)
theorem szIntS_Y (v : Value) (xs : List Int) (k0 : Int) (w : World) (h : SlR tInt w v xs) (hs : ((zL tInt xs : Nat) : Int) ≤ k0) (hk : k0 ≤ 1048576) :
  Calls Tryz.prog 50 #[v, .int .i64 k0] w fun e w' => e = .returned (.int .i64 (k0 - ((zL tInt xs : Nat) : Int))) ∧ Below w.heap.size w w' := by
 rw [zL_ints] at hs ⊢
 obtain ⟨a, cap, rfl⟩ := slR_len h
 exact (szInt_yes a cap xs.length k0 w hs hk).mono fun e w' g => ⟨g.1, by rw [g.2]; exact Below.refl _ _⟩
theorem szIntS_N (v : Value) (xs : List Int) (k0 : Int) (w : World) (h : SlR tInt w v xs) (hs : k0 < ((zL tInt xs : Nat) : Int)) (hk : k0 ≤ 1048576) (hp : 0 ≤ k0) (ho : tIntS.ok xs) :
  Calls Tryz.prog 50 #[v, .int .i64 k0] w fun e w' => e = .returned (.int .i64 (-1)) ∧ Below w.heap.size w w' := by
 rw [zL_ints] at hs
 obtain ⟨a, cap, rfl⟩ := slR_len h
 exact (szInt_no a cap xs.length k0 w hs hp ho.1).mono fun e w' g => ⟨g.1, by rw [g.2]; exact Below.refl _ _⟩
theorem toIntS_S (v : Value) (xs : List Int) (w : World) (h : SlR tInt w v xs) (hs : zL tInt xs ≤ 1048576) :
  Calls Tryz.prog 57 #[v] w (FreshS 3 tInt w xs) := by
 rw [zL_ints] at hs
 refine (toIntS_any v xs w (slR_ints h) hs).mono ?_
 rintro e w' ⟨u, rfl, o, b⟩
 exact ⟨u, rfl, fresh_ints o, b⟩
theorem eqIntS_S (v u : Value) (xs : List Int) (w : World) (h : SlR tInt w v xs) (g : SlR tInt w u xs) (hs : zL tInt xs ≤ 1048576) :
  Calls Tryz.prog 19 #[v, u] w fun e w' => e = .returned (.bool true) ∧ Below w.heap.size w w' := by
 rw [zL_ints] at hs
 exact eqIntS_same v u xs w (slR_ints h) (slR_ints g) hs
theorem markIntS_S (v : Value) (xs : List Int) (F : Nat → Prop) (k : Int) (w : World) (h : SlO 3 tInt w F v xs) (hs : zL tInt xs ≤ 1048576) (k0 : 0 ≤ k) (k1 : k ≤ 1073741824) :
  Calls Tryz.prog 21 #[v, .int .i64 k] w fun e w' => e = .returned (.int .i64 (k + (ndL tInt xs : Int))) ∧ SlO 3 tInt w' F v (mAll tInt xs k) ∧ Turn F w w' := by
 rw [zL_ints] at hs
 obtain ⟨h1, h2⟩ := slO_own h
 refine (markIntS_any v xs 0 k w h1 hs k0 k1).mono ?_
 rintro e w' ⟨rfl, o, g⟩
 rw [ndL_ints, mAll_ints]
 exact ⟨rfl, own_slO o h2, turn_grown g h2⟩
theorem heldIntS_S (v : Value) (xs : List Int) (k : Int) (w : World) (h : SlR tInt w v (mAll tInt xs k)) (hs : zL tInt xs ≤ 1048576) (k0 : 0 ≤ k) (k1 : k ≤ 1073741824) :
  Calls Tryz.prog 22 #[v, .int .i64 k] w fun e w' => e = .returned (.int .i64 (k + (ndL tInt xs : Int))) ∧ w = w' := by
 rw [zL_ints] at hs
 rw [mAll_ints] at h
 rw [ndL_ints]
 exact heldIntS_any v xs.length k w (slR_ints h) hs k0 k1
def tVersion : Ty (Int × List Int × Int × Int) := tPair tInt (tPair tIntS (tPair tInt tInt))
theorem tVersion_law : tVersion.Law := tPair_law tInt_law (tPair_law tIntS_law (tPair_law tInt_law tInt_law))
theorem tVersion_R {w : World} {cs : List Value} {a0 : Int} {x1 : List Int} {a2 : Int} {a3 : Int} (h : tVersion.R w cs (a0, x1, a2, a3)) : ∃ v1, cs = [.int .i64 a0, v1, .int .i64 a2, .int .i64 a3] ∧ SlR tInt w v1 x1 := by
 obtain ⟨_, _, rfl, rfl, ⟨_, _, rfl, ⟨v1, rfl, h1⟩, ⟨_, _, rfl, rfl, rfl⟩⟩⟩ := h
 exact ⟨_, rfl, h1⟩
theorem tVersion_mkR {w : World} {a0 : Int} {x1 : List Int} {a2 : Int} {a3 : Int} {v1 : Value} (h1 : SlR tInt w v1 x1) : tVersion.R w [.int .i64 a0, v1, .int .i64 a2, .int .i64 a3] (a0, x1, a2, a3) := ⟨[.int .i64 a0], [v1, .int .i64 a2, .int .i64 a3], rfl, rfl, ⟨[v1], [.int .i64 a2, .int .i64 a3], rfl, ⟨_, rfl, h1⟩, ⟨[.int .i64 a2], [.int .i64 a3], rfl, rfl, rfl⟩⟩⟩
theorem tVersion_sz {a0 : Int} {x1 : List Int} {a2 : Int} {a3 : Int} : tVersion.sz (a0, x1, a2, a3) = zL tInt x1 := by
 simp only [tVersion, tPair_sz, tPair_nd, tPair_nv, tInt_sz, tInt_nd, tInt_nv, tSl_sz, tSl_nd, tSl_nv]
 try omega
theorem tVersion_nd {a0 : Int} {x1 : List Int} {a2 : Int} {a3 : Int} : tVersion.nd (a0, x1, a2, a3) = 3 + ndL tInt x1 := by
 simp only [tVersion, tPair_sz, tPair_nd, tPair_nv, tInt_sz, tInt_nd, tInt_nv, tSl_sz, tSl_nd, tSl_nv]
 try omega
theorem tVersion_md {a0 : Int} {x1 : List Int} {a2 : Int} {a3 : Int} {k : Int} : tVersion.md (a0, x1, a2, a3) k = ((k), mAll tInt x1 (k + 1), (k + 1 + (ndL tInt x1 : Int)), (k + 1 + (ndL tInt x1 : Int) + 1)) := by
 simp only [tVersion, tPair_md, tPair_mv, tPair_nd, tPair_nv, tInt_md, tInt_mv, tInt_nd, tInt_nv, tSl_md, tSl_mv, tSl_nd, tSl_nv, Int.natCast_add, Int.natCast_zero, Int.natCast_one, Int.add_zero, Int.zero_add, Int.add_assoc]
theorem tVersion_O {w : World} {F : Nat → Prop} {cs : List Value} {a0 : Int} {x1 : List Int} {a2 : Int} {a3 : Int} (h : tVersion.O w F cs (a0, x1, a2, a3)) : ∃ v1, ∃ F1 : Nat → Prop, cs = [.int .i64 a0, v1, .int .i64 a2, .int .i64 a3] ∧ SlO 3 tInt w F1 v1 x1 ∧ (∀ b, F1 b → F b) := by
 obtain ⟨_, _, F0_1, F0_2, rfl, rfl, ⟨_, _, F1_1, F1_2, rfl, ⟨v1, rfl, h1⟩, ⟨_, _, F2_1, F2_2, rfl, rfl, rfl, s2_1, s2_2, d2⟩, s1_1, s1_2, d1⟩, s0_1, s0_2, d0⟩ := h
 exact ⟨v1, F1_1, rfl, h1, fun b h => (s0_2 b (s1_1 b h))⟩
theorem tVersion_mkO {w : World} {F : Nat → Prop} {a0 : Int} {x1 : List Int} {a2 : Int} {a3 : Int} {v1 : Value} {F1 : Nat → Prop} (h1 : SlO 3 tInt w F1 v1 x1) (s1 : ∀ b, F1 b → F b)  : tVersion.O w F [.int .i64 a0, v1, .int .i64 a2, .int .i64 a3] (a0, x1, a2, a3) := ⟨[.int .i64 a0], [v1, .int .i64 a2, .int .i64 a3], fun _ => False, F1, rfl, rfl, ⟨[v1], [.int .i64 a2, .int .i64 a3], F1, fun _ => False, rfl, ⟨_, rfl, h1⟩, ⟨[.int .i64 a2], [.int .i64 a3], fun _ => False, fun _ => False, rfl, rfl, rfl, (fun b h => (False.elim h)), (fun b h => (False.elim h)), (fun b h g => (False.elim h))⟩, (fun b h => h), (fun b h => (False.elim h)), (fun b h g => (False.elim g))⟩, (fun b h => (False.elim h)), (fun b h => s1 b h), (fun b h g => (False.elim h))⟩
set_option maxHeartbeats 8000000 in
theorem szVersion_Y (a0 a2 a3 : Int) (v1 : Value) (x1 : List Int) (k0 : Int) (w : World) (h1 : SlR tInt w v1 x1) (hs : ((zL tInt x1 : Nat) : Int) ≤ k0) (hk : k0 ≤ 1048576) :
  Calls Tryz.prog 217 #[.agg #[.int .i64 a0, v1, .int .i64 a2, .int .i64 a3], .int .i64 k0] w fun e w' => e = .returned (.int .i64 (k0 - ((zL tInt x1 : Nat) : Int))) ∧ Below w.heap.size w w' := by
 have H1 := hd h1
 clear h1
 have HZ1 : Hid (((zL tInt x1 : Nat) : Int) ≤ k0) := hd (by omega)
 have HK1 : Hid (k0 ≤ 1048576) := hd (by omega)
 have hn1 : ¬ k0 - ((zL tInt x1 : Nat) : Int) < 0 := by omega
 clear hs hk
 have hb : Below w.heap.size w (w.alloc (.cells #[.int .i64 a0, v1, .int .i64 a2, .int .i64 a3] 249)) := (Below.refl _ w).alloc (Nat.le_refl _) _
 have g0 : (w.alloc (.cells #[.int .i64 a0, v1, .int .i64 a2, .int .i64 a3] 249)).heap[w.heap.size]? = some (.cells #[.int .i64 a0, v1, .int .i64 a2, .int .i64 a3] 249 (0, 0)) := heap_alloc_new w _
 have hz0 : w.heap.size < (w.alloc (.cells #[.int .i64 a0, v1, .int .i64 a2, .int .i64 a3] 249)).heap.size := by simp
 go_enter Tryz.func217, Tryz.ntmps217
 go_wp2_with fail
 generalize (w.alloc (.cells #[.int .i64 a0, v1, .int .i64 a2, .int .i64 a3] 249)) = W at *
 refine (szIntS_Y v1 x1 (k0) W (slR_below tInt_law H1.out hb) HZ1.out HK1.out).mono ?_
 rintro e W1 ⟨rfl, b1⟩
 replace g0 := (b1.block w.heap.size hz0).trans g0
 replace hz0 := Nat.lt_of_lt_of_le hz0 b1.size
 replace hb := hb.trans (b1.mono hb.size)
 clear b1
 go_wp2
 go_ret
 exact ⟨rfl, hb⟩
set_option maxHeartbeats 8000000 in
theorem szVersion_N (a0 a2 a3 : Int) (v1 : Value) (x1 : List Int) (k0 : Int) (w : World) (h1 : SlR tInt w v1 x1) (hs : k0 < ((zL tInt x1 : Nat) : Int)) (hk : k0 ≤ 1048576) (hp : 0 ≤ k0) (o1 : tIntS.ok x1) :
  Calls Tryz.prog 217 #[.agg #[.int .i64 a0, v1, .int .i64 a2, .int .i64 a3], .int .i64 k0] w fun e w' => e = .returned (.int .i64 (-1)) ∧ Below w.heap.size w w' := by
 have H1 := hd h1
 clear h1
 have HO1 := hd o1
 clear o1
 have HZ1 : Hid (k0 < ((zL tInt x1 : Nat) : Int)) := hd (by omega)
 have HP1 : Hid (0 ≤ k0) := hd (by omega)
 have HK1 : Hid (k0 ≤ 1048576) := hd (by omega)
 clear hs hk
 clear hp
 have hb : Below w.heap.size w (w.alloc (.cells #[.int .i64 a0, v1, .int .i64 a2, .int .i64 a3] 249)) := (Below.refl _ w).alloc (Nat.le_refl _) _
 have g0 : (w.alloc (.cells #[.int .i64 a0, v1, .int .i64 a2, .int .i64 a3] 249)).heap[w.heap.size]? = some (.cells #[.int .i64 a0, v1, .int .i64 a2, .int .i64 a3] 249 (0, 0)) := heap_alloc_new w _
 have hz0 : w.heap.size < (w.alloc (.cells #[.int .i64 a0, v1, .int .i64 a2, .int .i64 a3] 249)).heap.size := by simp
 go_enter Tryz.func217, Tryz.ntmps217
 go_wp2_with fail
 generalize (w.alloc (.cells #[.int .i64 a0, v1, .int .i64 a2, .int .i64 a3] 249)) = W at *
 refine (szIntS_N v1 x1 (k0) W (slR_below tInt_law H1.out hb) HZ1.out HK1.out HP1.out HO1.out).mono ?_
 rintro e W1 ⟨rfl, b1⟩
 replace g0 := (b1.block w.heap.size hz0).trans g0
 replace hz0 := Nat.lt_of_lt_of_le hz0 b1.size
 replace hb := hb.trans (b1.mono hb.size)
 clear b1
 go_wp2
 go_ret
 exact ⟨rfl, hb⟩
set_option maxHeartbeats 8000000 in
theorem toVersion_T (a0 a2 a3 : Int) (v1 : Value) (x1 : List Int) (w : World) (h1 : SlR tInt w v1 x1) (s1 : zL tInt x1 ≤ 1048576) :
  Calls Tryz.prog 218 #[.agg #[.int .i64 a0, v1, .int .i64 a2, .int .i64 a3]] w (FreshT tVersion (fun cs => .agg cs.toArray) w (a0, x1, a2, a3)) := by
 have H1 := hd h1
 clear h1
 have S1 := hd s1
 clear s1
 go_enter Tryz.func218, Tryz.ntmps218
 go_wp2_with fail
 have hb : Below w.heap.size w (((w.alloc (.cells #[.int .i64 a0, v1, .int .i64 a2, .int .i64 a3] 249)).alloc (.cells #[.int .i64 0, .slice none 0 0, .int .i64 0, .int .i64 0] 197)).alloc (.cells #[.int .i64 a0, .slice none 0 0, .int .i64 0, .int .i64 0] 197)) := (((Below.refl _ w).alloc (Nat.le_refl _) _).alloc (by simp) _).alloc (by simp; omega) _
 have g2 : (((w.alloc (.cells #[.int .i64 a0, v1, .int .i64 a2, .int .i64 a3] 249)).alloc (.cells #[.int .i64 0, .slice none 0 0, .int .i64 0, .int .i64 0] 197)).alloc (.cells #[.int .i64 a0, .slice none 0 0, .int .i64 0, .int .i64 0] 197)).heap[w.heap.size + 1 + 1]? = some (.cells #[.int .i64 a0, .slice none 0 0, .int .i64 0, .int .i64 0] 197 (0, 0)) := by
  have := heap_alloc_new ((w.alloc (.cells #[.int .i64 a0, v1, .int .i64 a2, .int .i64 a3] 249)).alloc (.cells #[.int .i64 0, .slice none 0 0, .int .i64 0, .int .i64 0] 197)) (.cells #[.int .i64 a0, .slice none 0 0, .int .i64 0, .int .i64 0] 197)
  simpa only [World.size_alloc] using this
 have g1 : (((w.alloc (.cells #[.int .i64 a0, v1, .int .i64 a2, .int .i64 a3] 249)).alloc (.cells #[.int .i64 0, .slice none 0 0, .int .i64 0, .int .i64 0] 197)).alloc (.cells #[.int .i64 a0, .slice none 0 0, .int .i64 0, .int .i64 0] 197)).heap[w.heap.size + 1]? = some (.cells #[.int .i64 0, .slice none 0 0, .int .i64 0, .int .i64 0] 197 (0, 0)) := by
  have := heap_alloc_new (w.alloc (.cells #[.int .i64 a0, v1, .int .i64 a2, .int .i64 a3] 249)) (.cells #[.int .i64 0, .slice none 0 0, .int .i64 0, .int .i64 0] 197)
  rw [Below.heap_alloc _ _ _ (by simp)]
  simpa only [World.size_alloc] using this
 have g0 : (((w.alloc (.cells #[.int .i64 a0, v1, .int .i64 a2, .int .i64 a3] 249)).alloc (.cells #[.int .i64 0, .slice none 0 0, .int .i64 0, .int .i64 0] 197)).alloc (.cells #[.int .i64 a0, .slice none 0 0, .int .i64 0, .int .i64 0] 197)).heap[w.heap.size]? = some (.cells #[.int .i64 a0, v1, .int .i64 a2, .int .i64 a3] 249 (0, 0)) := by
  rw [Below.heap_alloc _ _ _ (by simp; omega), Below.heap_alloc _ _ _ (by simp)]
  exact heap_alloc_new w _
 have hz : w.heap.size + 2 < (((w.alloc (.cells #[.int .i64 a0, v1, .int .i64 a2, .int .i64 a3] 249)).alloc (.cells #[.int .i64 0, .slice none 0 0, .int .i64 0, .int .i64 0] 197)).alloc (.cells #[.int .i64 a0, .slice none 0 0, .int .i64 0, .int .i64 0] 197)).heap.size := by simp [World.size_alloc]
 generalize (((w.alloc (.cells #[.int .i64 a0, v1, .int .i64 a2, .int .i64 a3] 249)).alloc (.cells #[.int .i64 0, .slice none 0 0, .int .i64 0, .int .i64 0] 197)).alloc (.cells #[.int .i64 a0, .slice none 0 0, .int .i64 0, .int .i64 0] 197)) = W at *
 refine (toIntS_S v1 x1 W (slR_below tInt_law H1.out hb) S1.out).mono ?_
 rintro e w1 ⟨u1, rfl, o1, b1⟩
 obtain ⟨ua1, uc1, rfl⟩ := slO_len o1
 replace o1 := slO_mono (slO_lt tInt_law o1) (F' := fun b => W.heap.size ≤ b ∧ b < w1.heap.size) (fun b h => h)
 replace g0 := (b1.block _ (by omega)).trans g0
 replace g1 := (b1.block _ (by omega)).trans g1
 replace g2 := (b1.block _ (by omega)).trans g2
 have zz1 := b1.size
 replace hb := hb.trans (b1.mono (by omega))
 clear b1
 have c2_0 := cr 0 (Value.int .i64 a0) g2
 have f2_0 := frozen_of_row w1 _ 0 _ _ g2
 have c2_1 := cr 1 (Value.slice none 0 0) g2
 have f2_1 := frozen_of_row w1 _ 1 _ _ g2
 have c2_2 := cr 2 (Value.int .i64 0) g2
 have f2_2 := frozen_of_row w1 _ 2 _ _ g2
 have c2_3 := cr 3 (Value.int .i64 0) g2
 have f2_3 := frozen_of_row w1 _ 3 _ _ g2
 have ne1 : ¬ w.heap.size = w.heap.size + 1 + 1 := by omega
 have ne2 : ¬ w.heap.size + 1 = w.heap.size + 1 + 1 := by omega
 have ne3 : ¬ w.heap.size + 1 + 1 = w.heap.size + 1 := by omega
 have c0_2 := cr 2 (Value.int .i64 a2) g0
 have c0_3 := cr 3 (Value.int .i64 a3) g0
 have c1_0 := cr 0 (Value.int .i64 0) g1
 have f1_0 := frozen_of_row w1 _ 0 _ _ g1
 have c1_1 := cr 1 (Value.slice none 0 0) g1
 have f1_1 := frozen_of_row w1 _ 1 _ _ g1
 have c1_2 := cr 2 (Value.int .i64 0) g1
 have f1_2 := frozen_of_row w1 _ 2 _ _ g1
 have c1_3 := cr 3 (Value.int .i64 0) g1
 have f1_3 := frozen_of_row w1 _ 3 _ _ g1
 have l0_2 : (w1.setCell ⟨w.heap.size + 1 + 1, 1, none⟩ (.slice ua1 x1.length uc1)).cell? ⟨w.heap.size, 2, none⟩ = some (Value.int .i64 a2) := by
  have m : (w1.setCell ⟨w.heap.size + 1 + 1, 1, none⟩ (.slice ua1 x1.length uc1)).heap[w.heap.size]? = some (.cells #[.int .i64 a0, v1, .int .i64 a2, .int .i64 a3] 249 (0, 0)) := by
   repeat rw [heap_setCell_other _ _ _ _ (by simp <;> omega)]
   exact g0
  exact (cell_of_row _ _ 2 _ _ _ m).trans rfl
 have l0_3 : ((w1.setCell ⟨w.heap.size + 1 + 1, 1, none⟩ (.slice ua1 x1.length uc1)).setCell ⟨w.heap.size + 1 + 1, 2, none⟩ (.int .i64 a2)).cell? ⟨w.heap.size, 3, none⟩ = some (Value.int .i64 a3) := by
  have m : ((w1.setCell ⟨w.heap.size + 1 + 1, 1, none⟩ (.slice ua1 x1.length uc1)).setCell ⟨w.heap.size + 1 + 1, 2, none⟩ (.int .i64 a2)).heap[w.heap.size]? = some (.cells #[.int .i64 a0, v1, .int .i64 a2, .int .i64 a3] 249 (0, 0)) := by
   repeat rw [heap_setCell_other _ _ _ _ (by simp <;> omega)]
   exact g0
  exact (cell_of_row _ _ 3 _ _ _ m).trans rfl
 go_wp2
 clear c2_0 f2_0 c2_1 f2_1 c2_2 f2_2 c2_3 f2_3 ne1 ne2 ne3 c0_2 c0_3 c1_0 f1_0 c1_1 f1_1 c1_2 f1_2 c1_3 f1_3 l0_2 l0_3
 have hw : Turn (fun b => b = w.heap.size + 1 ∨ b = w.heap.size + 1 + 1) w1 (((((((w1.setCell ⟨w.heap.size + 1 + 1, 1, none⟩ (.slice ua1 x1.length uc1)).setCell ⟨w.heap.size + 1 + 1, 2, none⟩ (.int .i64 a2)).setCell ⟨w.heap.size + 1 + 1, 3, none⟩ (.int .i64 a3)).setCell ⟨w.heap.size + 1, 0, none⟩ (.int .i64 a0)).setCell ⟨w.heap.size + 1, 1, none⟩ (.slice ua1 x1.length uc1)).setCell ⟨w.heap.size + 1, 2, none⟩ (.int .i64 a2)).setCell ⟨w.heap.size + 1, 3, none⟩ (.int .i64 a3)) := by
  first | exact ((((((((Turn.refl _ _).trans (turn_set (g := w.heap.size + 1 + 1) (j := 1) (u := .slice ua1 x1.length uc1) (Or.inr rfl))).trans (turn_set (g := w.heap.size + 1 + 1) (j := 2) (u := .int .i64 a2) (Or.inr rfl))).trans (turn_set (g := w.heap.size + 1 + 1) (j := 3) (u := .int .i64 a3) (Or.inr rfl))).trans (turn_set (g := w.heap.size + 1) (j := 0) (u := .int .i64 a0) (Or.inl rfl))).trans (turn_set (g := w.heap.size + 1) (j := 1) (u := .slice ua1 x1.length uc1) (Or.inl rfl))).trans (turn_set (g := w.heap.size + 1) (j := 2) (u := .int .i64 a2) (Or.inl rfl))).trans (turn_set (g := w.heap.size + 1) (j := 3) (u := .int .i64 a3) (Or.inl rfl))) | skip
 have r := (heap_setCell_same _ (w.heap.size + 1) 3 _ _ (.int .i64 a3) (heap_setCell_same _ (w.heap.size + 1) 2 _ _ (.int .i64 a2) (heap_setCell_same _ (w.heap.size + 1) 1 _ _ (.slice ua1 x1.length uc1) (heap_setCell_same _ (w.heap.size + 1) 0 _ _ (.int .i64 a0) ((heap_setCell_other _ ⟨w.heap.size + 1 + 1, 3, none⟩ (w.heap.size + 1) (.int .i64 a3) (by simp)).trans ((heap_setCell_other _ ⟨w.heap.size + 1 + 1, 2, none⟩ (w.heap.size + 1) (.int .i64 a2) (by simp)).trans ((heap_setCell_other _ ⟨w.heap.size + 1 + 1, 1, none⟩ (w.heap.size + 1) (.slice ua1 x1.length uc1) (by simp)).trans g1)))))))
 have e0 := cell_of_row _ _ 0 _ _ _ r
 have e1 := cell_of_row _ _ 1 _ _ _ r
 have e2 := cell_of_row _ _ 2 _ _ _ r
 have e3 := cell_of_row _ _ 3 _ _ _ r
 simp at e0 e1 e2 e3
 replace o1 := slO_turn tInt_law o1 hw (fun b h1 h2 => by have := h1.1; omega)
 replace hb := below_turn hb hw (fun b h => by omega) (by omega)
 refine bodyPost_ret (v := .agg #[.int .i64 a0, .slice ua1 x1.length uc1, .int .i64 a2, .int .i64 a3]) ?_ rfl ?_
 ·
  simp [results, Tryz.f218, go_sem, e0, e1, e2, e3]
 ·
  exact ⟨[.int .i64 a0, .slice ua1 x1.length uc1, .int .i64 a2, .int .i64 a3], rfl, tVersion_mkO o1 (fun b h => by show w.heap.size ≤ b; have := h.1; omega) , hb⟩
set_option maxHeartbeats 8000000 in
theorem eqVersion_T (a0 a2 a3 : Int) (v1 : Value) (x1 : List Int) (u1 : Value) (w : World) (h1 : SlR tInt w v1 x1) (g1 : SlR tInt w u1 x1) (s1 : zL tInt x1 ≤ 1048576) :
  Calls Tryz.prog 226 #[.agg #[.int .i64 a0, v1, .int .i64 a2, .int .i64 a3], .agg #[.int .i64 a0, u1, .int .i64 a2, .int .i64 a3]] w fun e w' => e = .returned (.bool true) ∧ Below w.heap.size w w' := by
 have H1 := hd h1; have G1 := hd g1; have S1 := hd s1
 clear h1 g1 s1
 have e0 : (a0 != a0) = false := by simp
 have e2 : (a2 != a2) = false := by simp
 have e3 : (a3 != a3) = false := by simp
 go_enter Tryz.func226, Tryz.ntmps226
 go_wp2_with fail
 have hb : Below w.heap.size w ((w.alloc (.cells #[.int .i64 a0, v1, .int .i64 a2, .int .i64 a3] 197)).alloc (.cells #[.int .i64 a0, u1, .int .i64 a2, .int .i64 a3] 197)) := ((Below.refl _ w).alloc (Nat.le_refl _) _).alloc (by simp) _
 have g1 : ((w.alloc (.cells #[.int .i64 a0, v1, .int .i64 a2, .int .i64 a3] 197)).alloc (.cells #[.int .i64 a0, u1, .int .i64 a2, .int .i64 a3] 197)).heap[w.heap.size + 1]? = some (.cells #[.int .i64 a0, u1, .int .i64 a2, .int .i64 a3] 197 (0, 0)) := by
  have := heap_alloc_new (w.alloc (.cells #[.int .i64 a0, v1, .int .i64 a2, .int .i64 a3] 197)) (.cells #[.int .i64 a0, u1, .int .i64 a2, .int .i64 a3] 197)
  simpa only [World.size_alloc] using this
 have g0 : ((w.alloc (.cells #[.int .i64 a0, v1, .int .i64 a2, .int .i64 a3] 197)).alloc (.cells #[.int .i64 a0, u1, .int .i64 a2, .int .i64 a3] 197)).heap[w.heap.size]? = some (.cells #[.int .i64 a0, v1, .int .i64 a2, .int .i64 a3] 197 (0, 0)) := by
  rw [Below.heap_alloc _ _ _ (by simp)]
  exact heap_alloc_new w _
 have hz : w.heap.size + 1 < ((w.alloc (.cells #[.int .i64 a0, v1, .int .i64 a2, .int .i64 a3] 197)).alloc (.cells #[.int .i64 a0, u1, .int .i64 a2, .int .i64 a3] 197)).heap.size := by simp [World.size_alloc]
 generalize ((w.alloc (.cells #[.int .i64 a0, v1, .int .i64 a2, .int .i64 a3] 197)).alloc (.cells #[.int .i64 a0, u1, .int .i64 a2, .int .i64 a3] 197)) = W at *
 refine (eqIntS_S v1 u1 x1 W (slR_below tInt_law H1.out hb) (slR_below tInt_law G1.out hb) S1.out).mono ?_
 rintro e w1 ⟨rfl, b1⟩
 replace g0 := (b1.block _ (by omega)).trans g0
 replace g1 := (b1.block _ (by omega)).trans g1
 have zz0 := b1.size
 replace hb := hb.trans (b1.mono (by omega))
 clear b1
 have p0_2 := cr 2 (Value.int .i64 a2) g0
 have p1_2 := cr 2 (Value.int .i64 a2) g1
 have p0_3 := cr 3 (Value.int .i64 a3) g0
 have p1_3 := cr 3 (Value.int .i64 a3) g1
 go_wp2
 clear p0_2 p1_2 p0_3 p1_3
 go_ret
 exact ⟨rfl, hb⟩
abbrev tVersionS : Ty (List (Int × List Int × Int × Int)) := tSl 197 tVersion
theorem tVersionS_law : tVersionS.Law := tSl_law tVersion_law (by decide)
set_option maxHeartbeats 8000000 in
theorem szVersionS_Y (v : Value) (xs : List (Int × List Int × Int × Int)) (k0 : Int) (w : World) (h : SlR tVersion w v xs) (hs : ((zL tVersion xs : Nat) : Int) ≤ k0) (hk : k0 ≤ 1048576) :
  Calls Tryz.prog 171 #[v, .int .i64 k0] w fun e w' => e = .returned (.int .i64 (k0 - ((zL tVersion xs : Nat) : Int))) ∧ Below w.heap.size w w' := by
 have H := hd h
 obtain ⟨a, cap, rfl⟩ := slR_len h
 clear h
 have h00 := zTo_le (T := tVersion) (xs := xs) (Nat.zero_le _)
 rw [zTo_zero] at h00
 have HS := hd hs
 go_enter Tryz.func171, Tryz.ntmps171
 have hneg : ¬ k0 - (xs.length : Int) < 0 := by omega
 go_wp2
 clear hneg
 go_loopw [1, 5] (fun l i wr => ∃ k : Nat, k ≤ xs.length ∧ i = .int .i64 k ∧ l = .int .i64 (k0 - (zTo tVersion xs k : Int)) ∧ Below w.heap.size w wr) (fun _ i _ => xs.length - (intOf i).toNat)
 case atStart => exact ⟨0, Nat.zero_le _, rfl, by rw [zTo_zero], Below.refl _ _⟩
 case round =>
  obtain ⟨k, hk', rfl, rfl, hbel⟩ := hrel
  by_cases hlt : k < xs.length
  ·
   have HST := hd (zTo_step (T := tVersion) hlt)
   have HLE := hd (zTo_le (T := tVersion) (xs := xs) (k := k + 1) (by omega))
   have i1 : (0 : Int) ≤ (k : Int) := by omega
   have i2 : (k : Int) < (xs.length : Int) := by omega
   obtain ⟨b, off, cap', cs, hv, hbl, hcs, hR⟩ := slR_at (slR_below tVersion_law H.out hbel) hlt
   simp only [Value.slice.injEq] at hv
   obtain ⟨rfl, _, rfl⟩ := hv
   generalize xs.getD k tVersion.d = x at *
   obtain ⟨a0, x1, a2, a3⟩ := x
   obtain ⟨v1, hR'⟩ := tVersion_R hR
   obtain ⟨rfl, h1⟩ := hR'
   have p0 : wr.cell? ⟨b, off + k * 4, none⟩ = some (Value.int .i64 a0) := hcs 0 (by decide)
   have p1 : wr.cell? ⟨b, off + k * 4 + 1, none⟩ = some (v1) := hcs 1 (by decide)
   have p2 : wr.cell? ⟨b, off + k * 4 + 2, none⟩ = some (Value.int .i64 a2) := hcs 2 (by decide)
   have p3 : wr.cell? ⟨b, off + k * 4 + 3, none⟩ = some (Value.int .i64 a3) := hcs 3 (by decide)
   clear hcs
   have HQ : Hid (tVersion.sz (a0, x1, a2, a3) = zL tInt x1) := hd tVersion_sz
   have hx1 : ((zL tInt x1 : Nat) : Int) ≤ k0 - (zTo tVersion xs k : Int) := by have := HST.out; have := HLE.out; have := HQ.out; omega
   have hx2 : k0 - (zTo tVersion xs k : Int) ≤ 1048576 := by omega
   have hneg : ¬ k0 - (zTo tVersion xs k : Int) - ((zL tInt x1 : Nat) : Int) < 0 := by omega
   have HC := hd (fun W b => szVersion_Y a0 a2 a3 v1 x1 (k0 - (zTo tVersion xs k : Int)) W (slR_below tInt_law h1 b) hx1 hx2)
   go_wp2_with fail
   refine (HC.out _ (Below.refl _ _)).mono ?_
   rintro e w1 ⟨rfl, b1⟩
   have b2 := hbel.trans (b1.mono hbel.size)
   go_wp2
   go_roundw
   case rel => exact ⟨k + 1, by omega, by go_num, by rw [HST.out, HQ.out]; go_num, b2⟩
   case measure => simp [intOf]; omega
  ·
   obtain rfl : k = xs.length := by omega
   go_wp2
   go_ret
   exact ⟨rfl, hbel⟩
set_option maxHeartbeats 8000000 in
theorem szVersionS_N (v : Value) (xs : List (Int × List Int × Int × Int)) (k0 : Int) (w : World) (h : SlR tVersion w v xs) (hs : k0 < ((zL tVersion xs : Nat) : Int)) (hk : k0 ≤ 1048576) (hp : 0 ≤ k0) (ho : tVersionS.ok xs) :
  Calls Tryz.prog 171 #[v, .int .i64 k0] w fun e w' => e = .returned (.int .i64 (-1)) ∧ Below w.heap.size w w' := by
 have H := hd h
 have HX := hd ho.2
 have hn := ho.1
 have HS := hd hs
 obtain ⟨a, cap, rfl⟩ := slR_len h
 clear h ho hs
 by_cases h1 : k0 < (xs.length : Int)
 ·
  have hneg : k0 - (xs.length : Int) < 0 := by omega
  go_enter Tryz.func171, Tryz.ntmps171
  go_wp2
  go_ret
  exact ⟨rfl, Below.refl _ _⟩
 ·
  go_enter Tryz.func171, Tryz.ntmps171
  have hneg : ¬ k0 - (xs.length : Int) < 0 := by omega
  go_wp2
  clear hneg
  go_loopw [1, 5] (fun l i wr => ∃ k : Nat, k ≤ xs.length ∧ i = .int .i64 k ∧ l = .int .i64 (k0 - (zTo tVersion xs k : Int)) ∧ (zTo tVersion xs k : Int) ≤ k0 ∧ Below w.heap.size w wr) (fun _ i _ => xs.length - (intOf i).toNat)
  case atStart => exact ⟨0, Nat.zero_le _, rfl, by rw [zTo_zero], by rw [zTo_zero]; omega, Below.refl _ _⟩
  case round =>
   obtain ⟨k, hk', rfl, rfl, hle, hbel⟩ := hrel
   by_cases hlt : k < xs.length
   ·
    have HST := hd (zTo_step (T := tVersion) hlt)
    have hx := HX.out k hlt
    have i1 : (0 : Int) ≤ (k : Int) := by omega
    have i2 : (k : Int) < (xs.length : Int) := by omega
    obtain ⟨b, off, cap', cs, hv, hbl, hcs, hR⟩ := slR_at (slR_below tVersion_law H.out hbel) hlt
    simp only [Value.slice.injEq] at hv
    obtain ⟨rfl, _, rfl⟩ := hv
    generalize xs.getD k tVersion.d = x at *
    obtain ⟨a0, x1, a2, a3⟩ := x
    obtain ⟨v1, hR'⟩ := tVersion_R hR
    obtain ⟨rfl, h1⟩ := hR'
    have p0 : wr.cell? ⟨b, off + k * 4, none⟩ = some (Value.int .i64 a0) := hcs 0 (by decide)
    have p1 : wr.cell? ⟨b, off + k * 4 + 1, none⟩ = some (v1) := hcs 1 (by decide)
    have p2 : wr.cell? ⟨b, off + k * 4 + 2, none⟩ = some (Value.int .i64 a2) := hcs 2 (by decide)
    have p3 : wr.cell? ⟨b, off + k * 4 + 3, none⟩ = some (Value.int .i64 a3) := hcs 3 (by decide)
    clear hcs
    have HQ : Hid (tVersion.sz (a0, x1, a2, a3) = zL tInt x1) := hd tVersion_sz
    obtain ⟨_, ⟨o1, ⟨_, _⟩⟩⟩ := hx
    have hz0 : (0 : Int) ≤ (zTo tVersion xs k : Int) := by omega
    by_cases hg : ((zL tInt x1 : Nat) : Int) ≤ k0 - (zTo tVersion xs k : Int)
    ·
     have hx2 : k0 - (zTo tVersion xs k : Int) ≤ 1048576 := by omega
     have hneg : ¬ k0 - (zTo tVersion xs k : Int) - ((zL tInt x1 : Nat) : Int) < 0 := by omega
     have HC := hd (fun W b => szVersion_Y a0 a2 a3 v1 x1 (k0 - (zTo tVersion xs k : Int)) W (slR_below tInt_law h1 b) hg hx2)
     go_wp2_with fail
     refine (HC.out _ (Below.refl _ _)).mono ?_
     rintro e w1 ⟨rfl, b1⟩
     have b2 := hbel.trans (b1.mono hbel.size)
     go_wp2
     go_roundw
     case rel => exact ⟨k + 1, by omega, by go_num, by rw [HST.out, HQ.out]; go_num, by rw [HST.out, HQ.out]; omega, b2⟩
     case measure => simp [intOf]; omega
    ·
     have hx1 : k0 - (zTo tVersion xs k : Int) < ((zL tInt x1 : Nat) : Int) := by omega
     have hx0 : 0 ≤ k0 - (zTo tVersion xs k : Int) := by omega
     have hx2 : k0 - (zTo tVersion xs k : Int) ≤ 1048576 := by omega
     have HC := hd (fun W b => szVersion_N a0 a2 a3 v1 x1 (k0 - (zTo tVersion xs k : Int)) W (slR_below tInt_law h1 b) hx1 hx2 hx0 o1)
     clear hg
     go_wp2_with fail
     refine (HC.out _ (Below.refl _ _)).mono ?_
     rintro e w1 ⟨rfl, b1⟩
     have b2 := hbel.trans (b1.mono hbel.size)
     go_wp2
     go_ret
     exact ⟨rfl, b2⟩
   ·
    obtain rfl : k = xs.length := by omega
    exact absurd HS.out (by show ¬ k0 < ((zTo tVersion xs xs.length : Nat) : Int); omega)
theorem Tryz.info_Version : (Tryz.prog.info? 197).map (fun i => (i.zero, i.size)) = some (some (.agg #[.int .i64 0, .slice none 0 0, .int .i64 0, .int .i64 0]), 4) := by kernel_rfl
theorem Tryz.bytes_Version : ((Tryz.prog.info? 197).map (fun i => decide (i.bytes ≤ 512))) = some true := by kernel_rfl
theorem tVersion_zero (w : World) : tVersion.O w (fun _ => False) #[.int .i64 0, .slice none 0 0, .int .i64 0, .int .i64 0].toList tVersion.d := tVersion_mkO (slO_nil _ _ _ (fun _ => False)) (fun b h => h) 
set_option maxHeartbeats 8000000 in
theorem toVersionS_S (v : Value) (xs : List (Int × List Int × Int × Int)) (w : World) (h : SlR tVersion w v xs) (hs : zL tVersion xs ≤ 1048576) :
  Calls Tryz.prog 179 #[v] w (FreshS 197 tVersion w xs) := by
 obtain ⟨i0, hi, hz0, hz1⟩ : ∃ i0, Tryz.prog.info? 197 = some i0 ∧ i0.zero = some (.agg #[.int .i64 0, .slice none 0 0, .int .i64 0, .int .i64 0]) ∧ i0.size = 4 := by
  have h0 := Tryz.info_Version
  cases q : Tryz.prog.info? 197 with
  | none => rw [q] at h0; simp at h0
  | some i => rw [q] at h0; simp only [Option.map_some, Option.some.injEq, Prod.mk.injEq] at h0; exact ⟨i, rfl, h0.1, h0.2⟩
 have hz2 : i0.bytes ≤ 512 := by
  have h0 := Tryz.bytes_Version
  rw [hi] at h0
  simpa using h0
 have HI := hd hi; have HZ0 := hd hz0; have HZ1 := hd hz1; have HZ2 := hd hz2
 clear hi hz0 hz1 hz2
 have H := hd h
 have hlen := zL_len hs
 have HS := hd hs
 obtain ⟨a, cap, rfl⟩ := slR_len h
 clear h hs
 go_enter Tryz.func179, Tryz.ntmps179
 go_wp2_with (at_make; refine wpList_make_full _ rfl (.tmp 6) (.tmp 6) 198 rfl w.heap.size 197 i0 (.agg #[.int .i64 0, .slice none 0 0, .int .i64 0, .int .i64 0]) 4 Tryz.underlying198 HI.out HZ0.out HZ1.out _ _ _ _ xs.length rfl rfl rfl rfl (by have h9 := Nat.mul_le_mul HZ2.out hlen; have h8 := Nat.mul_le_mul hlen HZ2.out; omega) (by unfold maxLen; omega) (Nat.le_refl _) ?_)
 intro w1 hown0 hg0
 have hown1 : SlO 197 tVersion w1 (since w) (.slice (some ⟨w.heap.size, 0, none⟩) xs.length xs.length) (List.replicate xs.length tVersion.d) := slO_made (z := #[.int .i64 0, .slice none 0 0, .int .i64 0, .int .i64 0]) tVersion_law rfl (tVersion_zero w1) (Nat.le_refl _) hown0
 have hbel1 := (Below.refl w.heap.size w).grown hg0 (Nat.le_refl _) (fun k hk => by cases hk)
 clear hown0 hg0
 go_wp2
 go_loopw [4] (fun i wr => ∃ k : Nat, k ≤ xs.length ∧ i = .int .i64 k ∧ SlO 197 tVersion wr (since w) (.slice (some ⟨w.heap.size, 0, none⟩) xs.length xs.length) (xs.take k ++ List.replicate (xs.length - k) tVersion.d) ∧ Below w.heap.size w wr) (fun i _ => xs.length - (intOf i).toNat)
 case atStart => exact ⟨0, Nat.zero_le _, rfl, by simpa using hown1, hbel1⟩
 case round =>
  obtain ⟨k, hk, rfl, hown, hbel⟩ := hrel
  by_cases hlt : k < xs.length
  ·
   have HSET := hd (cTo_step (d := tVersion.d) hlt)
   have HKL : Hid (k < (xs.take k ++ List.replicate (xs.length - k) tVersion.d).length) := hd (by rw [cTo_len hk]; exact hlt)
   have HLL := hd (cTo_len (d := tVersion.d) hk)
   have i1 : (0 : Int) ≤ (k : Int) := by omega
   have i2 : (k : Int) < (xs.length : Int) := by omega
   have hzx := zL_at HS.out hlt
   obtain ⟨b, off, cap', cs, hv, hbl, hcs, hR⟩ := slR_at (slR_below tVersion_law H.out hbel) hlt
   simp only [Value.slice.injEq] at hv
   obtain ⟨rfl, _, rfl⟩ := hv
   obtain ⟨hme, hFg, hgl, cj, Fj, Lc, hrow, hLc, hO, hFj, hput⟩ := slO_open tVersion_law hown HKL.out
   clear hme
   clear hown1 hbel1
   generalize xs.getD k tVersion.d = x at *
   generalize xs.take k ++ List.replicate (xs.length - k) tVersion.d = ys at *
   obtain ⟨a0, x1, a2, a3⟩ := x
   obtain ⟨v1, hR'⟩ := tVersion_R hR
   obtain ⟨rfl, h1⟩ := hR'
   have p0 : wr.cell? ⟨b, off + k * 4, none⟩ = some (Value.int .i64 a0) := hcs 0 (by decide)
   have p1 : wr.cell? ⟨b, off + k * 4 + 1, none⟩ = some (v1) := hcs 1 (by decide)
   have p2 : wr.cell? ⟨b, off + k * 4 + 2, none⟩ = some (Value.int .i64 a2) := hcs 2 (by decide)
   have p3 : wr.cell? ⟨b, off + k * 4 + 3, none⟩ = some (Value.int .i64 a3) := hcs 3 (by decide)
   rw [tVersion_sz] at hzx
   have S1 := hd (show zL tInt x1 ≤ 1048576 by omega)
   have HC := hd (fun w g1 => toVersion_T a0 a2 a3 v1 x1 w g1 S1.out)
   have G1 := hd h1
   clear hcs hzx h1
   go_wp2_with fail
   refine (HC.out _ G1.out).mono ?_
   rintro e w2 ⟨cv, rfl, ow, b2⟩
   replace ow := tVersion_law.lt ow
   have ow2 := ow
   obtain ⟨u1, K1, rfl, o1, _⟩ := tVersion_O ow2
   obtain ⟨ua1, uc1, rfl⟩ := slO_len o1
   clear o1
   have r0 := row_turn (G := fun _ => False) hrow (turn_below b2) (fun _ _ => not_false)
   rw [HLL.out] at r0
   have q0 : ∃ x, w2.cell? ⟨w.heap.size, k * 4, none⟩ = some x := zq r0 (k * 4) (by have := HKL.out; rw [HLL.out] at this; show _ < xs.length * 4; omega)
   obtain ⟨y0, q0⟩ := q0
   have f0 := World.ownsRow.frozenAt r0 (k * 4)
   have q1 : ∃ x, w2.cell? ⟨w.heap.size, k * 4 + 1, none⟩ = some x := zq r0 (k * 4 + 1) (by have := HKL.out; rw [HLL.out] at this; show _ < xs.length * 4; omega)
   obtain ⟨y1, q1⟩ := q1
   have f1 := World.ownsRow.frozenAt r0 (k * 4 + 1)
   have q2 : ∃ x, w2.cell? ⟨w.heap.size, k * 4 + 2, none⟩ = some x := zq r0 (k * 4 + 2) (by have := HKL.out; rw [HLL.out] at this; show _ < xs.length * 4; omega)
   obtain ⟨y2, q2⟩ := q2
   have f2 := World.ownsRow.frozenAt r0 (k * 4 + 2)
   have q3 : ∃ x, w2.cell? ⟨w.heap.size, k * 4 + 3, none⟩ = some x := zq r0 (k * 4 + 3) (by have := HKL.out; rw [HLL.out] at this; show _ < xs.length * 4; omega)
   obtain ⟨y3, q3⟩ := q3
   have f3 := World.ownsRow.frozenAt r0 (k * 4 + 3)
   have b3 := hbel.trans (b2.mono hbel.size)
   have B3 := hd ((((b3.setCell (p := ⟨w.heap.size, k * 4, none⟩) (Nat.le_refl _) (.int .i64 a0)).setCell (p := ⟨w.heap.size, k * 4 + 1, none⟩) (Nat.le_refl _) (.slice ua1 x1.length uc1)).setCell (p := ⟨w.heap.size, k * 4 + 2, none⟩) (Nat.le_refl _) (.int .i64 a2)).setCell (p := ⟨w.heap.size, k * 4 + 3, none⟩) (Nat.le_refl _) (.int .i64 a3))
   have hT : Turn (fun b => b = w.heap.size ∨ Fj b ∨ wr.heap.size ≤ b) wr ((((w2.setCell ⟨w.heap.size, k * 4, none⟩ (.int .i64 a0)).setCell ⟨w.heap.size, k * 4 + 1, none⟩ (.slice ua1 x1.length uc1)).setCell ⟨w.heap.size, k * 4 + 2, none⟩ (.int .i64 a2)).setCell ⟨w.heap.size, k * 4 + 3, none⟩ (.int .i64 a3)) := (((((turn_below b2).trans (turn_set (j := k * 4) (u := .int .i64 a0) (Or.inl rfl))).trans (turn_set (j := k * 4 + 1) (u := .slice ua1 x1.length uc1) (Or.inl rfl))).trans (turn_set (j := k * 4 + 2) (u := .int .i64 a2) (Or.inl rfl))).trans (turn_set (j := k * 4 + 3) (u := .int .i64 a3) (Or.inl rfl)))
   have hT2 : Turn (fun b => b = w.heap.size) w2 ((((w2.setCell ⟨w.heap.size, k * 4, none⟩ (.int .i64 a0)).setCell ⟨w.heap.size, k * 4 + 1, none⟩ (.slice ua1 x1.length uc1)).setCell ⟨w.heap.size, k * 4 + 2, none⟩ (.int .i64 a2)).setCell ⟨w.heap.size, k * 4 + 3, none⟩ (.int .i64 a3)) := (((((Turn.refl (fun b => b = w.heap.size) _).trans (turn_set (G := fun b => b = w.heap.size) (j := k * 4) (u := .int .i64 a0) rfl)).trans (turn_set (G := fun b => b = w.heap.size) (j := k * 4 + 1) (u := .slice ua1 x1.length uc1) rfl)).trans (turn_set (G := fun b => b = w.heap.size) (j := k * 4 + 2) (u := .int .i64 a2) rfl)).trans (turn_set (G := fun b => b = w.heap.size) (j := k * 4 + 3) (u := .int .i64 a3) rfl))
   have hO2 := tVersion_law.turn ow hT2 (fun b h1 h2 => by have := h1.1; simp only [since] at this; omega)
   have r9 := (World.ownsRow.stored (World.ownsRow.stored (World.ownsRow.stored (World.ownsRow.stored r0 (k * 4) (.int .i64 a0)).1 (k * 4 + 1) (.slice ua1 x1.length uc1)).1 (k * 4 + 2) (.int .i64 a2)).1 (k * 4 + 3) (.int .i64 a3)).1
   have hLl : Lc.length = xs.length * 4 := r0.1
   have hst := hd (hput ((((w2.setCell ⟨w.heap.size, k * 4, none⟩ (.int .i64 a0)).setCell ⟨w.heap.size, k * 4 + 1, none⟩ (.slice ua1 x1.length uc1)).setCell ⟨w.heap.size, k * 4 + 2, none⟩ (.int .i64 a2)).setCell ⟨w.heap.size, k * 4 + 3, none⟩ (.int .i64 a3)) ((((Lc.set (k * 4) (.int .i64 a0)).set (k * 4 + 1) (.slice ua1 x1.length uc1)).set (k * 4 + 2) (.int .i64 a2)).set (k * 4 + 3) (.int .i64 a3)) [.int .i64 a0, .slice ua1 x1.length uc1, .int .i64 a2, .int .i64 a3] _ (a0, x1, a2, a3) (by rw [HLL.out]; exact r9) (fun p hp => by have hp2 : p < k * 4 ∨ k * 4 + 4 ≤ p := hp; rw [List.getElem?_set_ne (by omega)]; rw [List.getElem?_set_ne (by omega)]; rw [List.getElem?_set_ne (by omega)]; rw [List.getElem?_set_ne (by omega)]) (fun i hi => by have hi' : i < 4 := hi; match i, hi' with | 0, _ => (show (((((Lc.set (k * 4) (.int .i64 a0)).set (k * 4 + 1) (.slice ua1 x1.length uc1)).set (k * 4 + 2) (.int .i64 a2)).set (k * 4 + 3) (.int .i64 a3)))[k * 4]? = _; rw [List.getElem?_set_ne (by omega)]; rw [List.getElem?_set_ne (by omega)]; rw [List.getElem?_set_ne (by omega)]; rw [List.getElem?_set_self (by first | omega | (simp only [List.length_set]; omega))]; rfl) | 1, _ => (show (((((Lc.set (k * 4) (.int .i64 a0)).set (k * 4 + 1) (.slice ua1 x1.length uc1)).set (k * 4 + 2) (.int .i64 a2)).set (k * 4 + 3) (.int .i64 a3)))[k * 4 + 1]? = _; rw [List.getElem?_set_ne (by omega)]; rw [List.getElem?_set_ne (by omega)]; rw [List.getElem?_set_self (by first | omega | (simp only [List.length_set]; omega))]; rfl) | 2, _ => (show (((((Lc.set (k * 4) (.int .i64 a0)).set (k * 4 + 1) (.slice ua1 x1.length uc1)).set (k * 4 + 2) (.int .i64 a2)).set (k * 4 + 3) (.int .i64 a3)))[k * 4 + 2]? = _; rw [List.getElem?_set_ne (by omega)]; rw [List.getElem?_set_self (by first | omega | (simp only [List.length_set]; omega))]; rfl) | 3, _ => (show (((((Lc.set (k * 4) (.int .i64 a0)).set (k * 4 + 1) (.slice ua1 x1.length uc1)).set (k * 4 + 2) (.int .i64 a2)).set (k * 4 + 3) (.int .i64 a3)))[k * 4 + 3]? = _; rw [List.getElem?_set_self (by first | omega | (simp only [List.length_set]; omega))]; rfl)) hO2 (fun b hb => ⟨Nat.le_trans hbel.size hb.1, Or.inr hb.1⟩) hT)
   have hst2 : SlO 197 tVersion ((((w2.setCell ⟨w.heap.size, k * 4, none⟩ (.int .i64 a0)).setCell ⟨w.heap.size, k * 4 + 1, none⟩ (.slice ua1 x1.length uc1)).setCell ⟨w.heap.size, k * 4 + 2, none⟩ (.int .i64 a2)).setCell ⟨w.heap.size, k * 4 + 3, none⟩ (.int .i64 a3)) (since w) (.slice (some ⟨w.heap.size, 0, none⟩) xs.length xs.length) (xs.take (k + 1) ++ List.replicate (xs.length - (k + 1)) tVersion.d) := by have := hst.out; rw [HSET.out] at this; exact this
   have HST := hd hst2
   clear hst hst2 hT hT2 hO2 r9 r0 hrow hO hput hown hbel b2 ow b3 hLl hLc hFj
   go_wp2
   go_roundw
   case rel => exact ⟨k + 1, by omega, by go_num, HST.out, B3.out⟩
   case measure => simp [intOf]; omega
  ·
   obtain rfl : k = xs.length := by omega
   have HE : Hid (xs.take xs.length ++ List.replicate (xs.length - xs.length) tVersion.d = xs) := hd (by simp)
   rw [HE.out] at hown
   go_wp2
   go_ret
   exact ⟨_, rfl, hown, hbel⟩
set_option maxHeartbeats 8000000 in
theorem eqVersionS_S (v u : Value) (xs : List (Int × List Int × Int × Int)) (w : World) (h : SlR tVersion w v xs) (g : SlR tVersion w u xs) (hs : zL tVersion xs ≤ 1048576) :
  Calls Tryz.prog 192 #[v, u] w fun e w' => e = .returned (.bool true) ∧ Below w.heap.size w w' := by
 have H := hd h
 have G := hd g
 have HS := hd hs
 have hlen := zL_len hs
 obtain ⟨a, cap, rfl⟩ := slR_len h
 obtain ⟨a2, cap2, rfl⟩ := slR_len g
 clear h g hs
 go_enter Tryz.func192, Tryz.ntmps192
 go_wp2
 go_loopw [5] (fun i wr => ∃ k : Nat, k ≤ xs.length ∧ i = .int .i64 k ∧ Below w.heap.size w wr) (fun i _ => xs.length - (intOf i).toNat)
 case atStart => exact ⟨0, Nat.zero_le _, rfl, Below.refl _ _⟩
 case round =>
  obtain ⟨k, hk, rfl, hbel⟩ := hrel
  by_cases hlt : k < xs.length
  ·
   obtain ⟨b, off, cap', cs, hv, hbl, hcs, hR⟩ := slR_at (slR_below tVersion_law H.out hbel) hlt
   simp only [Value.slice.injEq] at hv
   obtain ⟨rfl, _, rfl⟩ := hv
   obtain ⟨b2, off2, cap2', ds, hv2, hbl2, hds, hQ⟩ := slR_at (slR_below tVersion_law G.out hbel) hlt
   simp only [Value.slice.injEq] at hv2
   obtain ⟨rfl, _, rfl⟩ := hv2
   have hzx := zL_at HS.out hlt
   have i1 : (0 : Int) ≤ (k : Int) := by omega
   have i2 : (k : Int) < (xs.length : Int) := by omega
   generalize xs.getD k tVersion.d = x at *
   obtain ⟨a0, x1, a2, a3⟩ := x
   obtain ⟨v1, hR'⟩ := tVersion_R hR
   obtain ⟨rfl, h1⟩ := hR'
   obtain ⟨u1, hQ'⟩ := tVersion_R hQ
   obtain ⟨rfl, g1⟩ := hQ'
   rw [tVersion_sz] at hzx
   have S1 := hd (show zL tInt x1 ≤ 1048576 by omega)
   have p0 : wr.cell? ⟨b, off + k * 4, none⟩ = some (Value.int .i64 a0) := hcs 0 (by decide)
   have q0 : wr.cell? ⟨b2, off2 + k * 4, none⟩ = some (Value.int .i64 a0) := hds 0 (by decide)
   have p1 : wr.cell? ⟨b, off + k * 4 + 1, none⟩ = some (v1) := hcs 1 (by decide)
   have q1 : wr.cell? ⟨b2, off2 + k * 4 + 1, none⟩ = some (u1) := hds 1 (by decide)
   have p2 : wr.cell? ⟨b, off + k * 4 + 2, none⟩ = some (Value.int .i64 a2) := hcs 2 (by decide)
   have q2 : wr.cell? ⟨b2, off2 + k * 4 + 2, none⟩ = some (Value.int .i64 a2) := hds 2 (by decide)
   have p3 : wr.cell? ⟨b, off + k * 4 + 3, none⟩ = some (Value.int .i64 a3) := hcs 3 (by decide)
   have q3 : wr.cell? ⟨b2, off2 + k * 4 + 3, none⟩ = some (Value.int .i64 a3) := hds 3 (by decide)
   clear hcs hds hzx
   go_wp2
   go_region_with (first | (go_at_call 226; refine (eqVersion_T a0 a2 a3 v1 x1 u1 _ (by exact slR_same tInt_law h1 rfl rfl rfl rfl) (by exact slR_same tInt_law g1 rfl rfl rfl rfl) S1.out).mono ?_; rintro e w8 ⟨rfl, b9⟩; have b10 : Below wr.heap.size wr w8 := ⟨b9.os, b9.tape, b9.output, b9.size, b9.block⟩))
   all_goals
    have b11 := hbel.trans (b10.mono hbel.size)
    go_wp2
    go_roundw
    case rel => exact ⟨k + 1, by omega, by go_num, b11⟩
    case measure => simp [intOf]; omega
  ·
   go_wp2
   go_ret
   exact ⟨rfl, hbel⟩
set_option maxHeartbeats 8000000 in
theorem markVersionS_S (v : Value) (xs : List (Int × List Int × Int × Int)) (F : Nat → Prop) (k : Int) (w : World) (h : SlO 197 tVersion w F v xs) (hs : zL tVersion xs ≤ 1048576) (k0 : 0 ≤ k) (k1 : k ≤ 1006632960) :
  Calls Tryz.prog 194 #[v, .int .i64 k] w fun e w' => e = .returned (.int .i64 (k + (ndL tVersion xs : Int))) ∧ SlO 197 tVersion w' F v (mAll tVersion xs k) ∧ Turn F w w' := by
 rw [← kAt_all]
 have HS := hd hs
 have hlen := zL_len hs
 rcases slO_form h with ⟨rfl, rfl⟩ | ⟨g, cap, rfl, hFg, hgw⟩
 ·
  have H := hd h
  clear h hs
  go_enter Tryz.func194, Tryz.ntmps194
  go_wp2
  go_loop [1, 5] (fun m i => i = .int .i64 0 ∧ m = .int .i64 k) (fun _ _ => 0)
  case atStart => exact ⟨rfl, rfl⟩
  case round =>
   obtain ⟨rfl, rfl⟩ := hrel
   go_wp2
   go_ret
   exact ⟨by simp [kAt, sumN], by rw [show mAll tVersion [] k = [] from rfl]; exact H.out, Turn.refl _ _⟩
 ·
  have H := hd h
  clear h hs
  go_enter Tryz.func194, Tryz.ntmps194
  go_wp2
  go_loopw [1, 5] (fun m i wr => ∃ j : Nat, j ≤ xs.length ∧ i = .int .i64 j ∧ m = .int .i64 (kAt tVersion xs k j) ∧ SlO 197 tVersion wr (fun b => F b ∧ b < w.heap.size) (.slice (some ⟨g, 0, none⟩) xs.length cap) (mTo tVersion xs k j) ∧ Turn F w wr) (fun _ i _ => xs.length - (intOf i).toNat)
  case atStart => exact ⟨0, Nat.zero_le _, rfl, by rw [kAt_zero], by rw [mTo_zero]; exact slO_lt tVersion_law H.out, Turn.refl _ _⟩
  case round =>
   obtain ⟨j, hj, rfl, rfl, hown, hon⟩ := hrel
   by_cases hlt : j < xs.length
   ·
    have i1 : (0 : Int) ≤ (j : Int) := by omega
    have i2 : (j : Int) < (xs.length : Int) := by omega
    have hjl : j < (mTo tVersion xs k j).length := by rw [mTo_len hj]; exact hlt
    have HLL := hd (mTo_len (T := tVersion) (k := k) hj)
    obtain ⟨r1, r2⟩ := kAt_range tVersion_law (by decide) (k := k) HS.out hj
    obtain ⟨r3, r4⟩ := kAt_range tVersion_law (by decide) (k := k) (j := j + 1) HS.out (by omega)
    have hzx := zL_at HS.out hlt
    have hstep := kAt_step (T := tVersion) (k := k) hlt
    have hset := mTo_step (T := tVersion) (k := k) hlt
    have hsz := hon.size
    obtain ⟨hme, hFg2, hgl, cj, Fj, Lc, hrow, hLc, hO, hFj, hput⟩ := slO_open tVersion_law hown hjl
    clear hme hFg2
    rw [mTo_at hlt] at hO
    have HM : Hid (∃ m', kAt tVersion xs k (j + 1) = m') := hd ⟨_, rfl⟩
    obtain ⟨m', hm'⟩ := HM.out
    rw [hm'] at hstep r3 r4
    have HM' := hd hm'
    clear hm' HM H hown hjl
    generalize kAt tVersion xs k j = m at *
    generalize xs.getD j tVersion.d = x at *
    rw [HLL.out] at hrow hput
    obtain ⟨a0, x1, a2, a3⟩ := x
    rw [tVersion_md] at hset
    rw [tVersion_nd] at hstep
    rw [tVersion_sz] at hzx
    obtain ⟨v1, K1, rfl, o1, q1⟩ := tVersion_O hO
    have S1 := hd (show zL tInt x1 ≤ 1048576 by omega)
    have N1 := ndL_le tInt_law (by decide) x1
    have R1 : Hid (0 ≤ m + 1 ∧ m + 1 ≤ 1073741824) := hd (by omega)
    have hmx : m + 1 + (ndL tInt x1 : Int) + 1 + 1 ≤ 1073741824 := by omega
    have hmm : m + 1 + (ndL tInt x1 : Int) + 1 + 1 = m' := by omega
    have HMM := hd hmm
    have hm0 : 0 ≤ m := by omega
    have hm1 : m ≤ 1073741824 := by omega
    clear hmm hstep hzx N1
    have hLl : Lc.length = xs.length * 4 := hrow.1
    have HSET := hd hset
    clear hset
    have tt : Turn (fun b => b = g ∨ Fj b ∨ wr.heap.size ≤ b) wr wr := Turn.refl _ _
    have rr := hrow
    have c0 : ∃ x, wr.cell? ⟨g, j * 4, none⟩ = some x := ⟨_, (World.ownsRow.cellAt rr (j * 4) (by show j * 4 < xs.length * 4; omega)).trans (List.getElem?_eq_getElem (by have h9 := rr.1; have h8 : xs.length * tVersion.n = xs.length * 4 := rfl; omega))⟩
    obtain ⟨y0, c0⟩ := c0
    have f0 := World.ownsRow.frozenAt rr (j * 4)
    have cv1 : wr.cell? ⟨g, j * 4 + 1, none⟩ = some v1 := (World.ownsRow.cellAt rr (j * 4 + 1) (by show j * 4 + 1 < xs.length * 4; omega)).trans (by exact hLc 1 (by decide))
    go_wp2_with fail
    clear c0 f0 cv1
    have ts : Turn (fun b => b = g) wr (wr.setCell ⟨g, j * 4, none⟩ (.int .i64 (m))) := ((Turn.refl (fun b => b = g) _).trans (turn_set (G := fun b => b = g) (g := g) (j := j * 4) (u := .int .i64 (m)) rfl))
    replace rr := (World.ownsRow.stored rr (j * 4) (.int .i64 (m))).1
    replace o1 := slO_turn tInt_law o1 ts (fun b h1 h2 => (hFj b (q1 b h1)).2.1 h2)
    replace tt := tt.trans (ts.mono (fun b h => Or.inl h))
    clear ts
    generalize (wr.setCell ⟨g, j * 4, none⟩ (.int .i64 (m))) = W0 at *
    refine (markIntS_S v1 x1 _ (m + 1) W0 o1 S1.out R1.out.1 (by have := R1.out.2; omega)).mono ?_
    rintro e w1 ⟨rfl, m1, t1⟩
    replace rr := row_turn rr t1 (fun b hb h => by simp [Value.ownBlock] at hb; exact (hFj b (q1 b h)).2.1 hb.symm)
    replace o1 := m1
    replace tt := tt.trans (t1.mono (fun b h => Or.inr (Or.inl (q1 b h))))
    clear t1
    have c2 : ∃ x, w1.cell? ⟨g, j * 4 + 2, none⟩ = some x := ⟨_, (World.ownsRow.cellAt rr (j * 4 + 2) (by show j * 4 + 2 < xs.length * 4; omega)).trans (List.getElem?_eq_getElem (by have h9 := rr.1; have h8 : xs.length * tVersion.n = xs.length * 4 := rfl; omega))⟩
    obtain ⟨y2, c2⟩ := c2
    have f2 := World.ownsRow.frozenAt rr (j * 4 + 2)
    have c3 : ∃ x, w1.cell? ⟨g, j * 4 + 3, none⟩ = some x := ⟨_, (World.ownsRow.cellAt rr (j * 4 + 3) (by show j * 4 + 3 < xs.length * 4; omega)).trans (List.getElem?_eq_getElem (by have h9 := rr.1; have h8 : xs.length * tVersion.n = xs.length * 4 := rfl; omega))⟩
    obtain ⟨y3, c3⟩ := c3
    have f3 := World.ownsRow.frozenAt rr (j * 4 + 3)
    go_wp2
    clear c2 f2 c3 f3
    have ts : Turn (fun b => b = g) w1 ((w1.setCell ⟨g, j * 4 + 2, none⟩ (.int .i64 (m + 1 + (ndL tInt x1 : Int)))).setCell ⟨g, j * 4 + 3, none⟩ (.int .i64 (m + 1 + (ndL tInt x1 : Int) + 1))) := (((Turn.refl (fun b => b = g) _).trans (turn_set (G := fun b => b = g) (g := g) (j := j * 4 + 2) (u := .int .i64 (m + 1 + (ndL tInt x1 : Int))) rfl)).trans (turn_set (G := fun b => b = g) (g := g) (j := j * 4 + 3) (u := .int .i64 (m + 1 + (ndL tInt x1 : Int) + 1)) rfl))
    replace rr := (World.ownsRow.stored (World.ownsRow.stored rr (j * 4 + 2) (.int .i64 (m + 1 + (ndL tInt x1 : Int)))).1 (j * 4 + 3) (.int .i64 (m + 1 + (ndL tInt x1 : Int) + 1))).1
    replace o1 := slO_turn tInt_law o1 ts (fun b h1 h2 => (hFj b (q1 b h1)).2.1 h2)
    replace tt := tt.trans (ts.mono (fun b h => Or.inl h))
    clear ts
    have hO2 := tVersion_mkO (F := Fj) (a0 := m) (a2 := m + 1 + (ndL tInt x1 : Int)) (a3 := m + 1 + (ndL tInt x1 : Int) + 1) o1 q1 
    have hst := hput ((w1.setCell ⟨g, j * 4 + 2, none⟩ (.int .i64 (m + 1 + (ndL tInt x1 : Int)))).setCell ⟨g, j * 4 + 3, none⟩ (.int .i64 (m + 1 + (ndL tInt x1 : Int) + 1))) (((Lc.set (j * 4) (.int .i64 (m))).set (j * 4 + 2) (.int .i64 (m + 1 + (ndL tInt x1 : Int)))).set (j * 4 + 3) (.int .i64 (m + 1 + (ndL tInt x1 : Int) + 1))) [.int .i64 (m), v1, .int .i64 (m + 1 + (ndL tInt x1 : Int)), .int .i64 (m + 1 + (ndL tInt x1 : Int) + 1)] Fj _ rr (fun p hp => by have hp2 : p < j * 4 ∨ j * 4 + 4 ≤ p := hp; rw [List.getElem?_set_ne (by omega)]; rw [List.getElem?_set_ne (by omega)]; rw [List.getElem?_set_ne (by omega)]) (fun i hi => by have hi' : i < 4 := hi; match i, hi' with | 0, _ => (show ((((Lc.set (j * 4) (.int .i64 (m))).set (j * 4 + 2) (.int .i64 (m + 1 + (ndL tInt x1 : Int)))).set (j * 4 + 3) (.int .i64 (m + 1 + (ndL tInt x1 : Int) + 1))))[j * 4]? = _; rw [List.getElem?_set_ne (by omega)]; rw [List.getElem?_set_ne (by omega)]; rw [List.getElem?_set_self (by first | omega | (simp only [List.length_set]; omega))]; rfl) | 1, _ => (show ((((Lc.set (j * 4) (.int .i64 (m))).set (j * 4 + 2) (.int .i64 (m + 1 + (ndL tInt x1 : Int)))).set (j * 4 + 3) (.int .i64 (m + 1 + (ndL tInt x1 : Int) + 1))))[j * 4 + 1]? = _; rw [List.getElem?_set_ne (by omega)]; rw [List.getElem?_set_ne (by omega)]; rw [List.getElem?_set_ne (by omega)]; exact hLc 1 (by decide)) | 2, _ => (show ((((Lc.set (j * 4) (.int .i64 (m))).set (j * 4 + 2) (.int .i64 (m + 1 + (ndL tInt x1 : Int)))).set (j * 4 + 3) (.int .i64 (m + 1 + (ndL tInt x1 : Int) + 1))))[j * 4 + 2]? = _; rw [List.getElem?_set_ne (by omega)]; rw [List.getElem?_set_self (by first | omega | (simp only [List.length_set]; omega))]; rfl) | 3, _ => (show ((((Lc.set (j * 4) (.int .i64 (m))).set (j * 4 + 2) (.int .i64 (m + 1 + (ndL tInt x1 : Int)))).set (j * 4 + 3) (.int .i64 (m + 1 + (ndL tInt x1 : Int) + 1))))[j * 4 + 3]? = _; rw [List.getElem?_set_self (by first | omega | (simp only [List.length_set]; omega))]; rfl)) hO2 (fun b hb => ⟨(hFj b hb).1, Or.inl hb⟩) tt
    rw [HSET.out] at hst
    have HST := hd hst
    have hon2 := hon.trans (Turn.mono (G := fun b => F b ∧ b < w.heap.size) (G' := F) ⟨tt.os, tt.tape, tt.output, tt.size, fun b hb hn => tt.block b hb (fun h => hn (h.elim (fun h => by rw [h]; exact ⟨hFg, hgw⟩) (fun h => h.elim (fun h => (hFj b h).1) (fun h => absurd hb (Nat.not_lt.2 h)))))⟩ (fun b h => h.1))
    clear hst hput tt rr hO2 hon hFj hLc hLl o1
    go_roundw
    case rel => exact ⟨j + 1, by omega, by go_num, by rw [HMM.out]; rw [HM'.out], HST.out, hon2⟩
    case measure => simp [intOf]; omega
   ·
    obtain rfl : j = xs.length := by omega
    rw [mTo_all] at hown
    go_wp2
    go_ret
    exact ⟨rfl, slO_mono hown (fun b h => h.1), hon⟩
abbrev tVersionSS : Ty (List (List (Int × List Int × Int × Int))) := tSl 198 tVersionS
theorem tVersionSS_law : tVersionSS.Law := tSl_law tVersionS_law (by decide)
set_option maxHeartbeats 8000000 in
theorem szVersionSS_Y (v : Value) (xs : List (List (Int × List Int × Int × Int))) (k0 : Int) (w : World) (h : SlR tVersionS w v xs) (hs : ((zL tVersionS xs : Nat) : Int) ≤ k0) (hk : k0 ≤ 1048576) :
  Calls Tryz.prog 109 #[v, .int .i64 k0] w fun e w' => e = .returned (.int .i64 (k0 - ((zL tVersionS xs : Nat) : Int))) ∧ Below w.heap.size w w' := by
 have H := hd h
 obtain ⟨a, cap, rfl⟩ := slR_len h
 clear h
 have h00 := zTo_le (T := tVersionS) (xs := xs) (Nat.zero_le _)
 rw [zTo_zero] at h00
 have HS := hd hs
 go_enter Tryz.func109, Tryz.ntmps109
 have hneg : ¬ k0 - (xs.length : Int) < 0 := by omega
 go_wp2
 clear hneg
 go_loopw [1, 5] (fun l i wr => ∃ k : Nat, k ≤ xs.length ∧ i = .int .i64 k ∧ l = .int .i64 (k0 - (zTo tVersionS xs k : Int)) ∧ Below w.heap.size w wr) (fun _ i _ => xs.length - (intOf i).toNat)
 case atStart => exact ⟨0, Nat.zero_le _, rfl, by rw [zTo_zero], Below.refl _ _⟩
 case round =>
  obtain ⟨k, hk', rfl, rfl, hbel⟩ := hrel
  by_cases hlt : k < xs.length
  ·
   have HST := hd (zTo_step (T := tVersionS) hlt)
   have HLE := hd (zTo_le (T := tVersionS) (xs := xs) (k := k + 1) (by omega))
   have i1 : (0 : Int) ≤ (k : Int) := by omega
   have i2 : (k : Int) < (xs.length : Int) := by omega
   obtain ⟨b, off, cap', cs, hv, hbl, hcs, hR⟩ := slR_at (slR_below tVersionS_law H.out hbel) hlt
   simp only [Value.slice.injEq] at hv
   obtain ⟨rfl, _, rfl⟩ := hv
   generalize xs.getD k tVersionS.d = x at *
   obtain ⟨u, rfl, hR'⟩ := hR
   have p0 : wr.cell? ⟨b, off + k, none⟩ = some u := by have := hcs 0 Nat.one_pos; rw [show tVersionS.n = 1 from rfl, Nat.mul_one, Nat.add_zero] at this; exact this
   clear hcs
   have HQ : Hid (tVersionS.sz x = zL tVersion x) := hd rfl
   have hx1 : ((zL tVersion x : Nat) : Int) ≤ k0 - (zTo tVersionS xs k : Int) := by have := HST.out; have := HLE.out; have := HQ.out; omega
   have hx2 : k0 - (zTo tVersionS xs k : Int) ≤ 1048576 := by omega
   have hneg : ¬ k0 - (zTo tVersionS xs k : Int) - ((zL tVersion x : Nat) : Int) < 0 := by omega
   have HC := hd (fun W b => szVersionS_Y u x (k0 - (zTo tVersionS xs k : Int)) W (slR_below tVersion_law hR' b) hx1 hx2)
   go_wp2_with fail
   refine (HC.out _ (Below.refl _ _)).mono ?_
   rintro e w1 ⟨rfl, b1⟩
   have b2 := hbel.trans (b1.mono hbel.size)
   go_wp2
   go_roundw
   case rel => exact ⟨k + 1, by omega, by go_num, by rw [HST.out, HQ.out]; go_num, b2⟩
   case measure => simp [intOf]; omega
  ·
   obtain rfl : k = xs.length := by omega
   go_wp2
   go_ret
   exact ⟨rfl, hbel⟩
set_option maxHeartbeats 8000000 in
theorem szVersionSS_N (v : Value) (xs : List (List (Int × List Int × Int × Int))) (k0 : Int) (w : World) (h : SlR tVersionS w v xs) (hs : k0 < ((zL tVersionS xs : Nat) : Int)) (hk : k0 ≤ 1048576) (hp : 0 ≤ k0) (ho : tVersionSS.ok xs) :
  Calls Tryz.prog 109 #[v, .int .i64 k0] w fun e w' => e = .returned (.int .i64 (-1)) ∧ Below w.heap.size w w' := by
 have H := hd h
 have HX := hd ho.2
 have hn := ho.1
 have HS := hd hs
 obtain ⟨a, cap, rfl⟩ := slR_len h
 clear h ho hs
 by_cases h1 : k0 < (xs.length : Int)
 ·
  have hneg : k0 - (xs.length : Int) < 0 := by omega
  go_enter Tryz.func109, Tryz.ntmps109
  go_wp2
  go_ret
  exact ⟨rfl, Below.refl _ _⟩
 ·
  go_enter Tryz.func109, Tryz.ntmps109
  have hneg : ¬ k0 - (xs.length : Int) < 0 := by omega
  go_wp2
  clear hneg
  go_loopw [1, 5] (fun l i wr => ∃ k : Nat, k ≤ xs.length ∧ i = .int .i64 k ∧ l = .int .i64 (k0 - (zTo tVersionS xs k : Int)) ∧ (zTo tVersionS xs k : Int) ≤ k0 ∧ Below w.heap.size w wr) (fun _ i _ => xs.length - (intOf i).toNat)
  case atStart => exact ⟨0, Nat.zero_le _, rfl, by rw [zTo_zero], by rw [zTo_zero]; omega, Below.refl _ _⟩
  case round =>
   obtain ⟨k, hk', rfl, rfl, hle, hbel⟩ := hrel
   by_cases hlt : k < xs.length
   ·
    have HST := hd (zTo_step (T := tVersionS) hlt)
    have hx := HX.out k hlt
    have i1 : (0 : Int) ≤ (k : Int) := by omega
    have i2 : (k : Int) < (xs.length : Int) := by omega
    obtain ⟨b, off, cap', cs, hv, hbl, hcs, hR⟩ := slR_at (slR_below tVersionS_law H.out hbel) hlt
    simp only [Value.slice.injEq] at hv
    obtain ⟨rfl, _, rfl⟩ := hv
    generalize xs.getD k tVersionS.d = x at *
    obtain ⟨u, rfl, hR'⟩ := hR
    have p0 : wr.cell? ⟨b, off + k, none⟩ = some u := by have := hcs 0 Nat.one_pos; rw [show tVersionS.n = 1 from rfl, Nat.mul_one, Nat.add_zero] at this; exact this
    clear hcs
    have HQ : Hid (tVersionS.sz x = zL tVersion x) := hd rfl
    have hz0 : (0 : Int) ≤ (zTo tVersionS xs k : Int) := by omega
    by_cases hg : ((zL tVersion x : Nat) : Int) ≤ k0 - (zTo tVersionS xs k : Int)
    ·
     have hx2 : k0 - (zTo tVersionS xs k : Int) ≤ 1048576 := by omega
     have hneg : ¬ k0 - (zTo tVersionS xs k : Int) - ((zL tVersion x : Nat) : Int) < 0 := by omega
     have HC := hd (fun W b => szVersionS_Y u x (k0 - (zTo tVersionS xs k : Int)) W (slR_below tVersion_law hR' b) hg hx2)
     go_wp2_with fail
     refine (HC.out _ (Below.refl _ _)).mono ?_
     rintro e w1 ⟨rfl, b1⟩
     have b2 := hbel.trans (b1.mono hbel.size)
     go_wp2
     go_roundw
     case rel => exact ⟨k + 1, by omega, by go_num, by rw [HST.out, HQ.out]; go_num, by rw [HST.out, HQ.out]; omega, b2⟩
     case measure => simp [intOf]; omega
    ·
     have hx1 : k0 - (zTo tVersionS xs k : Int) < ((zL tVersion x : Nat) : Int) := by omega
     have hx0 : 0 ≤ k0 - (zTo tVersionS xs k : Int) := by omega
     have hx2 : k0 - (zTo tVersionS xs k : Int) ≤ 1048576 := by omega
     have HC := hd (fun W b => szVersionS_N u x (k0 - (zTo tVersionS xs k : Int)) W (slR_below tVersion_law hR' b) hx1 hx2 hx0 hx)
     clear hg
     go_wp2_with fail
     refine (HC.out _ (Below.refl _ _)).mono ?_
     rintro e w1 ⟨rfl, b1⟩
     have b2 := hbel.trans (b1.mono hbel.size)
     go_wp2
     go_ret
     exact ⟨rfl, b2⟩
   ·
    obtain rfl : k = xs.length := by omega
    exact absurd HS.out (by show ¬ k0 < ((zTo tVersionS xs xs.length : Nat) : Int); omega)
theorem Tryz.info_VersionS : (Tryz.prog.info? 198).map (fun i => (i.zero, i.size)) = some (some (.slice none 0 0), 1) := by kernel_rfl
theorem Tryz.bytes_VersionS : ((Tryz.prog.info? 198).map (fun i => decide (i.bytes ≤ 512))) = some true := by kernel_rfl
theorem tVersionS_zero (w : World) : tVersionS.O w (fun _ => False) #[.slice none 0 0].toList tVersionS.d := ⟨_, rfl, slO_nil _ _ _ _⟩
set_option maxHeartbeats 8000000 in
theorem toVersionSS_S (v : Value) (xs : List (List (Int × List Int × Int × Int))) (w : World) (h : SlR tVersionS w v xs) (hs : zL tVersionS xs ≤ 1048576) :
  Calls Tryz.prog 118 #[v] w (FreshS 198 tVersionS w xs) := by
 obtain ⟨i0, hi, hz0, hz1⟩ : ∃ i0, Tryz.prog.info? 198 = some i0 ∧ i0.zero = some (.slice none 0 0) ∧ i0.size = 1 := by
  have h0 := Tryz.info_VersionS
  cases q : Tryz.prog.info? 198 with
  | none => rw [q] at h0; simp at h0
  | some i => rw [q] at h0; simp only [Option.map_some, Option.some.injEq, Prod.mk.injEq] at h0; exact ⟨i, rfl, h0.1, h0.2⟩
 have hz2 : i0.bytes ≤ 512 := by
  have h0 := Tryz.bytes_VersionS
  rw [hi] at h0
  simpa using h0
 have HI := hd hi; have HZ0 := hd hz0; have HZ1 := hd hz1; have HZ2 := hd hz2
 clear hi hz0 hz1 hz2
 have H := hd h
 have hlen := zL_len hs
 have HS := hd hs
 obtain ⟨a, cap, rfl⟩ := slR_len h
 clear h hs
 go_enter Tryz.func118, Tryz.ntmps118
 go_wp2_with (at_make; refine wpList_make_full _ rfl (.tmp 6) (.tmp 6) 33 rfl w.heap.size 198 i0 (.slice none 0 0) 1 Tryz.underlying33 HI.out HZ0.out HZ1.out _ _ _ _ xs.length rfl rfl rfl rfl (by have h9 := Nat.mul_le_mul HZ2.out hlen; have h8 := Nat.mul_le_mul hlen HZ2.out; omega) (by unfold maxLen; omega) (Nat.le_refl _) ?_)
 intro w1 hown0 hg0
 have hown1 : SlO 198 tVersionS w1 (since w) (.slice (some ⟨w.heap.size, 0, none⟩) xs.length xs.length) (List.replicate xs.length tVersionS.d) := slO_made (z := #[.slice none 0 0]) tVersionS_law rfl (tVersionS_zero w1) (Nat.le_refl _) (by rw [show xs.length * tVersionS.n = xs.length from Nat.mul_one _]; exact hown0)
 have hbel1 := (Below.refl w.heap.size w).grown hg0 (Nat.le_refl _) (fun k hk => by cases hk)
 clear hown0 hg0
 go_wp2
 go_loopw [4] (fun i wr => ∃ k : Nat, k ≤ xs.length ∧ i = .int .i64 k ∧ SlO 198 tVersionS wr (since w) (.slice (some ⟨w.heap.size, 0, none⟩) xs.length xs.length) (xs.take k ++ List.replicate (xs.length - k) tVersionS.d) ∧ Below w.heap.size w wr) (fun i _ => xs.length - (intOf i).toNat)
 case atStart => exact ⟨0, Nat.zero_le _, rfl, by simpa using hown1, hbel1⟩
 case round =>
  obtain ⟨k, hk, rfl, hown, hbel⟩ := hrel
  by_cases hlt : k < xs.length
  ·
   have HSET := hd (cTo_step (d := tVersionS.d) hlt)
   have HKL : Hid (k < (xs.take k ++ List.replicate (xs.length - k) tVersionS.d).length) := hd (by rw [cTo_len hk]; exact hlt)
   have HLL := hd (cTo_len (d := tVersionS.d) hk)
   have i1 : (0 : Int) ≤ (k : Int) := by omega
   have i2 : (k : Int) < (xs.length : Int) := by omega
   have hzx := zL_at HS.out hlt
   obtain ⟨b, off, cap', cs, hv, hbl, hcs, hR⟩ := slR_at (slR_below tVersionS_law H.out hbel) hlt
   simp only [Value.slice.injEq] at hv
   obtain ⟨rfl, _, rfl⟩ := hv
   obtain ⟨hme, hFg, hgl, cj, Fj, Lc, hrow, hLc, hO, hFj, hput⟩ := slO_open tVersionS_law hown HKL.out
   clear hme
   clear hown1 hbel1
   generalize xs.getD k tVersionS.d = x at *
   generalize xs.take k ++ List.replicate (xs.length - k) tVersionS.d = ys at *
   obtain ⟨u, rfl, h0⟩ := hR
   have p0 : wr.cell? ⟨b, off + k, none⟩ = some u := by have := hcs 0 Nat.one_pos; rw [show tVersionS.n = 1 from rfl, Nat.mul_one, Nat.add_zero] at this; exact this
   have HC := hd (fun w g => toVersionS_S u x w g hzx)
   have G0 := hd h0
   clear hcs h0
   go_wp2_with fail
   refine (HC.out _ G0.out).mono ?_
   rintro e w2 ⟨u2, rfl, ow0, b2⟩
   replace ow0 := slO_lt tVersion_law ow0
   obtain ⟨ua, uc, rfl⟩ := slO_len ow0
   have ow : tVersionS.O w2 (fun b => since wr b ∧ b < w2.heap.size) [.slice ua x.length uc] x := ⟨_, rfl, ow0⟩
   have r0 := row_turn (G := fun _ => False) hrow (turn_below b2) (fun _ _ => not_false)
   rw [HLL.out] at r0
   have q0 : ∃ x, w2.cell? ⟨w.heap.size, k, none⟩ = some x := zq r0 (k) (by have := HKL.out; rw [HLL.out] at this; show _ < xs.length * 1; omega)
   obtain ⟨y0, q0⟩ := q0
   have f0 := World.ownsRow.frozenAt r0 (k)
   have b3 := hbel.trans (b2.mono hbel.size)
   have B3 := hd (b3.setCell (p := ⟨w.heap.size, k, none⟩) (Nat.le_refl _) (.slice ua x.length uc))
   have hT : Turn (fun b => b = w.heap.size ∨ Fj b ∨ wr.heap.size ≤ b) wr (w2.setCell ⟨w.heap.size, k, none⟩ (.slice ua x.length uc)) := ((turn_below b2).trans (turn_set (j := k) (u := .slice ua x.length uc) (Or.inl rfl)))
   have hT2 : Turn (fun b => b = w.heap.size) w2 (w2.setCell ⟨w.heap.size, k, none⟩ (.slice ua x.length uc)) := ((Turn.refl (fun b => b = w.heap.size) _).trans (turn_set (G := fun b => b = w.heap.size) (j := k) (u := .slice ua x.length uc) rfl))
   have hO2 := tVersionS_law.turn ow hT2 (fun b h1 h2 => by have := h1.1; simp only [since] at this; omega)
   have r9 := (World.ownsRow.stored r0 (k) (.slice ua x.length uc)).1
   have hLl : Lc.length = xs.length * 1 := r0.1
   have hst := hd (hput (w2.setCell ⟨w.heap.size, k, none⟩ (.slice ua x.length uc)) (Lc.set (k) (.slice ua x.length uc)) [.slice ua x.length uc] _ x (by rw [HLL.out]; exact r9) (fun p hp => by have hp2 : p < k * 1 ∨ k * 1 + 1 ≤ p := hp; rw [List.getElem?_set_ne (by omega)]) (fun i hi => by have hi2 : i < 1 := hi; obtain rfl : i = 0 := (by omega); have e0 : k * tVersionS.n + 0 = k := (by show k * 1 + 0 = k; omega); rw [e0]; exact List.getElem?_set_self (by omega)) hO2 (fun b hb => ⟨Nat.le_trans hbel.size hb.1, Or.inr hb.1⟩) hT)
   have hst2 : SlO 198 tVersionS (w2.setCell ⟨w.heap.size, k, none⟩ (.slice ua x.length uc)) (since w) (.slice (some ⟨w.heap.size, 0, none⟩) xs.length xs.length) (xs.take (k + 1) ++ List.replicate (xs.length - (k + 1)) tVersionS.d) := by have := hst.out; rw [HSET.out] at this; exact this
   have HST := hd hst2
   clear hst hst2 hT hT2 hO2 r9 r0 hrow hO hput hown hbel b2 ow b3 hLl hLc hFj
   go_wp2
   go_roundw
   case rel => exact ⟨k + 1, by omega, by go_num, HST.out, B3.out⟩
   case measure => simp [intOf]; omega
  ·
   obtain rfl : k = xs.length := by omega
   have HE : Hid (xs.take xs.length ++ List.replicate (xs.length - xs.length) tVersionS.d = xs) := hd (by simp)
   rw [HE.out] at hown
   go_wp2
   go_ret
   exact ⟨_, rfl, hown, hbel⟩
set_option maxHeartbeats 8000000 in
theorem eqVersionSS_S (v u : Value) (xs : List (List (Int × List Int × Int × Int))) (w : World) (h : SlR tVersionS w v xs) (g : SlR tVersionS w u xs) (hs : zL tVersionS xs ≤ 1048576) :
  Calls Tryz.prog 130 #[v, u] w fun e w' => e = .returned (.bool true) ∧ Below w.heap.size w w' := by
 have H := hd h
 have G := hd g
 have HS := hd hs
 have hlen := zL_len hs
 obtain ⟨a, cap, rfl⟩ := slR_len h
 obtain ⟨a2, cap2, rfl⟩ := slR_len g
 clear h g hs
 go_enter Tryz.func130, Tryz.ntmps130
 go_wp2
 go_loopw [5] (fun i wr => ∃ k : Nat, k ≤ xs.length ∧ i = .int .i64 k ∧ Below w.heap.size w wr) (fun i _ => xs.length - (intOf i).toNat)
 case atStart => exact ⟨0, Nat.zero_le _, rfl, Below.refl _ _⟩
 case round =>
  obtain ⟨k, hk, rfl, hbel⟩ := hrel
  by_cases hlt : k < xs.length
  ·
   obtain ⟨b, off, cap', cs, hv, hbl, hcs, hR⟩ := slR_at (slR_below tVersionS_law H.out hbel) hlt
   simp only [Value.slice.injEq] at hv
   obtain ⟨rfl, _, rfl⟩ := hv
   obtain ⟨b2, off2, cap2', ds, hv2, hbl2, hds, hQ⟩ := slR_at (slR_below tVersionS_law G.out hbel) hlt
   simp only [Value.slice.injEq] at hv2
   obtain ⟨rfl, _, rfl⟩ := hv2
   have hzx := zL_at HS.out hlt
   have i1 : (0 : Int) ≤ (k : Int) := by omega
   have i2 : (k : Int) < (xs.length : Int) := by omega
   generalize xs.getD k tVersionS.d = x at *
   obtain ⟨u1, rfl, h0⟩ := hR
   obtain ⟨u2, rfl, g0⟩ := hQ
   have p0 : wr.cell? ⟨b, off + k, none⟩ = some u1 := by have := hcs 0 Nat.one_pos; rw [show tVersionS.n = 1 from rfl, Nat.mul_one, Nat.add_zero] at this; exact this
   have q0 : wr.cell? ⟨b2, off2 + k, none⟩ = some u2 := by have := hds 0 Nat.one_pos; rw [show tVersionS.n = 1 from rfl, Nat.mul_one, Nat.add_zero] at this; exact this
   have S0 := hd hzx
   clear hcs hds hzx
   go_wp2
   go_region_with (first | (go_at_call 192; refine (eqVersionS_S u1 u2 x _ (by exact slR_same tVersion_law h0 rfl rfl rfl rfl) (by exact slR_same tVersion_law g0 rfl rfl rfl rfl) S0.out).mono ?_; rintro e w8 ⟨rfl, b9⟩; have b10 : Below wr.heap.size wr w8 := ⟨b9.os, b9.tape, b9.output, b9.size, b9.block⟩))
   all_goals
    have b11 := hbel.trans (b10.mono hbel.size)
    go_wp2
    go_roundw
    case rel => exact ⟨k + 1, by omega, by go_num, b11⟩
    case measure => simp [intOf]; omega
  ·
   go_wp2
   go_ret
   exact ⟨rfl, hbel⟩
set_option maxHeartbeats 8000000 in
theorem markVersionSS_S (v : Value) (xs : List (List (Int × List Int × Int × Int))) (F : Nat → Prop) (k : Int) (w : World) (h : SlO 198 tVersionS w F v xs) (hs : zL tVersionS xs ≤ 1048576) (k0 : 0 ≤ k) (k1 : k ≤ 939524096) :
  Calls Tryz.prog 134 #[v, .int .i64 k] w fun e w' => e = .returned (.int .i64 (k + (ndL tVersionS xs : Int))) ∧ SlO 198 tVersionS w' F v (mAll tVersionS xs k) ∧ Turn F w w' := by
 rw [← kAt_all]
 have HS := hd hs
 have hlen := zL_len hs
 rcases slO_form h with ⟨rfl, rfl⟩ | ⟨g, cap, rfl, hFg, hgw⟩
 ·
  have H := hd h
  clear h hs
  go_enter Tryz.func134, Tryz.ntmps134
  go_wp2
  go_loop [1, 5] (fun m i => i = .int .i64 0 ∧ m = .int .i64 k) (fun _ _ => 0)
  case atStart => exact ⟨rfl, rfl⟩
  case round =>
   obtain ⟨rfl, rfl⟩ := hrel
   go_wp2
   go_ret
   exact ⟨by simp [kAt, sumN], by rw [show mAll tVersionS [] k = [] from rfl]; exact H.out, Turn.refl _ _⟩
 ·
  have H := hd h
  clear h hs
  go_enter Tryz.func134, Tryz.ntmps134
  go_wp2
  go_loopw [1, 5] (fun m i wr => ∃ j : Nat, j ≤ xs.length ∧ i = .int .i64 j ∧ m = .int .i64 (kAt tVersionS xs k j) ∧ SlO 198 tVersionS wr (fun b => F b ∧ b < w.heap.size) (.slice (some ⟨g, 0, none⟩) xs.length cap) (mTo tVersionS xs k j) ∧ Turn F w wr) (fun _ i _ => xs.length - (intOf i).toNat)
  case atStart => exact ⟨0, Nat.zero_le _, rfl, by rw [kAt_zero], by rw [mTo_zero]; exact slO_lt tVersionS_law H.out, Turn.refl _ _⟩
  case round =>
   obtain ⟨j, hj, rfl, rfl, hown, hon⟩ := hrel
   by_cases hlt : j < xs.length
   ·
    have i1 : (0 : Int) ≤ (j : Int) := by omega
    have i2 : (j : Int) < (xs.length : Int) := by omega
    have hjl : j < (mTo tVersionS xs k j).length := by rw [mTo_len hj]; exact hlt
    have HLL := hd (mTo_len (T := tVersionS) (k := k) hj)
    obtain ⟨r1, r2⟩ := kAt_range tVersionS_law (by decide) (k := k) HS.out hj
    obtain ⟨r3, r4⟩ := kAt_range tVersionS_law (by decide) (k := k) (j := j + 1) HS.out (by omega)
    have hzx := zL_at HS.out hlt
    have hstep := kAt_step (T := tVersionS) (k := k) hlt
    have hset := mTo_step (T := tVersionS) (k := k) hlt
    have hsz := hon.size
    obtain ⟨hme, hFg2, hgl, cj, Fj, Lc, hrow, hLc, hO, hFj, hput⟩ := slO_open tVersionS_law hown hjl
    clear hme hFg2
    rw [mTo_at hlt] at hO
    have HM : Hid (∃ m', kAt tVersionS xs k (j + 1) = m') := hd ⟨_, rfl⟩
    obtain ⟨m', hm'⟩ := HM.out
    rw [hm'] at hstep r3 r4
    have HM' := hd hm'
    clear hm' HM H hown hjl
    generalize kAt tVersionS xs k j = m at *
    generalize xs.getD j tVersionS.d = x at *
    rw [HLL.out] at hrow hput
    have hmm : m + (ndL tVersion x : Int) = m' := hstep.symm
    have HMM := hd hmm
    have HSET := hd hset
    have S0 := hd hzx
    clear hmm hstep hset hzx
    obtain ⟨u, rfl, o0⟩ := hO
    have cv : wr.cell? ⟨g, j, none⟩ = some u := (World.ownsRow.cellAt hrow j (by show j < xs.length * 1; omega)).trans (by have := hLc 0 Nat.one_pos; rw [show tVersionS.n = 1 from rfl, Nat.mul_one, Nat.add_zero] at this; exact this)
    go_wp2_with fail
    clear cv
    refine (markVersionS_S u x _ m wr o0 S0.out (by omega) (by omega)).mono ?_
    rintro e w1 ⟨rfl, m0, t1⟩
    have rr := row_turn hrow t1 (fun b hb h => by simp [Value.ownBlock] at hb; exact (hFj b h).2.1 hb.symm)
    have hst := hput w1 Lc [u] Fj _ rr (fun p hp => rfl) hLc ⟨u, rfl, m0⟩ (fun b hb => ⟨(hFj b hb).1, Or.inl hb⟩) (t1.mono (fun b h => Or.inr (Or.inl h)))
    have HE : Hid (tVersionS.md x m = mAll tVersion x m) := hd rfl
    rw [← HE.out, HSET.out] at hst
    have HST := hd hst
    have hon2 := hon.trans (t1.mono (fun b h => (hFj b h).1.1))
    rw [HMM.out]
    clear hst hput rr m0 t1 hon hFj hLc o0 hrow
    go_wp2
    go_roundw
    case rel => exact ⟨j + 1, by omega, by go_num, by rw [HM'.out], HST.out, hon2⟩
    case measure => simp [intOf]; omega
   ·
    obtain rfl : j = xs.length := by omega
    rw [mTo_all] at hown
    go_wp2
    go_ret
    exact ⟨rfl, slO_mono hown (fun b h => h.1), hon⟩
def tStore : Ty (List (List (Int × List Int × Int × Int)) × Int) := tPair tVersionSS tInt
theorem tStore_law : tStore.Law := tPair_law tVersionSS_law tInt_law
theorem tStore_O {w : World} {F : Nat → Prop} {cs : List Value} {x0 : List (List (Int × List Int × Int × Int))} {a1 : Int} (h : tStore.O w F cs (x0, a1)) : ∃ v0, ∃ F0 : Nat → Prop, cs = [v0, .int .i64 a1] ∧ SlO 198 tVersionS w F0 v0 x0 ∧ (∀ b, F0 b → F b) := by
 obtain ⟨_, _, F0_1, F0_2, rfl, ⟨v0, rfl, h0⟩, rfl, s0_1, s0_2, d0⟩ := h
 exact ⟨v0, F0_1, rfl, h0, fun b h => (s0_1 b h)⟩
theorem tStore_mkO {w : World} {F : Nat → Prop} {x0 : List (List (Int × List Int × Int × Int))} {a1 : Int} {v0 : Value} {F0 : Nat → Prop} (h0 : SlO 198 tVersionS w F0 v0 x0) (s0 : ∀ b, F0 b → F b)  : tStore.O w F [v0, .int .i64 a1] (x0, a1) := ⟨[v0], [.int .i64 a1], F0, fun _ => False, rfl, ⟨_, rfl, h0⟩, rfl, (fun b h => s0 b h), (fun b h => (False.elim h)), (fun b h g => (False.elim g))⟩
set_option maxHeartbeats 8000000 in
theorem szStore_Y (a1 : Int) (v0 : Value) (x0 : List (List (Int × List Int × Int × Int))) (k0 : Int) (w : World) (h0 : SlR tVersionS w v0 x0) (hs : ((zL tVersionS x0 : Nat) : Int) ≤ k0) (hk : k0 ≤ 1048576) :
  Calls Tryz.prog 49 #[.agg #[v0, .int .i64 a1], .int .i64 k0] w fun e w' => e = .returned (.int .i64 (k0 - ((zL tVersionS x0 : Nat) : Int))) ∧ Below w.heap.size w w' := by
 have H0 := hd h0
 clear h0
 have HZ0 : Hid (((zL tVersionS x0 : Nat) : Int) ≤ k0) := hd (by omega)
 have HK0 : Hid (k0 ≤ 1048576) := hd (by omega)
 have hn0 : ¬ k0 - ((zL tVersionS x0 : Nat) : Int) < 0 := by omega
 clear hs hk
 have hb : Below w.heap.size w (w.alloc (.cells #[v0, .int .i64 a1] 24)) := (Below.refl _ w).alloc (Nat.le_refl _) _
 have g0 : (w.alloc (.cells #[v0, .int .i64 a1] 24)).heap[w.heap.size]? = some (.cells #[v0, .int .i64 a1] 24 (0, 0)) := heap_alloc_new w _
 have hz0 : w.heap.size < (w.alloc (.cells #[v0, .int .i64 a1] 24)).heap.size := by simp
 go_enter Tryz.func49, Tryz.ntmps49
 go_wp2_with fail
 generalize (w.alloc (.cells #[v0, .int .i64 a1] 24)) = W at *
 refine (szVersionSS_Y v0 x0 (k0) W (slR_below tVersionS_law H0.out hb) HZ0.out HK0.out).mono ?_
 rintro e W1 ⟨rfl, b1⟩
 replace g0 := (b1.block w.heap.size hz0).trans g0
 replace hz0 := Nat.lt_of_lt_of_le hz0 b1.size
 replace hb := hb.trans (b1.mono hb.size)
 clear b1
 go_wp2
 go_ret
 exact ⟨rfl, hb⟩
set_option maxHeartbeats 8000000 in
theorem szStore_N (a1 : Int) (v0 : Value) (x0 : List (List (Int × List Int × Int × Int))) (k0 : Int) (w : World) (h0 : SlR tVersionS w v0 x0) (hs : k0 < ((zL tVersionS x0 : Nat) : Int)) (hk : k0 ≤ 1048576) (hp : 0 ≤ k0) (o0 : tVersionSS.ok x0) :
  Calls Tryz.prog 49 #[.agg #[v0, .int .i64 a1], .int .i64 k0] w fun e w' => e = .returned (.int .i64 (-1)) ∧ Below w.heap.size w w' := by
 have H0 := hd h0
 clear h0
 have HO0 := hd o0
 clear o0
 have HZ0 : Hid (k0 < ((zL tVersionS x0 : Nat) : Int)) := hd (by omega)
 have HP0 : Hid (0 ≤ k0) := hd (by omega)
 have HK0 : Hid (k0 ≤ 1048576) := hd (by omega)
 clear hs hk
 clear hp
 have hb : Below w.heap.size w (w.alloc (.cells #[v0, .int .i64 a1] 24)) := (Below.refl _ w).alloc (Nat.le_refl _) _
 have g0 : (w.alloc (.cells #[v0, .int .i64 a1] 24)).heap[w.heap.size]? = some (.cells #[v0, .int .i64 a1] 24 (0, 0)) := heap_alloc_new w _
 have hz0 : w.heap.size < (w.alloc (.cells #[v0, .int .i64 a1] 24)).heap.size := by simp
 go_enter Tryz.func49, Tryz.ntmps49
 go_wp2_with fail
 generalize (w.alloc (.cells #[v0, .int .i64 a1] 24)) = W at *
 refine (szVersionSS_N v0 x0 (k0) W (slR_below tVersionS_law H0.out hb) HZ0.out HK0.out HP0.out HO0.out).mono ?_
 rintro e W1 ⟨rfl, b1⟩
 replace g0 := (b1.block w.heap.size hz0).trans g0
 replace hz0 := Nat.lt_of_lt_of_le hz0 b1.size
 replace hb := hb.trans (b1.mono hb.size)
 clear b1
 go_wp2
 go_ret
 exact ⟨rfl, hb⟩
set_option maxHeartbeats 8000000 in
theorem toStore_T (a1 : Int) (v0 : Value) (x0 : List (List (Int × List Int × Int × Int))) (w : World) (h0 : SlR tVersionS w v0 x0) (s0 : zL tVersionS x0 ≤ 1048576) :
  Calls Tryz.prog 56 #[.agg #[v0, .int .i64 a1]] w (FreshT tStore (fun cs => .agg cs.toArray) w (x0, a1)) := by
 have H0 := hd h0
 clear h0
 have S0 := hd s0
 clear s0
 go_enter Tryz.func56, Tryz.ntmps56
 go_wp2_with fail
 have hb : Below w.heap.size w (((w.alloc (.cells #[v0, .int .i64 a1] 24)).alloc (.cells #[.slice none 0 0, .int .i64 0] 35)).alloc (.cells #[.slice none 0 0, .int .i64 0] 35)) := (((Below.refl _ w).alloc (Nat.le_refl _) _).alloc (by simp) _).alloc (by simp; omega) _
 have g2 : (((w.alloc (.cells #[v0, .int .i64 a1] 24)).alloc (.cells #[.slice none 0 0, .int .i64 0] 35)).alloc (.cells #[.slice none 0 0, .int .i64 0] 35)).heap[w.heap.size + 1 + 1]? = some (.cells #[.slice none 0 0, .int .i64 0] 35 (0, 0)) := by
  have := heap_alloc_new ((w.alloc (.cells #[v0, .int .i64 a1] 24)).alloc (.cells #[.slice none 0 0, .int .i64 0] 35)) (.cells #[.slice none 0 0, .int .i64 0] 35)
  simpa only [World.size_alloc] using this
 have g1 : (((w.alloc (.cells #[v0, .int .i64 a1] 24)).alloc (.cells #[.slice none 0 0, .int .i64 0] 35)).alloc (.cells #[.slice none 0 0, .int .i64 0] 35)).heap[w.heap.size + 1]? = some (.cells #[.slice none 0 0, .int .i64 0] 35 (0, 0)) := by
  have := heap_alloc_new (w.alloc (.cells #[v0, .int .i64 a1] 24)) (.cells #[.slice none 0 0, .int .i64 0] 35)
  rw [Below.heap_alloc _ _ _ (by simp)]
  simpa only [World.size_alloc] using this
 have g0 : (((w.alloc (.cells #[v0, .int .i64 a1] 24)).alloc (.cells #[.slice none 0 0, .int .i64 0] 35)).alloc (.cells #[.slice none 0 0, .int .i64 0] 35)).heap[w.heap.size]? = some (.cells #[v0, .int .i64 a1] 24 (0, 0)) := by
  rw [Below.heap_alloc _ _ _ (by simp; omega), Below.heap_alloc _ _ _ (by simp)]
  exact heap_alloc_new w _
 have hz : w.heap.size + 2 < (((w.alloc (.cells #[v0, .int .i64 a1] 24)).alloc (.cells #[.slice none 0 0, .int .i64 0] 35)).alloc (.cells #[.slice none 0 0, .int .i64 0] 35)).heap.size := by simp [World.size_alloc]
 generalize (((w.alloc (.cells #[v0, .int .i64 a1] 24)).alloc (.cells #[.slice none 0 0, .int .i64 0] 35)).alloc (.cells #[.slice none 0 0, .int .i64 0] 35)) = W at *
 refine (toVersionSS_S v0 x0 W (slR_below tVersionS_law H0.out hb) S0.out).mono ?_
 rintro e w1 ⟨u0, rfl, o0, b1⟩
 obtain ⟨ua0, uc0, rfl⟩ := slO_len o0
 replace o0 := slO_mono (slO_lt tVersionS_law o0) (F' := fun b => W.heap.size ≤ b ∧ b < w1.heap.size) (fun b h => h)
 replace g0 := (b1.block _ (by omega)).trans g0
 replace g1 := (b1.block _ (by omega)).trans g1
 replace g2 := (b1.block _ (by omega)).trans g2
 have zz1 := b1.size
 replace hb := hb.trans (b1.mono (by omega))
 clear b1
 have c2_0 := cr 0 (Value.slice none 0 0) g2
 have f2_0 := frozen_of_row w1 _ 0 _ _ g2
 have c2_1 := cr 1 (Value.int .i64 0) g2
 have f2_1 := frozen_of_row w1 _ 1 _ _ g2
 have ne1 : ¬ w.heap.size = w.heap.size + 1 + 1 := by omega
 have ne2 : ¬ w.heap.size + 1 = w.heap.size + 1 + 1 := by omega
 have ne3 : ¬ w.heap.size + 1 + 1 = w.heap.size + 1 := by omega
 have c0_1 := cr 1 (Value.int .i64 a1) g0
 have c1_0 := cr 0 (Value.slice none 0 0) g1
 have f1_0 := frozen_of_row w1 _ 0 _ _ g1
 have c1_1 := cr 1 (Value.int .i64 0) g1
 have f1_1 := frozen_of_row w1 _ 1 _ _ g1
 have l0_1 : (w1.setCell ⟨w.heap.size + 1 + 1, 0, none⟩ (.slice ua0 x0.length uc0)).cell? ⟨w.heap.size, 1, none⟩ = some (Value.int .i64 a1) := by
  have m : (w1.setCell ⟨w.heap.size + 1 + 1, 0, none⟩ (.slice ua0 x0.length uc0)).heap[w.heap.size]? = some (.cells #[v0, .int .i64 a1] 24 (0, 0)) := by
   repeat rw [heap_setCell_other _ _ _ _ (by simp <;> omega)]
   exact g0
  exact (cell_of_row _ _ 1 _ _ _ m).trans rfl
 go_wp2
 clear c2_0 f2_0 c2_1 f2_1 ne1 ne2 ne3 c0_1 c1_0 f1_0 c1_1 f1_1 l0_1
 have hw : Turn (fun b => b = w.heap.size + 1 ∨ b = w.heap.size + 1 + 1) w1 ((((w1.setCell ⟨w.heap.size + 1 + 1, 0, none⟩ (.slice ua0 x0.length uc0)).setCell ⟨w.heap.size + 1 + 1, 1, none⟩ (.int .i64 a1)).setCell ⟨w.heap.size + 1, 0, none⟩ (.slice ua0 x0.length uc0)).setCell ⟨w.heap.size + 1, 1, none⟩ (.int .i64 a1)) := by
  first | exact (((((Turn.refl _ _).trans (turn_set (g := w.heap.size + 1 + 1) (j := 0) (u := .slice ua0 x0.length uc0) (Or.inr rfl))).trans (turn_set (g := w.heap.size + 1 + 1) (j := 1) (u := .int .i64 a1) (Or.inr rfl))).trans (turn_set (g := w.heap.size + 1) (j := 0) (u := .slice ua0 x0.length uc0) (Or.inl rfl))).trans (turn_set (g := w.heap.size + 1) (j := 1) (u := .int .i64 a1) (Or.inl rfl))) | skip
 have r := (heap_setCell_same _ (w.heap.size + 1) 1 _ _ (.int .i64 a1) (heap_setCell_same _ (w.heap.size + 1) 0 _ _ (.slice ua0 x0.length uc0) ((heap_setCell_other _ ⟨w.heap.size + 1 + 1, 1, none⟩ (w.heap.size + 1) (.int .i64 a1) (by simp)).trans ((heap_setCell_other _ ⟨w.heap.size + 1 + 1, 0, none⟩ (w.heap.size + 1) (.slice ua0 x0.length uc0) (by simp)).trans g1))))
 have e0 := cell_of_row _ _ 0 _ _ _ r
 have e1 := cell_of_row _ _ 1 _ _ _ r
 simp at e0 e1
 replace o0 := slO_turn tVersionS_law o0 hw (fun b h1 h2 => by first | (have := h1.1; omega) | (have := q0 b h1; omega))
 replace hb := below_turn hb hw (fun b h => by omega) (by omega)
 refine bodyPost_ret (v := .agg #[.slice ua0 x0.length uc0, .int .i64 a1]) ?_ rfl ?_
 ·
  simp [results, Tryz.f56, go_sem, e0, e1]
 ·
  exact ⟨[.slice ua0 x0.length uc0, .int .i64 a1], rfl, tStore_mkO o0 (fun b h => by show w.heap.size ≤ b; first | (have := h.1; omega) | (have := q0 b h; omega)) , hb⟩
set_option maxHeartbeats 8000000 in
theorem eqStore_T (a1 : Int) (v0 : Value) (x0 : List (List (Int × List Int × Int × Int))) (u0 : Value) (w : World) (h0 : SlR tVersionS w v0 x0) (g0 : SlR tVersionS w u0 x0) (s0 : zL tVersionS x0 ≤ 1048576) :
  Calls Tryz.prog 63 #[.agg #[v0, .int .i64 a1], .agg #[u0, .int .i64 a1]] w fun e w' => e = .returned (.bool true) ∧ Below w.heap.size w w' := by
 have H0 := hd h0; have G0 := hd g0; have S0 := hd s0
 clear h0 g0 s0
 have e1 : (a1 != a1) = false := by simp
 go_enter Tryz.func63, Tryz.ntmps63
 go_wp2_with fail
 have hb : Below w.heap.size w ((w.alloc (.cells #[v0, .int .i64 a1] 35)).alloc (.cells #[u0, .int .i64 a1] 35)) := ((Below.refl _ w).alloc (Nat.le_refl _) _).alloc (by simp) _
 have g1 : ((w.alloc (.cells #[v0, .int .i64 a1] 35)).alloc (.cells #[u0, .int .i64 a1] 35)).heap[w.heap.size + 1]? = some (.cells #[u0, .int .i64 a1] 35 (0, 0)) := by
  have := heap_alloc_new (w.alloc (.cells #[v0, .int .i64 a1] 35)) (.cells #[u0, .int .i64 a1] 35)
  simpa only [World.size_alloc] using this
 have g0 : ((w.alloc (.cells #[v0, .int .i64 a1] 35)).alloc (.cells #[u0, .int .i64 a1] 35)).heap[w.heap.size]? = some (.cells #[v0, .int .i64 a1] 35 (0, 0)) := by
  rw [Below.heap_alloc _ _ _ (by simp)]
  exact heap_alloc_new w _
 have hz : w.heap.size + 1 < ((w.alloc (.cells #[v0, .int .i64 a1] 35)).alloc (.cells #[u0, .int .i64 a1] 35)).heap.size := by simp [World.size_alloc]
 generalize ((w.alloc (.cells #[v0, .int .i64 a1] 35)).alloc (.cells #[u0, .int .i64 a1] 35)) = W at *
 refine (eqVersionSS_S v0 u0 x0 W (slR_below tVersionS_law H0.out hb) (slR_below tVersionS_law G0.out hb) S0.out).mono ?_
 rintro e w1 ⟨rfl, b1⟩
 replace g0 := (b1.block _ (by omega)).trans g0
 replace g1 := (b1.block _ (by omega)).trans g1
 have zz0 := b1.size
 replace hb := hb.trans (b1.mono (by omega))
 clear b1
 have p0_1 := cr 1 (Value.int .i64 a1) g0
 have p1_1 := cr 1 (Value.int .i64 a1) g1
 go_wp2
 clear p0_1 p1_1
 go_ret
 exact ⟨rfl, hb⟩
set_option maxHeartbeats 8000000 in
theorem markStore_T (a1 : Int) (v0 : Value) (x0 : List (List (Int × List Int × Int × Int))) (F F0 : Nat → Prop) (k : Int) (w : World) (h0 : SlO 198 tVersionS w F0 v0 x0) (q0 : ∀ b, F0 b → F b)  (s0 : zL tVersionS x0 ≤ 1048576) (k0 : 0 ≤ k) (k1 : k ≤ 536870912) :
  Calls Tryz.prog 69 #[.agg #[v0, .int .i64 a1], .int .i64 k] w fun e w' => e = .returned (.int .i64 (k + (ndL tVersionS x0 : Int))) ∧ (SlO 198 tVersionS w' F0 v0 (mAll tVersionS x0 (k))) ∧ Turn F w w' := by
 have S0 := hd s0
 have N0 := ndL_le tVersionS_law (by decide) x0
 have R0 : Hid (0 ≤ k ∧ k ≤ 939524096) := hd (by omega)
 have RE : Hid (0 ≤ k + (ndL tVersionS x0 : Int)) := hd (by omega)
 clear N0
 have O0 := hd (slO_lt tVersionS_law h0)
 clear h0 s0
 go_enter Tryz.func69, Tryz.ntmps69
 go_wp2_with fail
 have hb : Below w.heap.size w (w.alloc (.cells #[v0, .int .i64 a1] 35)) := (Below.refl _ w).alloc (Nat.le_refl _) _
 have g0 : (w.alloc (.cells #[v0, .int .i64 a1] 35)).heap[w.heap.size]? = some (.cells #[v0, .int .i64 a1] 35 (0, 0)) := heap_alloc_new w _
 have hz : w.heap.size < (w.alloc (.cells #[v0, .int .i64 a1] 35)).heap.size := by simp [World.size_alloc]
 have ht : Turn F w (w.alloc (.cells #[v0, .int .i64 a1] 35)) := turn_below hb
 replace O0 := zf tVersionS_law O0 hb
 generalize (w.alloc (.cells #[v0, .int .i64 a1] 35)) = W at *
 refine (markVersionSS_S v0 x0 _ (k) W O0.out S0.out R0.out.1 (by have := R0.out.2; omega)).mono ?_
 rintro e w1 ⟨rfl, m0, t1⟩
 replace g0 := (t1.block _ hz (fun h => absurd h.2 (Nat.lt_irrefl _))).trans g0
 have zz0 := t1.size
 replace hz := Nat.lt_of_lt_of_le hz t1.size
 replace ht := ht.trans (t1.mono (fun b h => q0 b h.1))
 replace O0 := hd m0
 clear m0 t1
 go_wp2
 go_ret
 exact ⟨rfl, slO_mono O0.out (fun b h => h.1), ht⟩
/-- The slice v owns the numbers xs, in a block of the type e. -/
def OwnsE (ety : TypeId) (w : World) (B : Nat) (v : Value) (xs : List Int) : Prop := w.ownsRow B ety 1 v xs.length (xs.map (Value.int .i64))
def MarkedE (ety : TypeId) (w : World) (B : Nat) (v : Value) (n : Nat) (k : Int) (e : Ending) (w' : World) : Prop := e = .returned (.int .i64 (k + (n : Int))) ∧ OwnsE ety w' B v (marks k n) ∧ w.grownBy w' v.ownBlock
theorem ownsE_len {ety : TypeId} {w : World} {B : Nat} {a : Option Addr} {n cap : Nat} {xs : List Int} (h : OwnsE ety w B (.slice a n cap) xs) : n = xs.length := by
 rcases h.2 with ⟨h', h0⟩ | ⟨_, _, _, h', _⟩
 ·
  simp only [Value.slice.injEq] at h'; omega
 ·
  simp only [Value.slice.injEq] at h'; exact h'.2.1
theorem ownsE_form {ety : TypeId} {w : World} {B : Nat} {v : Value} {xs : List Int} (h : OwnsE ety w B v xs) : (v = .slice none 0 0 ∧ xs = []) ∨ ∃ g cap, v = .slice (some ⟨g, 0, none⟩) xs.length cap ∧ B ≤ g ∧ g < w.heap.size := by
 rcases h.2 with ⟨rfl, h0⟩ | ⟨g, cap, cur, rfl, hb, hg, _⟩
 ·
  exact .inl ⟨rfl, List.eq_nil_of_length_eq_zero h0⟩
 ·
  exact .inr ⟨g, cap, rfl, hb, (Array.getElem?_eq_some_iff.1 hg).1⟩
theorem ownsE_cell {ety : TypeId} {w : World} {B g n cap j : Nat} {xs : List Int} {x : Int} (h : OwnsE ety w B (.slice (some ⟨g, 0, none⟩) n cap) xs) (hx : xs[j]? = some x) : w.cell? ⟨g, j, none⟩ = some (.int .i64 x) := by
 have := World.ownsRow.cells h (g := g) rfl j (.int .i64 x) (by simp [hx])
 have e : (⟨g, 0, none⟩ : Addr).add j = ⟨g, j, none⟩ := by unfold Addr.add; split <;> simp_all
 rwa [e] at this
theorem ownsE_frozen {ety : TypeId} {w : World} {B g n cap : Nat} {xs : List Int} (h : OwnsE ety w B (.slice (some ⟨g, 0, none⟩) n cap) xs) (j : Nat) : w.frozen? ⟨g, j, none⟩ = false := by
 obtain rfl := ownsE_len h
 exact World.ownsRow.frozenAt h j
theorem ownsE_store {ety : TypeId} {w : World} {B g n cap : Nat} {xs : List Int} (h : OwnsE ety w B (.slice (some ⟨g, 0, none⟩) n cap) xs) (j : Nat) (x : Int) : OwnsE ety (w.setCell ⟨g, j, none⟩ (.int .i64 x)) B (.slice (some ⟨g, 0, none⟩) n cap) (xs.set j x) := by
 obtain rfl := ownsE_len h
 have := (World.ownsRow.stored h j (.int .i64 x)).1
 unfold OwnsE
 rw [List.length_set, List.map_set]
 exact this
theorem markIntE_any {ety : TypeId} (v : Value) (xs : List Int) (B : Nat) (k : Int) (w : World) (h : OwnsE ety w B v xs) (hn : xs.length ≤ 1048576) (k0 : 0 ≤ k) (k1 : k ≤ 1073741824) :
  Calls Tryz.prog 21 #[v, .int .i64 k] w (MarkedE ety w B v xs.length k) := by
 have H := hd h
 rcases ownsE_form h with ⟨rfl, rfl⟩ | ⟨g, cap, rfl, hBg, hgl⟩
 ·
  clear h
  go_enter Tryz.func21, Tryz.ntmps21
  go_wp2
  go_loop [1, 5] (fun m i => i = .int .i64 0 ∧ m = .int .i64 k) (fun _ _ => 0)
  case atStart => exact ⟨rfl, rfl⟩
  case round =>
   obtain ⟨rfl, rfl⟩ := hrel
   go_wp2
   go_ret
   exact ⟨by simp, by rw [show marks k 0 = [] from rfl]; exact H.out, World.grownBy.refl _ _⟩
 ·
  clear h
  go_enter Tryz.func21, Tryz.ntmps21
  go_wp2
  go_loopw [1, 5] (fun m i wr => ∃ j : Nat, j ≤ xs.length ∧ i = .int .i64 j ∧ m = .int .i64 (k + (j : Int)) ∧ OwnsE ety wr B (.slice (some ⟨g, 0, none⟩) xs.length cap) (markedTo xs k j) ∧ w.grownBy wr (some g)) (fun _ i _ => xs.length - (intOf i).toNat)
  case atStart => exact ⟨0, Nat.zero_le _, rfl, by simp, by rw [show markedTo xs k 0 = xs by simp [markedTo, marks]]; exact H.out, World.grownBy.refl _ _⟩
  case round =>
   obtain ⟨j, hj, rfl, rfl, hown, hgr⟩ := hrel
   by_cases hlt : j < xs.length
   ·
    have i1 : (0 : Int) ≤ (j : Int) := by omega
    have i2 : (j : Int) < (xs.length : Int) := by omega
    have c1 := ownsE_cell hown (markedTo_at xs k j hlt)
    have f1 := ownsE_frozen hown j
    have hst := ownsE_store hown j (k + (j : Int))
    rw [markedTo_step xs k j hlt] at hst
    have hg2 := grown_more hgr (grownBy_store wr g j (.int .i64 (k + (j : Int))))
    have HST := hd hst
    clear hst hown hgr
    go_wp2
    go_roundw
    case rel => exact ⟨j + 1, by omega, by go_num, by simp; omega, HST.out, hg2⟩
    case measure => simp [intOf]; omega
   ·
    obtain rfl : j = xs.length := by omega
    rw [markedTo_all] at hown
    go_wp2
    go_ret
    exact ⟨rfl, hown, hgr⟩
theorem slE_own {ety : TypeId} {w : World} {F : Nat → Prop} {v : Value} {xs : List Int} (h : SlO ety tInt w F v xs) : OwnsE ety w 0 v xs ∧ ∀ b, v.ownBlock = some b → F b := by
 obtain ⟨L, us, Fs, h1, h2, h3, h4⟩ := h
 refine ⟨?_, h2⟩
 have e : L = xs.map (Value.int .i64) := by
  apply List.ext_getElem?
  intro i
  by_cases hi : i < xs.length
  ·
   obtain ⟨g1, g2, _⟩ := h3 i hi
   have g3 := g1 0 (by decide)
   have g4 : us i = [.int .i64 (xs.getD i 0)] := g2
   have e : i * tInt.n + 0 = i := by show i * 1 + 0 = _; omega
   rw [e, g4] at g3
   rw [g3]
   simp [List.getD, hi]
  ·
   have hl : L.length = xs.length * 1 := h1.1
   rw [List.getElem?_eq_none (by omega), List.getElem?_eq_none (by simp; omega)]
 rw [e] at h1
 exact h1
theorem own_slE {ety : TypeId} {w : World} {F : Nat → Prop} {v : Value} {xs : List Int} {B : Nat} (h : OwnsE ety w B v xs) (hF : ∀ b, v.ownBlock = some b → F b) : SlO ety tInt w F v xs := by
 refine ⟨_, fun j => [.int .i64 (xs.getD j 0)], fun _ _ => False, row_low h (Nat.zero_le _), hF, fun j hj => ⟨fun i hi => ?_, rfl, fun b hb => False.elim hb⟩, fun i j _ _ _ b hb => False.elim hb⟩
 have hi0 : i < 1 := hi
 obtain rfl : i = 0 := by omega
 have e : j * tInt.n + 0 = j := by show j * 1 + 0 = _; omega
 rw [e]
 simp [List.getD, hj]
theorem markIntES_S {ety : TypeId} (v : Value) (xs : List Int) (F : Nat → Prop) (k : Int) (w : World) (h : SlO ety tInt w F v xs) (hs : zL tInt xs ≤ 1048576) (k0 : 0 ≤ k) (k1 : k ≤ 1073741824) :
  Calls Tryz.prog 21 #[v, .int .i64 k] w fun e w' => e = .returned (.int .i64 (k + (ndL tInt xs : Int))) ∧ SlO ety tInt w' F v (mAll tInt xs k) ∧ Turn F w w' := by
 rw [zL_ints] at hs
 obtain ⟨h1, h2⟩ := slE_own h
 refine (markIntE_any v xs 0 k w h1 hs k0 k1).mono ?_
 rintro e w' ⟨rfl, o, g⟩
 rw [ndL_ints, mAll_ints]
 exact ⟨rfl, own_slE o h2, turn_grown g h2⟩
def tIntES : Ty (List Int) where
 n := 1
 d := []
 R := fun w cs xs => ∃ v, cs = [v] ∧ SlR tInt w v xs
 O := fun w F cs xs => ∃ (v : Value) (e : TypeId), cs = [v] ∧ SlO e tInt w F v xs
 sz := zL tInt
 nd := ndL tInt
 nv := ndL tInt
 md := mAll tInt
 mv := mAll tInt
 ok := fun xs => (xs.length : Int) ≤ 9223372036854775807 ∧ ∀ j, j < xs.length → tInt.ok (xs.getD j tInt.d)
 s := 0
theorem tIntES_md (xs : List Int) (k : Int) : tIntES.md xs k = mAll tInt xs k := rfl
theorem tIntES_mv (xs : List Int) (k : Int) : tIntES.mv xs k = mAll tInt xs k := rfl
theorem tIntES_sz (xs : List Int) : tIntES.sz xs = zL tInt xs := rfl
theorem tIntES_nd (xs : List Int) : tIntES.nd xs = ndL tInt xs := rfl
theorem tIntES_nv (xs : List Int) : tIntES.nv xs = ndL tInt xs := rfl
theorem tIntES_law : tIntES.Law where
 pos := Nat.one_pos
 len := fun {w cs x} h => by obtain ⟨v, rfl, _⟩ := h; rfl
 below := fun {W w cs x} h hb => by obtain ⟨v, e, h⟩ := h; exact ⟨v, e, slR_below tInt_law h hb⟩
 reads := fun {w F cs x} h => by obtain ⟨v, _, e, h⟩ := h; exact ⟨v, e, slO_reads tInt_law h⟩
 turn := fun {w w' F G cs x} h k hd => by obtain ⟨v, t, e, h⟩ := h; exact ⟨v, t, e, slO_turn tInt_law h k hd⟩
 mono := fun {w F F' cs x} h hf => by obtain ⟨v, t, e, h⟩ := h; exact ⟨v, t, e, slO_mono h hf⟩
 lt := fun {w F cs x} h => by obtain ⟨v, t, e, h⟩ := h; exact ⟨v, t, e, slO_lt tInt_law h⟩
 nd_le := fun x => ndL_le tInt_law (by decide) x
 nv_le := fun x => ndL_le tInt_law (by decide) x
def tCond : Ty (Int × Int × Int) := tPair tInt (tPair tInt tInt)
theorem tCond_law : tCond.Law := tPair_law tInt_law (tPair_law tInt_law tInt_law)
theorem tCond_R {w : World} {cs : List Value} {a0 : Int} {a1 : Int} {a2 : Int} (h : tCond.R w cs (a0, a1, a2)) : cs = [.int .i64 a0, .int .i64 a1, .int .i64 a2] := by
 obtain ⟨_, _, rfl, rfl, ⟨_, _, rfl, rfl, rfl⟩⟩ := h
 rfl
theorem tCond_nd {a0 : Int} {a1 : Int} {a2 : Int} : tCond.nd (a0, a1, a2) = 3 := by
 simp only [tCond, tPair_sz, tPair_nd, tPair_nv, tInt_sz, tInt_nd, tInt_nv, tSl_sz, tSl_nd, tSl_nv]
 try omega
theorem tCond_md {a0 : Int} {a1 : Int} {a2 : Int} {k : Int} : tCond.md (a0, a1, a2) k = ((k), (k + 1), (k + 1 + 1)) := by
 simp only [tCond, tPair_md, tPair_mv, tPair_nd, tPair_nv, tInt_md, tInt_mv, tInt_nd, tInt_nv, tSl_md, tSl_mv, tSl_nd, tSl_nv, Int.natCast_add, Int.natCast_zero, Int.natCast_one, Int.add_zero, Int.zero_add, Int.add_assoc]
theorem tCond_O {w : World} {F : Nat → Prop} {cs : List Value} {a0 : Int} {a1 : Int} {a2 : Int} (h : tCond.O w F cs (a0, a1, a2)) : cs = [.int .i64 a0, .int .i64 a1, .int .i64 a2] := by
 obtain ⟨_, _, F0_1, F0_2, rfl, rfl, ⟨_, _, F1_1, F1_2, rfl, rfl, rfl, s1_1, s1_2, d1⟩, s0_1, s0_2, d0⟩ := h
 rfl
theorem tCond_mkO {w : World} {F : Nat → Prop} {a0 : Int} {a1 : Int} {a2 : Int}    : tCond.O w F [.int .i64 a0, .int .i64 a1, .int .i64 a2] (a0, a1, a2) := ⟨[.int .i64 a0], [.int .i64 a1, .int .i64 a2], fun _ => False, fun _ => False, rfl, rfl, ⟨[.int .i64 a1], [.int .i64 a2], fun _ => False, fun _ => False, rfl, rfl, rfl, (fun b h => (False.elim h)), (fun b h => (False.elim h)), (fun b h g => (False.elim h))⟩, (fun b h => (False.elim h)), (fun b h => (False.elim h)), (fun b h g => (False.elim h))⟩
set_option maxHeartbeats 8000000 in
theorem toCond_T (a0 a1 a2 : Int) (w : World)   :
  Calls Tryz.prog 156 #[.agg #[.int .i64 a0, .int .i64 a1, .int .i64 a2]] w (FreshT tCond (fun cs => .agg cs.toArray) w (a0, a1, a2)) := by
 go_enter Tryz.func156, Tryz.ntmps156
 go_wp2
 exact bodyPost_ret (v := .agg #[.int .i64 a0, .int .i64 a1, .int .i64 a2]) (by simp [results, Tryz.f156, go_sem]) rfl ⟨[.int .i64 a0, .int .i64 a1, .int .i64 a2], rfl, tCond_mkO, (((Below.refl _ w).alloc (Nat.le_refl _) _).alloc (by simp) _).alloc (by simp; omega) _⟩
set_option maxHeartbeats 8000000 in
theorem eqCond_T (a0 a1 a2 : Int) (w : World) :
  Calls Tryz.prog 163 #[.agg #[.int .i64 a0, .int .i64 a1, .int .i64 a2], .agg #[.int .i64 a0, .int .i64 a1, .int .i64 a2]] w fun e w' => e = .returned (.bool true) ∧ Below w.heap.size w w' := by
 have e0 : (a0 != a0) = false := by simp
 have e1 : (a1 != a1) = false := by simp
 have e2 : (a2 != a2) = false := by simp
 go_enter Tryz.func163, Tryz.ntmps163
 go_wp2
 go_ret
 exact ⟨rfl, ((Below.refl _ w).alloc (Nat.le_refl _) _).alloc (by simp) _⟩
abbrev tCondS : Ty (List (Int × Int × Int)) := tSl 182 tCond
theorem tCondS_law : tCondS.Law := tSl_law tCond_law (by decide)
set_option maxHeartbeats 8000000 in
theorem szCondS_Y (v : Value) (xs : List (Int × Int × Int)) (k0 : Int) (w : World) (h : SlR tCond w v xs) (hs : ((zL tCond xs : Nat) : Int) ≤ k0) (hk : k0 ≤ 1048576) :
  Calls Tryz.prog 87 #[v, .int .i64 k0] w fun e w' => e = .returned (.int .i64 (k0 - ((zL tCond xs : Nat) : Int))) ∧ Below w.heap.size w w' := by
 have hz : zL tCond xs = xs.length := zL_flat (fun _ => rfl) xs
 rw [hz] at hs ⊢
 obtain ⟨a, cap, rfl⟩ := slR_len h
 clear h hz
 have h0 : ¬ k0 - (xs.length : Int) < 0 := by omega
 go_enter Tryz.func87, Tryz.ntmps87
 go_wp2
 go_ret
 exact ⟨rfl, Below.refl _ _⟩
set_option maxHeartbeats 8000000 in
theorem szCondS_N (v : Value) (xs : List (Int × Int × Int)) (k0 : Int) (w : World) (h : SlR tCond w v xs) (hs : k0 < ((zL tCond xs : Nat) : Int)) (hk : k0 ≤ 1048576) (hp : 0 ≤ k0) (ho : tCondS.ok xs) :
  Calls Tryz.prog 87 #[v, .int .i64 k0] w fun e w' => e = .returned (.int .i64 (-1)) ∧ Below w.heap.size w w' := by
 have hz : zL tCond xs = xs.length := zL_flat (fun _ => rfl) xs
 rw [hz] at hs
 obtain ⟨a, cap, rfl⟩ := slR_len h
 have hn := ho.1
 clear h hz ho
 have h0 : k0 - (xs.length : Int) < 0 := by omega
 go_enter Tryz.func87, Tryz.ntmps87
 go_wp2
 go_ret
 exact ⟨rfl, Below.refl _ _⟩
theorem Tryz.info_Cond : (Tryz.prog.info? 182).map (fun i => (i.zero, i.size)) = some (some (.agg #[.int .i64 0, .int .i64 0, .int .i64 0]), 3) := by kernel_rfl
theorem Tryz.bytes_Cond : ((Tryz.prog.info? 182).map (fun i => decide (i.bytes ≤ 512))) = some true := by kernel_rfl
theorem tCond_zero (w : World) : tCond.O w (fun _ => False) #[.int .i64 0, .int .i64 0, .int .i64 0].toList tCond.d := tCond_mkO   
set_option maxHeartbeats 8000000 in
theorem toCondS_S (v : Value) (xs : List (Int × Int × Int)) (w : World) (h : SlR tCond w v xs) (hs : zL tCond xs ≤ 1048576) :
  Calls Tryz.prog 91 #[v] w (FreshS 182 tCond w xs) := by
 obtain ⟨i0, hi, hz0, hz1⟩ : ∃ i0, Tryz.prog.info? 182 = some i0 ∧ i0.zero = some (.agg #[.int .i64 0, .int .i64 0, .int .i64 0]) ∧ i0.size = 3 := by
  have h0 := Tryz.info_Cond
  cases q : Tryz.prog.info? 182 with
  | none => rw [q] at h0; simp at h0
  | some i => rw [q] at h0; simp only [Option.map_some, Option.some.injEq, Prod.mk.injEq] at h0; exact ⟨i, rfl, h0.1, h0.2⟩
 have hz2 : i0.bytes ≤ 512 := by
  have h0 := Tryz.bytes_Cond
  rw [hi] at h0
  simpa using h0
 have HI := hd hi; have HZ0 := hd hz0; have HZ1 := hd hz1; have HZ2 := hd hz2
 clear hi hz0 hz1 hz2
 have H := hd h
 have hlen := zL_len hs
 have HS := hd hs
 obtain ⟨a, cap, rfl⟩ := slR_len h
 clear h hs
 go_enter Tryz.func91, Tryz.ntmps91
 go_wp2_with (at_make; refine wpList_make_full _ rfl (.tmp 6) (.tmp 6) 49 rfl w.heap.size 182 i0 (.agg #[.int .i64 0, .int .i64 0, .int .i64 0]) 3 Tryz.underlying49 HI.out HZ0.out HZ1.out _ _ _ _ xs.length rfl rfl rfl rfl (by have h9 := Nat.mul_le_mul HZ2.out hlen; have h8 := Nat.mul_le_mul hlen HZ2.out; omega) (by unfold maxLen; omega) (Nat.le_refl _) ?_)
 intro w1 hown0 hg0
 have hown1 : SlO 182 tCond w1 (since w) (.slice (some ⟨w.heap.size, 0, none⟩) xs.length xs.length) (List.replicate xs.length tCond.d) := slO_made (z := #[.int .i64 0, .int .i64 0, .int .i64 0]) tCond_law rfl (tCond_zero w1) (Nat.le_refl _) hown0
 have hbel1 := (Below.refl w.heap.size w).grown hg0 (Nat.le_refl _) (fun k hk => by cases hk)
 clear hown0 hg0
 go_wp2
 go_loopw [4] (fun i wr => ∃ k : Nat, k ≤ xs.length ∧ i = .int .i64 k ∧ SlO 182 tCond wr (since w) (.slice (some ⟨w.heap.size, 0, none⟩) xs.length xs.length) (xs.take k ++ List.replicate (xs.length - k) tCond.d) ∧ Below w.heap.size w wr) (fun i _ => xs.length - (intOf i).toNat)
 case atStart => exact ⟨0, Nat.zero_le _, rfl, by simpa using hown1, hbel1⟩
 case round =>
  obtain ⟨k, hk, rfl, hown, hbel⟩ := hrel
  by_cases hlt : k < xs.length
  ·
   have HSET := hd (cTo_step (d := tCond.d) hlt)
   have HKL : Hid (k < (xs.take k ++ List.replicate (xs.length - k) tCond.d).length) := hd (by rw [cTo_len hk]; exact hlt)
   have HLL := hd (cTo_len (d := tCond.d) hk)
   have i1 : (0 : Int) ≤ (k : Int) := by omega
   have i2 : (k : Int) < (xs.length : Int) := by omega
   have hzx := zL_at HS.out hlt
   obtain ⟨b, off, cap', cs, hv, hbl, hcs, hR⟩ := slR_at (slR_below tCond_law H.out hbel) hlt
   simp only [Value.slice.injEq] at hv
   obtain ⟨rfl, _, rfl⟩ := hv
   obtain ⟨hme, hFg, hgl, cj, Fj, Lc, hrow, hLc, hO, hFj, hput⟩ := slO_open tCond_law hown HKL.out
   clear hme
   clear hown1 hbel1
   generalize xs.getD k tCond.d = x at *
   generalize xs.take k ++ List.replicate (xs.length - k) tCond.d = ys at *
   obtain ⟨a0, a1, a2⟩ := x
   obtain rfl := tCond_R hR
   have p0 : wr.cell? ⟨b, off + k * 3, none⟩ = some (Value.int .i64 a0) := hcs 0 (by decide)
   have p1 : wr.cell? ⟨b, off + k * 3 + 1, none⟩ = some (Value.int .i64 a1) := hcs 1 (by decide)
   have p2 : wr.cell? ⟨b, off + k * 3 + 2, none⟩ = some (Value.int .i64 a2) := hcs 2 (by decide)
   have HC := hd (fun w => toCond_T a0 a1 a2 w  )
   clear hcs hzx
   go_wp2_with fail
   refine (HC.out _).mono ?_
   rintro e w2 ⟨cv, rfl, ow, b2⟩
   replace ow := tCond_law.lt ow
   obtain rfl := tCond_O ow
   have r0 := row_turn (G := fun _ => False) hrow (turn_below b2) (fun _ _ => not_false)
   rw [HLL.out] at r0
   have q0 : ∃ x, w2.cell? ⟨w.heap.size, k * 3, none⟩ = some x := zq r0 (k * 3) (by have := HKL.out; rw [HLL.out] at this; show _ < xs.length * 3; omega)
   obtain ⟨y0, q0⟩ := q0
   have f0 := World.ownsRow.frozenAt r0 (k * 3)
   have q1 : ∃ x, w2.cell? ⟨w.heap.size, k * 3 + 1, none⟩ = some x := zq r0 (k * 3 + 1) (by have := HKL.out; rw [HLL.out] at this; show _ < xs.length * 3; omega)
   obtain ⟨y1, q1⟩ := q1
   have f1 := World.ownsRow.frozenAt r0 (k * 3 + 1)
   have q2 : ∃ x, w2.cell? ⟨w.heap.size, k * 3 + 2, none⟩ = some x := zq r0 (k * 3 + 2) (by have := HKL.out; rw [HLL.out] at this; show _ < xs.length * 3; omega)
   obtain ⟨y2, q2⟩ := q2
   have f2 := World.ownsRow.frozenAt r0 (k * 3 + 2)
   have b3 := hbel.trans (b2.mono hbel.size)
   have B3 := hd (((b3.setCell (p := ⟨w.heap.size, k * 3, none⟩) (Nat.le_refl _) (.int .i64 a0)).setCell (p := ⟨w.heap.size, k * 3 + 1, none⟩) (Nat.le_refl _) (.int .i64 a1)).setCell (p := ⟨w.heap.size, k * 3 + 2, none⟩) (Nat.le_refl _) (.int .i64 a2))
   have hT : Turn (fun b => b = w.heap.size ∨ Fj b ∨ wr.heap.size ≤ b) wr (((w2.setCell ⟨w.heap.size, k * 3, none⟩ (.int .i64 a0)).setCell ⟨w.heap.size, k * 3 + 1, none⟩ (.int .i64 a1)).setCell ⟨w.heap.size, k * 3 + 2, none⟩ (.int .i64 a2)) := ((((turn_below b2).trans (turn_set (j := k * 3) (u := .int .i64 a0) (Or.inl rfl))).trans (turn_set (j := k * 3 + 1) (u := .int .i64 a1) (Or.inl rfl))).trans (turn_set (j := k * 3 + 2) (u := .int .i64 a2) (Or.inl rfl)))
   have hT2 : Turn (fun b => b = w.heap.size) w2 (((w2.setCell ⟨w.heap.size, k * 3, none⟩ (.int .i64 a0)).setCell ⟨w.heap.size, k * 3 + 1, none⟩ (.int .i64 a1)).setCell ⟨w.heap.size, k * 3 + 2, none⟩ (.int .i64 a2)) := ((((Turn.refl (fun b => b = w.heap.size) _).trans (turn_set (G := fun b => b = w.heap.size) (j := k * 3) (u := .int .i64 a0) rfl)).trans (turn_set (G := fun b => b = w.heap.size) (j := k * 3 + 1) (u := .int .i64 a1) rfl)).trans (turn_set (G := fun b => b = w.heap.size) (j := k * 3 + 2) (u := .int .i64 a2) rfl))
   have hO2 := tCond_law.turn ow hT2 (fun b h1 h2 => by have := h1.1; simp only [since] at this; omega)
   have r9 := (World.ownsRow.stored (World.ownsRow.stored (World.ownsRow.stored r0 (k * 3) (.int .i64 a0)).1 (k * 3 + 1) (.int .i64 a1)).1 (k * 3 + 2) (.int .i64 a2)).1
   have hLl : Lc.length = xs.length * 3 := r0.1
   have hst := hd (hput (((w2.setCell ⟨w.heap.size, k * 3, none⟩ (.int .i64 a0)).setCell ⟨w.heap.size, k * 3 + 1, none⟩ (.int .i64 a1)).setCell ⟨w.heap.size, k * 3 + 2, none⟩ (.int .i64 a2)) (((Lc.set (k * 3) (.int .i64 a0)).set (k * 3 + 1) (.int .i64 a1)).set (k * 3 + 2) (.int .i64 a2)) [.int .i64 a0, .int .i64 a1, .int .i64 a2] _ (a0, a1, a2) (by rw [HLL.out]; exact r9) (fun p hp => by have hp2 : p < k * 3 ∨ k * 3 + 3 ≤ p := hp; rw [List.getElem?_set_ne (by omega)]; rw [List.getElem?_set_ne (by omega)]; rw [List.getElem?_set_ne (by omega)]) (fun i hi => by have hi' : i < 3 := hi; match i, hi' with | 0, _ => (show ((((Lc.set (k * 3) (.int .i64 a0)).set (k * 3 + 1) (.int .i64 a1)).set (k * 3 + 2) (.int .i64 a2)))[k * 3]? = _; rw [List.getElem?_set_ne (by omega)]; rw [List.getElem?_set_ne (by omega)]; rw [List.getElem?_set_self (by first | omega | (simp only [List.length_set]; omega))]; rfl) | 1, _ => (show ((((Lc.set (k * 3) (.int .i64 a0)).set (k * 3 + 1) (.int .i64 a1)).set (k * 3 + 2) (.int .i64 a2)))[k * 3 + 1]? = _; rw [List.getElem?_set_ne (by omega)]; rw [List.getElem?_set_self (by first | omega | (simp only [List.length_set]; omega))]; rfl) | 2, _ => (show ((((Lc.set (k * 3) (.int .i64 a0)).set (k * 3 + 1) (.int .i64 a1)).set (k * 3 + 2) (.int .i64 a2)))[k * 3 + 2]? = _; rw [List.getElem?_set_self (by first | omega | (simp only [List.length_set]; omega))]; rfl)) hO2 (fun b hb => ⟨Nat.le_trans hbel.size hb.1, Or.inr hb.1⟩) hT)
   have hst2 : SlO 182 tCond (((w2.setCell ⟨w.heap.size, k * 3, none⟩ (.int .i64 a0)).setCell ⟨w.heap.size, k * 3 + 1, none⟩ (.int .i64 a1)).setCell ⟨w.heap.size, k * 3 + 2, none⟩ (.int .i64 a2)) (since w) (.slice (some ⟨w.heap.size, 0, none⟩) xs.length xs.length) (xs.take (k + 1) ++ List.replicate (xs.length - (k + 1)) tCond.d) := by have := hst.out; rw [HSET.out] at this; exact this
   have HST := hd hst2
   clear hst hst2 hT hT2 hO2 r9 r0 hrow hO hput hown hbel b2 ow b3 hLl hLc hFj
   go_wp2
   go_roundw
   case rel => exact ⟨k + 1, by omega, by go_num, HST.out, B3.out⟩
   case measure => simp [intOf]; omega
  ·
   obtain rfl : k = xs.length := by omega
   have HE : Hid (xs.take xs.length ++ List.replicate (xs.length - xs.length) tCond.d = xs) := hd (by simp)
   rw [HE.out] at hown
   go_wp2
   go_ret
   exact ⟨_, rfl, hown, hbel⟩
set_option maxHeartbeats 8000000 in
theorem eqCondS_S (v u : Value) (xs : List (Int × Int × Int)) (w : World) (h : SlR tCond w v xs) (g : SlR tCond w u xs) (hs : zL tCond xs ≤ 1048576) :
  Calls Tryz.prog 98 #[v, u] w fun e w' => e = .returned (.bool true) ∧ Below w.heap.size w w' := by
 have H := hd h
 have G := hd g
 have HS := hd hs
 have hlen := zL_len hs
 obtain ⟨a, cap, rfl⟩ := slR_len h
 obtain ⟨a2, cap2, rfl⟩ := slR_len g
 clear h g hs
 go_enter Tryz.func98, Tryz.ntmps98
 go_wp2
 go_loopw [5] (fun i wr => ∃ k : Nat, k ≤ xs.length ∧ i = .int .i64 k ∧ Below w.heap.size w wr) (fun i _ => xs.length - (intOf i).toNat)
 case atStart => exact ⟨0, Nat.zero_le _, rfl, Below.refl _ _⟩
 case round =>
  obtain ⟨k, hk, rfl, hbel⟩ := hrel
  by_cases hlt : k < xs.length
  ·
   obtain ⟨b, off, cap', cs, hv, hbl, hcs, hR⟩ := slR_at (slR_below tCond_law H.out hbel) hlt
   simp only [Value.slice.injEq] at hv
   obtain ⟨rfl, _, rfl⟩ := hv
   obtain ⟨b2, off2, cap2', ds, hv2, hbl2, hds, hQ⟩ := slR_at (slR_below tCond_law G.out hbel) hlt
   simp only [Value.slice.injEq] at hv2
   obtain ⟨rfl, _, rfl⟩ := hv2
   have hzx := zL_at HS.out hlt
   have i1 : (0 : Int) ≤ (k : Int) := by omega
   have i2 : (k : Int) < (xs.length : Int) := by omega
   generalize xs.getD k tCond.d = x at *
   obtain ⟨a0, a1, a2⟩ := x
   obtain rfl := tCond_R hR
   obtain rfl := tCond_R hQ
   have p0 : wr.cell? ⟨b, off + k * 3, none⟩ = some (Value.int .i64 a0) := hcs 0 (by decide)
   have q0 : wr.cell? ⟨b2, off2 + k * 3, none⟩ = some (Value.int .i64 a0) := hds 0 (by decide)
   have p1 : wr.cell? ⟨b, off + k * 3 + 1, none⟩ = some (Value.int .i64 a1) := hcs 1 (by decide)
   have q1 : wr.cell? ⟨b2, off2 + k * 3 + 1, none⟩ = some (Value.int .i64 a1) := hds 1 (by decide)
   have p2 : wr.cell? ⟨b, off + k * 3 + 2, none⟩ = some (Value.int .i64 a2) := hcs 2 (by decide)
   have q2 : wr.cell? ⟨b2, off2 + k * 3 + 2, none⟩ = some (Value.int .i64 a2) := hds 2 (by decide)
   clear hcs hds hzx
   go_wp2
   go_region_with (first | (go_at_call 163; refine (eqCond_T a0 a1 a2 _).mono ?_; rintro e w8 ⟨rfl, b9⟩; have b10 : Below wr.heap.size wr w8 := ⟨b9.os, b9.tape, b9.output, b9.size, b9.block⟩))
   all_goals
    have b11 := hbel.trans (b10.mono hbel.size)
    go_wp2
    go_roundw
    case rel => exact ⟨k + 1, by omega, by go_num, b11⟩
    case measure => simp [intOf]; omega
  ·
   go_wp2
   go_ret
   exact ⟨rfl, hbel⟩
set_option maxHeartbeats 8000000 in
theorem markCondS_S (v : Value) (xs : List (Int × Int × Int)) (F : Nat → Prop) (k : Int) (w : World) (h : SlO 182 tCond w F v xs) (hs : zL tCond xs ≤ 1048576) (k0 : 0 ≤ k) (k1 : k ≤ 1006632960) :
  Calls Tryz.prog 99 #[v, .int .i64 k] w fun e w' => e = .returned (.int .i64 (k + (ndL tCond xs : Int))) ∧ SlO 182 tCond w' F v (mAll tCond xs k) ∧ Turn F w w' := by
 rw [← kAt_all]
 have HS := hd hs
 have hlen := zL_len hs
 rcases slO_form h with ⟨rfl, rfl⟩ | ⟨g, cap, rfl, hFg, hgw⟩
 ·
  have H := hd h
  clear h hs
  go_enter Tryz.func99, Tryz.ntmps99
  go_wp2
  go_loop [1, 5] (fun m i => i = .int .i64 0 ∧ m = .int .i64 k) (fun _ _ => 0)
  case atStart => exact ⟨rfl, rfl⟩
  case round =>
   obtain ⟨rfl, rfl⟩ := hrel
   go_wp2
   go_ret
   exact ⟨by simp [kAt, sumN], by rw [show mAll tCond [] k = [] from rfl]; exact H.out, Turn.refl _ _⟩
 ·
  have H := hd h
  clear h hs
  go_enter Tryz.func99, Tryz.ntmps99
  go_wp2
  go_loopw [1, 5] (fun m i wr => ∃ j : Nat, j ≤ xs.length ∧ i = .int .i64 j ∧ m = .int .i64 (kAt tCond xs k j) ∧ SlO 182 tCond wr (fun b => F b ∧ b < w.heap.size) (.slice (some ⟨g, 0, none⟩) xs.length cap) (mTo tCond xs k j) ∧ Turn F w wr) (fun _ i _ => xs.length - (intOf i).toNat)
  case atStart => exact ⟨0, Nat.zero_le _, rfl, by rw [kAt_zero], by rw [mTo_zero]; exact slO_lt tCond_law H.out, Turn.refl _ _⟩
  case round =>
   obtain ⟨j, hj, rfl, rfl, hown, hon⟩ := hrel
   by_cases hlt : j < xs.length
   ·
    have i1 : (0 : Int) ≤ (j : Int) := by omega
    have i2 : (j : Int) < (xs.length : Int) := by omega
    have hjl : j < (mTo tCond xs k j).length := by rw [mTo_len hj]; exact hlt
    have HLL := hd (mTo_len (T := tCond) (k := k) hj)
    obtain ⟨r1, r2⟩ := kAt_range tCond_law (by decide) (k := k) HS.out hj
    obtain ⟨r3, r4⟩ := kAt_range tCond_law (by decide) (k := k) (j := j + 1) HS.out (by omega)
    have hzx := zL_at HS.out hlt
    have hstep := kAt_step (T := tCond) (k := k) hlt
    have hset := mTo_step (T := tCond) (k := k) hlt
    have hsz := hon.size
    obtain ⟨hme, hFg2, hgl, cj, Fj, Lc, hrow, hLc, hO, hFj, hput⟩ := slO_open tCond_law hown hjl
    clear hme hFg2
    rw [mTo_at hlt] at hO
    have HM : Hid (∃ m', kAt tCond xs k (j + 1) = m') := hd ⟨_, rfl⟩
    obtain ⟨m', hm'⟩ := HM.out
    rw [hm'] at hstep r3 r4
    have HM' := hd hm'
    clear hm' HM H hown hjl
    generalize kAt tCond xs k j = m at *
    generalize xs.getD j tCond.d = x at *
    rw [HLL.out] at hrow hput
    obtain ⟨a0, a1, a2⟩ := x
    rw [tCond_md] at hset
    rw [tCond_nd] at hstep
    obtain rfl := tCond_O hO
    have hmm : m + 1 + 1 + 1 = m' := by omega
    have HMM := hd hmm
    have hm0 : 0 ≤ m := by omega
    have hm1 : m ≤ 1073741824 := by omega
    clear hmm hstep hzx 
    have hLl : Lc.length = xs.length * 3 := hrow.1
    have HSET := hd hset
    clear hset
    have tt : Turn (fun b => b = g ∨ Fj b ∨ wr.heap.size ≤ b) wr wr := Turn.refl _ _
    have rr := hrow
    have c0 : ∃ x, wr.cell? ⟨g, j * 3, none⟩ = some x := ⟨_, (World.ownsRow.cellAt rr (j * 3) (by show j * 3 < xs.length * 3; omega)).trans (List.getElem?_eq_getElem (by have h9 := rr.1; have h8 : xs.length * tCond.n = xs.length * 3 := rfl; omega))⟩
    obtain ⟨y0, c0⟩ := c0
    have f0 := World.ownsRow.frozenAt rr (j * 3)
    have c1 : ∃ x, wr.cell? ⟨g, j * 3 + 1, none⟩ = some x := ⟨_, (World.ownsRow.cellAt rr (j * 3 + 1) (by show j * 3 + 1 < xs.length * 3; omega)).trans (List.getElem?_eq_getElem (by have h9 := rr.1; have h8 : xs.length * tCond.n = xs.length * 3 := rfl; omega))⟩
    obtain ⟨y1, c1⟩ := c1
    have f1 := World.ownsRow.frozenAt rr (j * 3 + 1)
    have c2 : ∃ x, wr.cell? ⟨g, j * 3 + 2, none⟩ = some x := ⟨_, (World.ownsRow.cellAt rr (j * 3 + 2) (by show j * 3 + 2 < xs.length * 3; omega)).trans (List.getElem?_eq_getElem (by have h9 := rr.1; have h8 : xs.length * tCond.n = xs.length * 3 := rfl; omega))⟩
    obtain ⟨y2, c2⟩ := c2
    have f2 := World.ownsRow.frozenAt rr (j * 3 + 2)
    go_wp2
    clear c0 f0 c1 f1 c2 f2
    have ts : Turn (fun b => b = g) wr (((wr.setCell ⟨g, j * 3, none⟩ (.int .i64 (m))).setCell ⟨g, j * 3 + 1, none⟩ (.int .i64 (m + 1))).setCell ⟨g, j * 3 + 2, none⟩ (.int .i64 (m + 1 + 1))) := ((((Turn.refl (fun b => b = g) _).trans (turn_set (G := fun b => b = g) (g := g) (j := j * 3) (u := .int .i64 (m)) rfl)).trans (turn_set (G := fun b => b = g) (g := g) (j := j * 3 + 1) (u := .int .i64 (m + 1)) rfl)).trans (turn_set (G := fun b => b = g) (g := g) (j := j * 3 + 2) (u := .int .i64 (m + 1 + 1)) rfl))
    replace rr := (World.ownsRow.stored (World.ownsRow.stored (World.ownsRow.stored rr (j * 3) (.int .i64 (m))).1 (j * 3 + 1) (.int .i64 (m + 1))).1 (j * 3 + 2) (.int .i64 (m + 1 + 1))).1
    replace tt := tt.trans (ts.mono (fun b h => Or.inl h))
    clear ts
    have hO2 : tCond.O (((wr.setCell ⟨g, j * 3, none⟩ (.int .i64 (m))).setCell ⟨g, j * 3 + 1, none⟩ (.int .i64 (m + 1))).setCell ⟨g, j * 3 + 2, none⟩ (.int .i64 (m + 1 + 1))) Fj [.int .i64 (m), .int .i64 (m + 1), .int .i64 (m + 1 + 1)] ((m), (m + 1), (m + 1 + 1)) := tCond_mkO
    have hst := hput (((wr.setCell ⟨g, j * 3, none⟩ (.int .i64 (m))).setCell ⟨g, j * 3 + 1, none⟩ (.int .i64 (m + 1))).setCell ⟨g, j * 3 + 2, none⟩ (.int .i64 (m + 1 + 1))) (((Lc.set (j * 3) (.int .i64 (m))).set (j * 3 + 1) (.int .i64 (m + 1))).set (j * 3 + 2) (.int .i64 (m + 1 + 1))) [.int .i64 (m), .int .i64 (m + 1), .int .i64 (m + 1 + 1)] Fj _ rr (fun p hp => by have hp2 : p < j * 3 ∨ j * 3 + 3 ≤ p := hp; rw [List.getElem?_set_ne (by omega)]; rw [List.getElem?_set_ne (by omega)]; rw [List.getElem?_set_ne (by omega)]) (fun i hi => by have hi' : i < 3 := hi; match i, hi' with | 0, _ => (show ((((Lc.set (j * 3) (.int .i64 (m))).set (j * 3 + 1) (.int .i64 (m + 1))).set (j * 3 + 2) (.int .i64 (m + 1 + 1))))[j * 3]? = _; rw [List.getElem?_set_ne (by omega)]; rw [List.getElem?_set_ne (by omega)]; rw [List.getElem?_set_self (by first | omega | (simp only [List.length_set]; omega))]; rfl) | 1, _ => (show ((((Lc.set (j * 3) (.int .i64 (m))).set (j * 3 + 1) (.int .i64 (m + 1))).set (j * 3 + 2) (.int .i64 (m + 1 + 1))))[j * 3 + 1]? = _; rw [List.getElem?_set_ne (by omega)]; rw [List.getElem?_set_self (by first | omega | (simp only [List.length_set]; omega))]; rfl) | 2, _ => (show ((((Lc.set (j * 3) (.int .i64 (m))).set (j * 3 + 1) (.int .i64 (m + 1))).set (j * 3 + 2) (.int .i64 (m + 1 + 1))))[j * 3 + 2]? = _; rw [List.getElem?_set_self (by first | omega | (simp only [List.length_set]; omega))]; rfl)) hO2 (fun b hb => ⟨(hFj b hb).1, Or.inl hb⟩) tt
    rw [HSET.out] at hst
    have HST := hd hst
    have hon2 := hon.trans (Turn.mono (G := fun b => F b ∧ b < w.heap.size) (G' := F) ⟨tt.os, tt.tape, tt.output, tt.size, fun b hb hn => tt.block b hb (fun h => hn (h.elim (fun h => by rw [h]; exact ⟨hFg, hgw⟩) (fun h => h.elim (fun h => (hFj b h).1) (fun h => absurd hb (Nat.not_lt.2 h)))))⟩ (fun b h => h.1))
    clear hst hput tt rr hO2 hon hFj hLc hLl
    go_roundw
    case rel => exact ⟨j + 1, by omega, by go_num, by rw [HMM.out]; rw [HM'.out], HST.out, hon2⟩
    case measure => simp [intOf]; omega
   ·
    obtain rfl : j = xs.length := by omega
    rw [mTo_all] at hown
    go_wp2
    go_ret
    exact ⟨rfl, slO_mono hown (fun b h => h.1), hon⟩
def tQuery : Ty (Int × Int × List (Int × Int × Int) × List Int) := tPair tInt (tPair tInt (tPair tCondS tIntS))
theorem tQuery_law : tQuery.Law := tPair_law tInt_law (tPair_law tInt_law (tPair_law tCondS_law tIntS_law))
theorem tQuery_O {w : World} {F : Nat → Prop} {cs : List Value} {a0 : Int} {a1 : Int} {x2 : List (Int × Int × Int)} {x3 : List Int} (h : tQuery.O w F cs (a0, a1, x2, x3)) : ∃ v2 v3, ∃ F2 F3 : Nat → Prop, cs = [.int .i64 a0, .int .i64 a1, v2, v3] ∧ SlO 182 tCond w F2 v2 x2 ∧ SlO 3 tInt w F3 v3 x3 ∧ (∀ b, F2 b → F b) ∧ (∀ b, F3 b → F b) ∧ (∀ b, F2 b → ¬ F3 b) := by
 obtain ⟨_, _, F0_1, F0_2, rfl, rfl, ⟨_, _, F1_1, F1_2, rfl, rfl, ⟨_, _, F2_1, F2_2, rfl, ⟨v2, rfl, h2⟩, ⟨v3, rfl, h3⟩, s2_1, s2_2, d2⟩, s1_1, s1_2, d1⟩, s0_1, s0_2, d0⟩ := h
 exact ⟨v2, v3, F2_1, F2_2, rfl, h2, h3, fun b h => (s0_2 b (s1_2 b (s2_1 b h))), fun b h => (s0_2 b (s1_2 b (s2_2 b h))), fun b h h2 => d2 b h h2⟩
theorem tQuery_mkO {w : World} {F : Nat → Prop} {a0 : Int} {a1 : Int} {x2 : List (Int × Int × Int)} {x3 : List Int} {v2 v3 : Value} {F2 F3 : Nat → Prop} (h2 : SlO 182 tCond w F2 v2 x2) (h3 : SlO 3 tInt w F3 v3 x3) (s2 : ∀ b, F2 b → F b) (s3 : ∀ b, F3 b → F b) (d2_3 : ∀ b, F2 b → ¬ F3 b) : tQuery.O w F [.int .i64 a0, .int .i64 a1, v2, v3] (a0, a1, x2, x3) := ⟨[.int .i64 a0], [.int .i64 a1, v2, v3], fun _ => False, fun b => F2 b ∨ (F3 b), rfl, rfl, ⟨[.int .i64 a1], [v2, v3], fun _ => False, fun b => F2 b ∨ (F3 b), rfl, rfl, ⟨[v2], [v3], F2, F3, rfl, ⟨_, rfl, h2⟩, ⟨_, rfl, h3⟩, (fun b h => (Or.inl h)), (fun b h => (Or.inr h)), (fun b h g => d2_3 b h g)⟩, (fun b h => (False.elim h)), (fun b h => (h.elim (fun q0 => (Or.inl q0)) (fun q0 => (Or.inr q0)))), (fun b h g => (False.elim h))⟩, (fun b h => (False.elim h)), (fun b h => (h.elim (fun q0 => s2 b q0) (fun q0 => s3 b q0))), (fun b h g => (False.elim h))⟩
set_option maxHeartbeats 8000000 in
theorem szQuery_Y (a0 a1 : Int) (v2 v3 : Value) (x2 : List (Int × Int × Int)) (x3 : List Int) (k0 : Int) (w : World) (h2 : SlR tCond w v2 x2) (h3 : SlR tInt w v3 x3) (hs : ((zL tCond x2 + zL tInt x3 : Nat) : Int) ≤ k0) (hk : k0 ≤ 1048576) :
  Calls Tryz.prog 35 #[.agg #[.int .i64 a0, .int .i64 a1, v2, v3], .int .i64 k0] w fun e w' => e = .returned (.int .i64 (k0 - ((zL tCond x2 + zL tInt x3 : Nat) : Int))) ∧ Below w.heap.size w w' := by
 have H2 := hd h2
 have H3 := hd h3
 clear h2 h3
 have HZ2 : Hid (((zL tCond x2 : Nat) : Int) ≤ k0) := hd (by omega)
 have HK2 : Hid (k0 ≤ 1048576) := hd (by omega)
 have hn2 : ¬ k0 - ((zL tCond x2 : Nat) : Int) < 0 := by omega
 have HZ3 : Hid (((zL tInt x3 : Nat) : Int) ≤ k0 - ((zL tCond x2 : Nat) : Int)) := hd (by omega)
 have HK3 : Hid (k0 - ((zL tCond x2 : Nat) : Int) ≤ 1048576) := hd (by omega)
 have hn3 : ¬ k0 - ((zL tCond x2 : Nat) : Int) - ((zL tInt x3 : Nat) : Int) < 0 := by omega
 have HE : Hid (k0 - ((zL tCond x2 : Nat) : Int) - ((zL tInt x3 : Nat) : Int) = k0 - ((zL tCond x2 + zL tInt x3 : Nat) : Int)) := hd (by omega)
 clear hs hk
 have hb : Below w.heap.size w (w.alloc (.cells #[.int .i64 a0, .int .i64 a1, v2, v3] 65)) := (Below.refl _ w).alloc (Nat.le_refl _) _
 have g0 : (w.alloc (.cells #[.int .i64 a0, .int .i64 a1, v2, v3] 65)).heap[w.heap.size]? = some (.cells #[.int .i64 a0, .int .i64 a1, v2, v3] 65 (0, 0)) := heap_alloc_new w _
 have hz0 : w.heap.size < (w.alloc (.cells #[.int .i64 a0, .int .i64 a1, v2, v3] 65)).heap.size := by simp
 go_enter Tryz.func35, Tryz.ntmps35
 go_wp2_with fail
 generalize (w.alloc (.cells #[.int .i64 a0, .int .i64 a1, v2, v3] 65)) = W at *
 refine (szCondS_Y v2 x2 (k0) W (slR_below tCond_law H2.out hb) HZ2.out HK2.out).mono ?_
 rintro e W1 ⟨rfl, b1⟩
 replace g0 := (b1.block w.heap.size hz0).trans g0
 replace hz0 := Nat.lt_of_lt_of_le hz0 b1.size
 replace hb := hb.trans (b1.mono hb.size)
 clear b1
 have p3 := cr 3 (v3) g0
 go_wp2_with fail
 clear p3
 refine (szIntS_Y v3 x3 (k0 - ((zL tCond x2 : Nat) : Int)) W1 (slR_below tInt_law H3.out hb) HZ3.out HK3.out).mono ?_
 rintro e W2 ⟨rfl, b1⟩
 replace g0 := (b1.block w.heap.size hz0).trans g0
 replace hz0 := Nat.lt_of_lt_of_le hz0 b1.size
 replace hb := hb.trans (b1.mono hb.size)
 clear b1
 go_wp2
 go_ret
 exact ⟨ty_ret HE.out, hb⟩
set_option maxHeartbeats 8000000 in
theorem szQuery_N (a0 a1 : Int) (v2 v3 : Value) (x2 : List (Int × Int × Int)) (x3 : List Int) (k0 : Int) (w : World) (h2 : SlR tCond w v2 x2) (h3 : SlR tInt w v3 x3) (hs : k0 < ((zL tCond x2 + zL tInt x3 : Nat) : Int)) (hk : k0 ≤ 1048576) (hp : 0 ≤ k0) (o2 : tCondS.ok x2) (o3 : tIntS.ok x3) :
  Calls Tryz.prog 35 #[.agg #[.int .i64 a0, .int .i64 a1, v2, v3], .int .i64 k0] w fun e w' => e = .returned (.int .i64 (-1)) ∧ Below w.heap.size w w' := by
 have H2 := hd h2
 have H3 := hd h3
 clear h2 h3
 have HO2 := hd o2
 have HO3 := hd o3
 clear o2 o3
 by_cases c0 : k0 < ((zL tCond x2 : Nat) : Int)
 ·
  have HZ2 : Hid (k0 < ((zL tCond x2 : Nat) : Int)) := hd (by omega)
  have HP2 : Hid (0 ≤ k0) := hd (by omega)
  have HK2 : Hid (k0 ≤ 1048576) := hd (by omega)
  clear hs hk
  clear c0 hp
  have hb : Below w.heap.size w (w.alloc (.cells #[.int .i64 a0, .int .i64 a1, v2, v3] 65)) := (Below.refl _ w).alloc (Nat.le_refl _) _
  have g0 : (w.alloc (.cells #[.int .i64 a0, .int .i64 a1, v2, v3] 65)).heap[w.heap.size]? = some (.cells #[.int .i64 a0, .int .i64 a1, v2, v3] 65 (0, 0)) := heap_alloc_new w _
  have hz0 : w.heap.size < (w.alloc (.cells #[.int .i64 a0, .int .i64 a1, v2, v3] 65)).heap.size := by simp
  go_enter Tryz.func35, Tryz.ntmps35
  go_wp2_with fail
  generalize (w.alloc (.cells #[.int .i64 a0, .int .i64 a1, v2, v3] 65)) = W at *
  refine (szCondS_N v2 x2 (k0) W (slR_below tCond_law H2.out hb) HZ2.out HK2.out HP2.out HO2.out).mono ?_
  rintro e W1 ⟨rfl, b1⟩
  replace g0 := (b1.block w.heap.size hz0).trans g0
  replace hz0 := Nat.lt_of_lt_of_le hz0 b1.size
  replace hb := hb.trans (b1.mono hb.size)
  clear b1
  go_wp2
  go_ret
  exact ⟨rfl, hb⟩
 ·
  have HZ2 : Hid (((zL tCond x2 : Nat) : Int) ≤ k0) := hd (by omega)
  have hn2 : ¬ k0 - ((zL tCond x2 : Nat) : Int) < 0 := by omega
  have HK2 : Hid (k0 ≤ 1048576) := hd (by omega)
  have HZ3 : Hid (k0 - ((zL tCond x2 : Nat) : Int) < ((zL tInt x3 : Nat) : Int)) := hd (by omega)
  have HP3 : Hid (0 ≤ k0 - ((zL tCond x2 : Nat) : Int)) := hd (by omega)
  have HK3 : Hid (k0 - ((zL tCond x2 : Nat) : Int) ≤ 1048576) := hd (by omega)
  clear hs hk
  clear hp c0
  have hb : Below w.heap.size w (w.alloc (.cells #[.int .i64 a0, .int .i64 a1, v2, v3] 65)) := (Below.refl _ w).alloc (Nat.le_refl _) _
  have g0 : (w.alloc (.cells #[.int .i64 a0, .int .i64 a1, v2, v3] 65)).heap[w.heap.size]? = some (.cells #[.int .i64 a0, .int .i64 a1, v2, v3] 65 (0, 0)) := heap_alloc_new w _
  have hz0 : w.heap.size < (w.alloc (.cells #[.int .i64 a0, .int .i64 a1, v2, v3] 65)).heap.size := by simp
  go_enter Tryz.func35, Tryz.ntmps35
  go_wp2_with fail
  generalize (w.alloc (.cells #[.int .i64 a0, .int .i64 a1, v2, v3] 65)) = W at *
  refine (szCondS_Y v2 x2 (k0) W (slR_below tCond_law H2.out hb) HZ2.out HK2.out).mono ?_
  rintro e W1 ⟨rfl, b1⟩
  replace g0 := (b1.block w.heap.size hz0).trans g0
  replace hz0 := Nat.lt_of_lt_of_le hz0 b1.size
  replace hb := hb.trans (b1.mono hb.size)
  clear b1
  have p3 := cr 3 (v3) g0
  go_wp2_with fail
  clear p3
  refine (szIntS_N v3 x3 (k0 - ((zL tCond x2 : Nat) : Int)) W1 (slR_below tInt_law H3.out hb) HZ3.out HK3.out HP3.out HO3.out).mono ?_
  rintro e W2 ⟨rfl, b1⟩
  replace g0 := (b1.block w.heap.size hz0).trans g0
  replace hz0 := Nat.lt_of_lt_of_le hz0 b1.size
  replace hb := hb.trans (b1.mono hb.size)
  clear b1
  go_wp2
  go_ret
  exact ⟨rfl, hb⟩
set_option maxHeartbeats 8000000 in
theorem toQuery_T (a0 a1 : Int) (v2 v3 : Value) (x2 : List (Int × Int × Int)) (x3 : List Int) (w : World) (h2 : SlR tCond w v2 x2) (h3 : SlR tInt w v3 x3) (s2 : zL tCond x2 ≤ 1048576) (s3 : zL tInt x3 ≤ 1048576) :
  Calls Tryz.prog 37 #[.agg #[.int .i64 a0, .int .i64 a1, v2, v3]] w (FreshT tQuery (fun cs => .agg cs.toArray) w (a0, a1, x2, x3)) := by
 have H2 := hd h2
 have H3 := hd h3
 clear h2 h3
 have S2 := hd s2
 have S3 := hd s3
 clear s2 s3
 go_enter Tryz.func37, Tryz.ntmps37
 go_wp2_with fail
 have hb : Below w.heap.size w (((w.alloc (.cells #[.int .i64 a0, .int .i64 a1, v2, v3] 65)).alloc (.cells #[.int .i64 0, .int .i64 0, .slice none 0 0, .slice none 0 0] 51)).alloc (.cells #[.int .i64 a0, .int .i64 a1, .slice none 0 0, .slice none 0 0] 51)) := (((Below.refl _ w).alloc (Nat.le_refl _) _).alloc (by simp) _).alloc (by simp; omega) _
 have g2 : (((w.alloc (.cells #[.int .i64 a0, .int .i64 a1, v2, v3] 65)).alloc (.cells #[.int .i64 0, .int .i64 0, .slice none 0 0, .slice none 0 0] 51)).alloc (.cells #[.int .i64 a0, .int .i64 a1, .slice none 0 0, .slice none 0 0] 51)).heap[w.heap.size + 1 + 1]? = some (.cells #[.int .i64 a0, .int .i64 a1, .slice none 0 0, .slice none 0 0] 51 (0, 0)) := by
  have := heap_alloc_new ((w.alloc (.cells #[.int .i64 a0, .int .i64 a1, v2, v3] 65)).alloc (.cells #[.int .i64 0, .int .i64 0, .slice none 0 0, .slice none 0 0] 51)) (.cells #[.int .i64 a0, .int .i64 a1, .slice none 0 0, .slice none 0 0] 51)
  simpa only [World.size_alloc] using this
 have g1 : (((w.alloc (.cells #[.int .i64 a0, .int .i64 a1, v2, v3] 65)).alloc (.cells #[.int .i64 0, .int .i64 0, .slice none 0 0, .slice none 0 0] 51)).alloc (.cells #[.int .i64 a0, .int .i64 a1, .slice none 0 0, .slice none 0 0] 51)).heap[w.heap.size + 1]? = some (.cells #[.int .i64 0, .int .i64 0, .slice none 0 0, .slice none 0 0] 51 (0, 0)) := by
  have := heap_alloc_new (w.alloc (.cells #[.int .i64 a0, .int .i64 a1, v2, v3] 65)) (.cells #[.int .i64 0, .int .i64 0, .slice none 0 0, .slice none 0 0] 51)
  rw [Below.heap_alloc _ _ _ (by simp)]
  simpa only [World.size_alloc] using this
 have g0 : (((w.alloc (.cells #[.int .i64 a0, .int .i64 a1, v2, v3] 65)).alloc (.cells #[.int .i64 0, .int .i64 0, .slice none 0 0, .slice none 0 0] 51)).alloc (.cells #[.int .i64 a0, .int .i64 a1, .slice none 0 0, .slice none 0 0] 51)).heap[w.heap.size]? = some (.cells #[.int .i64 a0, .int .i64 a1, v2, v3] 65 (0, 0)) := by
  rw [Below.heap_alloc _ _ _ (by simp; omega), Below.heap_alloc _ _ _ (by simp)]
  exact heap_alloc_new w _
 have hz : w.heap.size + 2 < (((w.alloc (.cells #[.int .i64 a0, .int .i64 a1, v2, v3] 65)).alloc (.cells #[.int .i64 0, .int .i64 0, .slice none 0 0, .slice none 0 0] 51)).alloc (.cells #[.int .i64 a0, .int .i64 a1, .slice none 0 0, .slice none 0 0] 51)).heap.size := by simp [World.size_alloc]
 generalize (((w.alloc (.cells #[.int .i64 a0, .int .i64 a1, v2, v3] 65)).alloc (.cells #[.int .i64 0, .int .i64 0, .slice none 0 0, .slice none 0 0] 51)).alloc (.cells #[.int .i64 a0, .int .i64 a1, .slice none 0 0, .slice none 0 0] 51)) = W at *
 refine (toCondS_S v2 x2 W (slR_below tCond_law H2.out hb) S2.out).mono ?_
 rintro e w1 ⟨u2, rfl, o2, b1⟩
 obtain ⟨ua2, uc2, rfl⟩ := slO_len o2
 replace o2 := slO_mono (slO_lt tCond_law o2) (F' := fun b => W.heap.size ≤ b ∧ b < w1.heap.size) (fun b h => h)
 replace g0 := (b1.block _ (by omega)).trans g0
 replace g1 := (b1.block _ (by omega)).trans g1
 replace g2 := (b1.block _ (by omega)).trans g2
 have zz1 := b1.size
 replace hb := hb.trans (b1.mono (by omega))
 clear b1
 have c2_0 := cr 0 (Value.int .i64 a0) g2
 have f2_0 := frozen_of_row w1 _ 0 _ _ g2
 have c2_1 := cr 1 (Value.int .i64 a1) g2
 have f2_1 := frozen_of_row w1 _ 1 _ _ g2
 have c2_2 := cr 2 (Value.slice none 0 0) g2
 have f2_2 := frozen_of_row w1 _ 2 _ _ g2
 have ne1 : ¬ w.heap.size = w.heap.size + 1 + 1 := by omega
 have ne2 : ¬ w.heap.size + 1 = w.heap.size + 1 + 1 := by omega
 have ne3 : ¬ w.heap.size + 1 + 1 = w.heap.size + 1 := by omega
 have c0_3 := cr 3 (v3) g0
 have l0_3 : (w1.setCell ⟨w.heap.size + 1 + 1, 2, none⟩ (.slice ua2 x2.length uc2)).cell? ⟨w.heap.size, 3, none⟩ = some (v3) := by
  have m : (w1.setCell ⟨w.heap.size + 1 + 1, 2, none⟩ (.slice ua2 x2.length uc2)).heap[w.heap.size]? = some (.cells #[.int .i64 a0, .int .i64 a1, v2, v3] 65 (0, 0)) := by
   repeat rw [heap_setCell_other _ _ _ _ (by simp <;> omega)]
   exact g0
  exact (cell_of_row _ _ 3 _ _ _ m).trans rfl
 go_wp2_with fail
 clear c2_0 f2_0 c2_1 f2_1 c2_2 f2_2 ne1 ne2 ne3 c0_3 l0_3
 have hw : Turn (fun b => b = w.heap.size + 1 + 1) w1 (w1.setCell ⟨w.heap.size + 1 + 1, 2, none⟩ (.slice ua2 x2.length uc2)) := by
  first | exact ((Turn.refl _ _).trans (turn_set (g := w.heap.size + 1 + 1) (j := 2) (u := .slice ua2 x2.length uc2) rfl)) | skip
 replace g0 := (hw.block _ (by omega) (by omega)).trans g0
 replace g1 := (hw.block _ (by omega) (by omega)).trans g1
 have g2n := (heap_setCell_same _ (w.heap.size + 1 + 1) 2 _ _ (.slice ua2 x2.length uc2) g2)
 replace g2 : (w1.setCell ⟨w.heap.size + 1 + 1, 2, none⟩ (.slice ua2 x2.length uc2)).heap[w.heap.size + 1 + 1]? = some (.cells #[.int .i64 a0, .int .i64 a1, .slice ua2 x2.length uc2, .slice none 0 0] 51 (0, 0)) := by simpa using g2n
 clear g2n
 replace o2 := slO_turn tCond_law o2 hw (fun b h1 h2 => by have := h1.1; omega)
 replace hb := below_turn hb hw (fun b h => by omega) (by omega)
 have hz0 := hw.size
 clear hw
 generalize (w1.setCell ⟨w.heap.size + 1 + 1, 2, none⟩ (.slice ua2 x2.length uc2)) = W1 at *
 refine (toIntS_S v3 x3 W1 (slR_below tInt_law H3.out hb) S3.out).mono ?_
 rintro e w2 ⟨u3, rfl, o3, b1⟩
 obtain ⟨ua3, uc3, rfl⟩ := slO_len o3
 replace o3 := slO_mono (slO_lt tInt_law o3) (F' := fun b => W1.heap.size ≤ b ∧ b < w2.heap.size) (fun b h => h)
 replace g0 := (b1.block _ (by omega)).trans g0
 replace g1 := (b1.block _ (by omega)).trans g1
 replace g2 := (b1.block _ (by omega)).trans g2
 replace o2 := slO_fresh tCond_law o2 b1
 have zz2 := b1.size
 replace hb := hb.trans (b1.mono (by omega))
 clear b1
 have c2_0 := cr 0 (Value.int .i64 a0) g2
 have f2_0 := frozen_of_row w2 _ 0 _ _ g2
 have c2_1 := cr 1 (Value.int .i64 a1) g2
 have f2_1 := frozen_of_row w2 _ 1 _ _ g2
 have c2_2 := cr 2 (Value.slice ua2 x2.length uc2) g2
 have f2_2 := frozen_of_row w2 _ 2 _ _ g2
 have c2_3 := cr 3 (Value.slice none 0 0) g2
 have f2_3 := frozen_of_row w2 _ 3 _ _ g2
 have ne1 : ¬ w.heap.size = w.heap.size + 1 + 1 := by omega
 have ne2 : ¬ w.heap.size + 1 = w.heap.size + 1 + 1 := by omega
 have ne3 : ¬ w.heap.size + 1 + 1 = w.heap.size + 1 := by omega
 have c1_0 := cr 0 (Value.int .i64 0) g1
 have f1_0 := frozen_of_row w2 _ 0 _ _ g1
 have c1_1 := cr 1 (Value.int .i64 0) g1
 have f1_1 := frozen_of_row w2 _ 1 _ _ g1
 have c1_2 := cr 2 (Value.slice none 0 0) g1
 have f1_2 := frozen_of_row w2 _ 2 _ _ g1
 have c1_3 := cr 3 (Value.slice none 0 0) g1
 have f1_3 := frozen_of_row w2 _ 3 _ _ g1
 go_wp2
 clear c2_0 f2_0 c2_1 f2_1 c2_2 f2_2 c2_3 f2_3 ne1 ne2 ne3 c1_0 f1_0 c1_1 f1_1 c1_2 f1_2 c1_3 f1_3
 have hw : Turn (fun b => b = w.heap.size + 1 ∨ b = w.heap.size + 1 + 1) w2 (((((w2.setCell ⟨w.heap.size + 1 + 1, 3, none⟩ (.slice ua3 x3.length uc3)).setCell ⟨w.heap.size + 1, 0, none⟩ (.int .i64 a0)).setCell ⟨w.heap.size + 1, 1, none⟩ (.int .i64 a1)).setCell ⟨w.heap.size + 1, 2, none⟩ (.slice ua2 x2.length uc2)).setCell ⟨w.heap.size + 1, 3, none⟩ (.slice ua3 x3.length uc3)) := by
  first | exact ((((((Turn.refl _ _).trans (turn_set (g := w.heap.size + 1 + 1) (j := 3) (u := .slice ua3 x3.length uc3) (Or.inr rfl))).trans (turn_set (g := w.heap.size + 1) (j := 0) (u := .int .i64 a0) (Or.inl rfl))).trans (turn_set (g := w.heap.size + 1) (j := 1) (u := .int .i64 a1) (Or.inl rfl))).trans (turn_set (g := w.heap.size + 1) (j := 2) (u := .slice ua2 x2.length uc2) (Or.inl rfl))).trans (turn_set (g := w.heap.size + 1) (j := 3) (u := .slice ua3 x3.length uc3) (Or.inl rfl))) | skip
 have r := (heap_setCell_same _ (w.heap.size + 1) 3 _ _ (.slice ua3 x3.length uc3) (heap_setCell_same _ (w.heap.size + 1) 2 _ _ (.slice ua2 x2.length uc2) (heap_setCell_same _ (w.heap.size + 1) 1 _ _ (.int .i64 a1) (heap_setCell_same _ (w.heap.size + 1) 0 _ _ (.int .i64 a0) ((heap_setCell_other _ ⟨w.heap.size + 1 + 1, 3, none⟩ (w.heap.size + 1) (.slice ua3 x3.length uc3) (by simp)).trans g1)))))
 have e0 := cell_of_row _ _ 0 _ _ _ r
 have e1 := cell_of_row _ _ 1 _ _ _ r
 have e2 := cell_of_row _ _ 2 _ _ _ r
 have e3 := cell_of_row _ _ 3 _ _ _ r
 simp at e0 e1 e2 e3
 replace o2 := slO_turn tCond_law o2 hw (fun b h1 h2 => by have := h1.1; omega)
 replace o3 := slO_turn tInt_law o3 hw (fun b h1 h2 => by have := h1.1; omega)
 replace hb := below_turn hb hw (fun b h => by omega) (by omega)
 refine bodyPost_ret (v := .agg #[.int .i64 a0, .int .i64 a1, .slice ua2 x2.length uc2, .slice ua3 x3.length uc3]) ?_ rfl ?_
 ·
  simp [results, Tryz.f37, go_sem, e0, e1, e2, e3]
 ·
  exact ⟨[.int .i64 a0, .int .i64 a1, .slice ua2 x2.length uc2, .slice ua3 x3.length uc3], rfl, tQuery_mkO o2 o3 (fun b h => by show w.heap.size ≤ b; have := h.1; omega) (fun b h => by show w.heap.size ≤ b; have := h.1; omega) (fun b h1 h2 => by have := h1.1; have := h1.2; have := h2.1; have := h2.2; omega), hb⟩
set_option maxHeartbeats 8000000 in
theorem eqQuery_T (a0 a1 : Int) (v2 v3 : Value) (x2 : List (Int × Int × Int)) (x3 : List Int) (u2 u3 : Value) (w : World) (h2 : SlR tCond w v2 x2) (h3 : SlR tInt w v3 x3) (g2 : SlR tCond w u2 x2) (g3 : SlR tInt w u3 x3) (s2 : zL tCond x2 ≤ 1048576) (s3 : zL tInt x3 ≤ 1048576) :
  Calls Tryz.prog 39 #[.agg #[.int .i64 a0, .int .i64 a1, v2, v3], .agg #[.int .i64 a0, .int .i64 a1, u2, u3]] w fun e w' => e = .returned (.bool true) ∧ Below w.heap.size w w' := by
 have H2 := hd h2; have G2 := hd g2; have S2 := hd s2
 have H3 := hd h3; have G3 := hd g3; have S3 := hd s3
 clear h2 g2 s2 h3 g3 s3
 have e0 : (a0 != a0) = false := by simp
 have e1 : (a1 != a1) = false := by simp
 go_enter Tryz.func39, Tryz.ntmps39
 go_wp2_with fail
 have hb : Below w.heap.size w ((w.alloc (.cells #[.int .i64 a0, .int .i64 a1, v2, v3] 51)).alloc (.cells #[.int .i64 a0, .int .i64 a1, u2, u3] 51)) := ((Below.refl _ w).alloc (Nat.le_refl _) _).alloc (by simp) _
 have g1 : ((w.alloc (.cells #[.int .i64 a0, .int .i64 a1, v2, v3] 51)).alloc (.cells #[.int .i64 a0, .int .i64 a1, u2, u3] 51)).heap[w.heap.size + 1]? = some (.cells #[.int .i64 a0, .int .i64 a1, u2, u3] 51 (0, 0)) := by
  have := heap_alloc_new (w.alloc (.cells #[.int .i64 a0, .int .i64 a1, v2, v3] 51)) (.cells #[.int .i64 a0, .int .i64 a1, u2, u3] 51)
  simpa only [World.size_alloc] using this
 have g0 : ((w.alloc (.cells #[.int .i64 a0, .int .i64 a1, v2, v3] 51)).alloc (.cells #[.int .i64 a0, .int .i64 a1, u2, u3] 51)).heap[w.heap.size]? = some (.cells #[.int .i64 a0, .int .i64 a1, v2, v3] 51 (0, 0)) := by
  rw [Below.heap_alloc _ _ _ (by simp)]
  exact heap_alloc_new w _
 have hz : w.heap.size + 1 < ((w.alloc (.cells #[.int .i64 a0, .int .i64 a1, v2, v3] 51)).alloc (.cells #[.int .i64 a0, .int .i64 a1, u2, u3] 51)).heap.size := by simp [World.size_alloc]
 generalize ((w.alloc (.cells #[.int .i64 a0, .int .i64 a1, v2, v3] 51)).alloc (.cells #[.int .i64 a0, .int .i64 a1, u2, u3] 51)) = W at *
 refine (eqCondS_S v2 u2 x2 W (slR_below tCond_law H2.out hb) (slR_below tCond_law G2.out hb) S2.out).mono ?_
 rintro e w1 ⟨rfl, b1⟩
 replace g0 := (b1.block _ (by omega)).trans g0
 replace g1 := (b1.block _ (by omega)).trans g1
 have zz0 := b1.size
 replace hb := hb.trans (b1.mono (by omega))
 clear b1
 have p0_3 := cr 3 (v3) g0
 have p1_3 := cr 3 (u3) g1
 go_wp2_with fail
 clear p0_3 p1_3
 refine (eqIntS_S v3 u3 x3 w1 (slR_below tInt_law H3.out hb) (slR_below tInt_law G3.out hb) S3.out).mono ?_
 rintro e w2 ⟨rfl, b1⟩
 replace g0 := (b1.block _ (by omega)).trans g0
 replace g1 := (b1.block _ (by omega)).trans g1
 have zz1 := b1.size
 replace hb := hb.trans (b1.mono (by omega))
 clear b1
 go_wp2
 go_ret
 exact ⟨rfl, hb⟩
end Go.Proofs.YtogbgeekmdnhlaaGreatDoor
