/-
 Texts of the proof, merged: Uc, LawInts, RowVal, Ty, TyInt, TVersion, TVersionS, TVersionSS, TStore, TyIntE, TCond, TCondS, TQuery, TRow, TRowS, TActive, TActiveS, TFinished, TFinishedS.
-/
import Derived.Test.YtnepfacnmaoieaaGreatDoorRows
import Derived.WalkKit
import Derived.Below
import Derived.Lib.Hide
import Derived.OwnWalk
import Derived.BigQuiet
import Derived.Deep.QuietTactic
import Derived.WalkSpells
import Derived.Deep.RegionHeld3
import Derived.IntWalk
import Derived.Laws.OwnMore
import Derived.Laws.MakeOwn
namespace Go.Proofs.YtnepfacnmaoieaaGreatDoor
open Go.RowKit
open Go renaming cell_of_row → Ia, heap_setCell_same → Ib, heap_alloc_new → Ic
open Go.World renaming size_alloc → Ie
open List renaming getElem?_set_ne → Ig, getElem?_eq_getElem → Ih
open Nat renaming le_refl → Ii, zero_le → Ij
open Go.Value.slice renaming injEq → Ik
open Go.RowKit.Below renaming refl → Il
instance iI : Coe Int Value := ⟨.int .i64⟩
instance iW : Coe World Nat := ⟨fun w => w.heap.size⟩
instance iU : Coe Unit Value := ⟨fun _ => .slice none 0 0⟩
inductive ZD0 | Ja
open ZD0
instance iZ : Coe ZD0 Value := ⟨fun _ => .int .i64 0⟩
set_option maxRecDepth 100000
set_option linter.unusedVariables false
set_option linter.unusedSimpArgs false
theorem Tryz.infoI64 : (Tryz.prog.info? 3).map (fun i => (i.zero, i.size, i.bytes)) = some (some (.int .i64 0), 1, 8) := by kernel_rfl
/-- The slice v reads as the numbers xs. -/
def Uc (w : World) (v : Value) (xs : List Int) : Prop :=
 (xs = [] ∧ ∃ a cap, v = .slice a 0 cap) ∨ ∃ b off cap, v = .slice (some ⟨b, off, none⟩) xs.length cap ∧ xs.length ≤ cap ∧ b < w.heap.size ∧ ∀ j, j < xs.length → w.cell? ⟨b, off + j, none⟩ = some (.int .i64 (xs.getD j 0))
/-- The slice v owns the numbers xs, in a block from B on. -/
def Ey (w : World) (B : Nat) (v : Value) (xs : List Int) : Prop := w.ownsRow B 3 1 v xs.length (xs.map (Value.int .i64))
theorem Yq {B : Nat} {a w w' : World} (h : Below B a w) (h1 : w'.heap = w.heap) (h2 : w'.os = w.os) (h3 : w'.tape = w.tape) (h4 : w'.output = w.output) : Below B a w' :=
 ⟨h2.trans h.os, h3.trans h.tape, h4.trans h.output, by rw [h1]; exact h.size, fun k hk => by rw [h1]; exact h.block k hk⟩
theorem Yg {w : World} {v : Value} {xs : List Int} (h : Uc w v xs) : ∃ a cap, v = .slice a xs.length cap := by
 rcases h with ⟨rfl, a, cap, rfl⟩ | ⟨b, off, cap, rfl, _⟩
 ·
  exact ⟨a, cap, rfl⟩
 ·
  exact ⟨_, cap, rfl⟩
theorem Kx {W w : World} {v : Value} {xs : List Int} (h : Uc W v xs) (hb : Below W W w) : Uc w v xs := by
 rcases h with h | ⟨b, off, cap, h1, h2, h3, h4⟩
 ·
  exact Or.inl h
 ·
  exact Or.inr ⟨b, off, cap, h1, h2, Nat.lt_of_lt_of_le h3 hb.size, fun j hj => (hb.cell (p := ⟨b, off + j, none⟩) h3).trans (h4 j hj)⟩
/-- What 'make([]int, n)' owns. -/
theorem ownsN_made {w : World} {B g n : Nat} (h : w.ownsRow B 3 1 (.slice (some ⟨g, 0, none⟩) n n) n (madeCells #[Ja] n).toList) : Ey w B (.slice (some ⟨g, 0, none⟩) n n) (List.replicate n 0) := by
 have e : (madeCells #[Ja] n).toList = List.replicate n (.int .i64 0) := toList_madeCells_one Ja n
 rw [e] at h
 unfold Ey
 simpa using h
theorem ownsN_len {w : World} {B : Nat} {a : Option Addr} {n cap : Nat} {xs : List Int} (h : Ey w B (.slice a n cap) xs) : n = xs.length := by
 rcases h.2 with ⟨h', h0⟩ | ⟨_, _, _, h', _⟩
 ·
  simp only [Ik] at h'; omega
 ·
  simp only [Ik] at h'; exact h'.2.1
theorem ownsN_cell {w : World} {B g n cap j : Nat} {xs : List Int} {x : Int} (h : Ey w B (.slice (some ⟨g, 0, none⟩) n cap) xs) (hx : xs[j]? = some x) : w.cell? ⟨g, j, none⟩ = some (.int .i64 x) := by
 have := World.ownsRow.cells h (g := g) rfl j (.int .i64 x) (by simp [hx])
 have e : (⟨g, 0, none⟩ : Addr).add j = ⟨g, j, none⟩ := by unfold Addr.add; split <;> simp_all
 rwa [e] at this
theorem ownsN_frozen {w : World} {B g n cap : Nat} {xs : List Int} (h : Ey w B (.slice (some ⟨g, 0, none⟩) n cap) xs) (j : Nat) : w.frozen? ⟨g, j, none⟩ = false := by
 obtain rfl := ownsN_len h
 exact World.ownsRow.frozenAt h j
theorem ownsN_store {w : World} {B g n cap : Nat} {xs : List Int} (h : Ey w B (.slice (some ⟨g, 0, none⟩) n cap) xs) (j : Nat) (x : Int) : Ey (w.setCell ⟨g, j, none⟩ (.int .i64 x)) B (.slice (some ⟨g, 0, none⟩) n cap) (xs.set j x) := by
 obtain rfl := ownsN_len h
 have := (World.ownsRow.stored h j (.int .i64 x)).1
 unfold Ey
 rw [List.length_set, List.map_set]
 exact this
/-- The form of what is owned: nil, or the head of a block. -/
theorem ownsN_form {w : World} {B : Nat} {v : Value} {xs : List Int} (h : Ey w B v xs) : (v = .slice none 0 0 ∧ xs = []) ∨ ∃ g cap, v = .slice (some ⟨g, 0, none⟩) xs.length cap ∧ B ≤ g ∧ g < w.heap.size := by
 rcases h.2 with ⟨rfl, h0⟩ | ⟨g, cap, cur, rfl, hb, hg, _⟩
 ·
  exact .inl ⟨rfl, List.eq_nil_of_length_eq_zero h0⟩
 ·
  exact .inr ⟨g, cap, rfl, hb, (Array.getElem?_eq_some_iff.1 hg).1⟩
/-- A slice in new memory that holds the numbers xs. -/
def Fresh (w : World) (xs : List Int) (e : Ending) (w' : World) : Prop := ∃ v', e = .returned v' ∧ Ey w' w.heap.size v' xs ∧ Below w w w'
theorem Vq {w : World} {v : Value} {xs : List Int} (h : Uc w v xs) (hp : 0 < xs.length) : ∃ b off cap, v = .slice (some ⟨b, off, none⟩) xs.length cap ∧ b < w.heap.size ∧ ∀ j, j < xs.length → w.cell? ⟨b, off + j, none⟩ = some (.int .i64 (xs.getD j 0)) := by
 rcases h with ⟨rfl, _⟩ | ⟨b, off, cap, h1, h2, h3, h4⟩
 ·
  simp at hp
 ·
  exact ⟨b, off, cap, h1, h3, h4⟩
theorem copy_step (xs : List Int) (k : Nat) (h : k < xs.length) : (xs.take k ++ List.replicate (xs.length - k) 0).set k (xs.getD k 0) = xs.take (k + 1) ++ List.replicate (xs.length - (k + 1)) 0 := by
 have hk : (xs.take k).length = k := by rw [List.length_take]; omega
 rw [List.set_append_right _ _ (by omega), hk, Nat.sub_self, show xs.length - k = (xs.length - (k + 1)) + 1 by omega, List.replicate_succ, List.set_cons_zero, List.take_succ_eq_append_getElem h, List.append_assoc]
 simp [List.getD, h]
theorem copy_at (xs : List Int) (k : Nat) (h : k < xs.length) : (xs.take k ++ List.replicate (xs.length - k) 0)[k]? = some 0 := by
 have hk : (xs.take k).length = k := by rw [List.length_take]; omega
 rw [List.getElem?_append_right (by omega), hk, Nat.sub_self, List.getElem?_replicate, if_pos (by omega)]
theorem toIntS_any (v : Value) (xs : List Int) (w : World) (h : Uc w v xs) (hn : xs.length ≤ 1048576) :
  Calls Tryz.prog 57 #[v] w (Fresh w xs) := by
 obtain ⟨i0, hi, hz0, hz1, hz2⟩ := info_parts Tryz.infoI64
 have HI := Lib.hid hi; have HZ0 := Lib.hid hz0; have HZ1 := Lib.hid hz1; have HZ2 := Lib.hid hz2
 clear hi hz0 hz1 hz2
 have H := Lib.hid h
 obtain ⟨a, cap, rfl⟩ := Yg h
 clear h
 go_enter Tryz.func57, Tryz.ntmps57
 go_wp2_with (at_make; refine wpList_make_full _ rfl (.tmp 6) (.tmp 6) 25 rfl w.heap.size 3 i0 Ja 1 Tryz.underlying25 HI.out HZ0.out HZ1.out _ _ _ _ xs.length rfl rfl rfl rfl (by rw [HZ2.out]; omega) (by unfold maxLen; omega) (Ii _) ?_)
 intro w1 hown0 hg0
 have hown1 := ownsN_made hown0
 have hbel1 := (Il w.heap.size w).grown hg0 (Ii _) (fun k hk => by cases hk)
 clear hown0 hg0
 go_wp2
 go_loopw [4] (fun i wr => ∃ k : Nat, k ≤ xs.length ∧ i = .int .i64 k ∧ Ey wr w.heap.size (.slice (some ⟨w, 0, none⟩) xs.length xs.length) (xs.take k ++ List.replicate (xs.length - k) 0) ∧ Below w w wr) (fun i _ => xs.length - (intOf i).toNat)
 case atStart => exact ⟨0, Ij _, rfl, by simpa using hown1, hbel1⟩
 case round =>
  obtain ⟨k, hk, rfl, hown, hbel⟩ := hrel
  by_cases hlt : k < xs.length
  ·
   obtain ⟨b, off, cap', hv, hbl, hc⟩ := Vq H.out (by omega)
   simp only [Ik] at hv
   obtain ⟨rfl, _, rfl⟩ := hv
   have hcell := (hbel.cell (p := ⟨b, off + k, none⟩) hbl).trans (hc k hlt)
   have hset := copy_step xs k hlt
   have i1 : (0 : Int) ≤ (k : Int) := by omega
   have i2 : (k : Int) < (xs.length : Int) := by omega
   have c1 := ownsN_cell hown (copy_at xs k hlt)
   have f1 := ownsN_frozen hown k
   have hst := ownsN_store hown k (xs.getD k 0)
   rw [hset] at hst
   have hb2 := hbel.setCell (p := ⟨w, k, none⟩) (Ii _) (.int .i64 (xs.getD k 0))
   have HST := Lib.hid hst
   clear hst hset hc hown hbel hown1 hbel1
   generalize xs.getD k 0 = y at *
   go_wp2
   go_roundw
   case rel => exact ⟨k + 1, by omega, by go_num, HST.out, hb2⟩
   case measure => simp [intOf]; omega
  ·
   obtain rfl : k = xs.length := by omega
   rw [List.take_of_length_le (Ii _), Nat.sub_self, List.replicate_zero, List.append_nil] at hown
   go_wp2
   go_ret
   exact ⟨_, rfl, hown, hbel⟩
theorem eqIntS_same (v u : Value) (xs : List Int) (w : World) (h : Uc w v xs) (g : Uc w u xs) (hn : xs.length ≤ 1048576) :
  Calls Tryz.prog 65 #[v, u] w fun e w' => e = .returned (.bool true) ∧ Below w w w' := by
 have H := Lib.hid h
 have G := Lib.hid g
 obtain ⟨a, cap, rfl⟩ := Yg h
 obtain ⟨a2, cap2, rfl⟩ := Yg g
 clear h g
 go_enter Tryz.func65, Tryz.ntmps65
 go_wp2
 go_loopw [5] (fun i wr => ∃ k : Nat, k ≤ xs.length ∧ i = .int .i64 k ∧ Below w w wr) (fun i _ => xs.length - (intOf i).toNat)
 case atStart => exact ⟨0, Ij _, rfl, Il _ _⟩
 case round =>
  obtain ⟨k, hk, rfl, hbel⟩ := hrel
  by_cases hlt : k < xs.length
  ·
   obtain ⟨b, off, cap', hv, hbl, hc⟩ := Vq H.out (by omega)
   obtain ⟨b2, off2, cap2', hv2, hbl2, hc2⟩ := Vq G.out (by omega)
   simp only [Ik] at hv hv2
   obtain ⟨rfl, _, rfl⟩ := hv
   obtain ⟨rfl, _, rfl⟩ := hv2
   have hcell := (hbel.cell (p := ⟨b, off + k, none⟩) hbl).trans (hc k hlt)
   have hcell2 := (hbel.cell (p := ⟨b2, off2 + k, none⟩) hbl2).trans (hc2 k hlt)
   have i1 : (0 : Int) ≤ (k : Int) := by omega
   have i2 : (k : Int) < (xs.length : Int) := by omega
   clear hc hc2
   generalize xs.getD k 0 = y at *
   go_wp2
   go_quiet (fail)
   go_wp2
   go_roundw
   case rel => exact ⟨k + 1, by omega, by go_num, Yq hbel rfl rfl rfl rfl⟩
   case measure => simp [intOf]; omega
  ·
   obtain rfl : k = xs.length := by omega
   go_wp2
   go_ret
   exact ⟨rfl, hbel⟩
/-- The numbers k, k + 1, ... -/
def marks (k : Int) (n : Nat) : List Int := (List.range n).map fun i : Nat => k + (i : Int)
theorem Eu (k : Int) (n : Nat) : (marks k n).length = n := by simp [marks]
theorem marks_at (k : Int) (n j : Nat) (h : j < n) : (marks k n).getD j 0 = k + (j : Int) := by simp [marks, List.getD, h]
/-- The first j numbers marked. -/
def Ue (xs : List Int) (k : Int) (j : Nat) : List Int := marks k j ++ xs.drop j
theorem markedTo_step (xs : List Int) (k : Int) (j : Nat) (h : j < xs.length) : (Ue xs k j).set j (k + (j : Int)) = Ue xs k (j + 1) := by
 unfold Ue
 rw [List.set_append_right _ _ (by rw [Eu]; exact Ii _), Eu, Nat.sub_self, List.drop_eq_getElem_cons h, List.set_cons_zero]
 simp [marks, List.range_succ]
theorem markedTo_at (xs : List Int) (k : Int) (j : Nat) (h : j < xs.length) : (Ue xs k j)[j]? = some xs[j] := by
 unfold Ue
 rw [List.getElem?_append_right (by rw [Eu]; exact Ii _), Eu, Nat.sub_self, List.drop_eq_getElem_cons h]
 rfl
theorem markedTo_all (xs : List Int) (k : Int) : Ue xs k xs.length = marks k xs.length := by unfold Ue; simp
/-- What marking leaves. -/
def Marked (w : World) (B : Nat) (v : Value) (n : Nat) (k : Int) (e : Ending) (w' : World) : Prop := e = .returned (.int .i64 (k + (n : Int))) ∧ Ey w' B v (marks k n) ∧ w.grownBy w' v.ownBlock
theorem grownBy_store (w : World) (g j : Nat) (u : Value) : w.grownBy (w.setCell ⟨g, j, none⟩ u) (some g) :=
 ⟨rfl, rfl, rfl, by simp [World.setCell], fun k _ hk => heap_setCell_other w ⟨g, j, none⟩ k u (fun e => hk (by simp [e]))⟩
theorem grown_more {a b c : World} {r : Option Nat} (h : a.grownBy b r) (k : b.grownBy c r) : a.grownBy c r :=
 ⟨k.os.trans h.os, k.tape.trans h.tape, k.output.trans h.output, Nat.le_trans h.size k.size, fun i hi hne => (k.block i (Nat.lt_of_lt_of_le hi h.size) hne).trans (h.block i hi hne)⟩
theorem markIntS_any (v : Value) (xs : List Int) (B : Nat) (k : Int) (w : World) (h : Ey w B v xs) (hn : xs.length ≤ 1048576) (k0 : 0 ≤ k) (k1 : k ≤ 1073741824) :
  Calls Tryz.prog 84 #[v, .int .i64 k] w (Marked w B v xs.length k) := by
 have H := Lib.hid h
 rcases ownsN_form h with ⟨rfl, rfl⟩ | ⟨g, cap, rfl, hBg, hgl⟩
 ·
  clear h
  go_enter Tryz.func84, Tryz.ntmps84
  go_wp2
  go_loop [1, 5] (fun m i => i = .int .i64 0 ∧ m = .int .i64 k) (fun _ _ => 0)
  case atStart => exact ⟨rfl, rfl⟩
  case round =>
   obtain ⟨rfl, rfl⟩ := hrel
   go_wp2
   go_ret
   exact ⟨by simp, by rw [show marks k 0 = [] from rfl]; exact H.out, World.grownBy.refl _ _⟩
 ·
  clear h
  go_enter Tryz.func84, Tryz.ntmps84
  go_wp2
  go_loopw [1, 5] (fun m i wr => ∃ j : Nat, j ≤ xs.length ∧ i = .int .i64 j ∧ m = .int .i64 (k + (j : Int)) ∧ Ey wr B (.slice (some ⟨g, 0, none⟩) xs.length cap) (Ue xs k j) ∧ w.grownBy wr (some g)) (fun _ i _ => xs.length - (intOf i).toNat)
  case atStart => exact ⟨0, Ij _, rfl, by simp, by rw [show Ue xs k 0 = xs by simp [Ue, marks]]; exact H.out, World.grownBy.refl _ _⟩
  case round =>
   obtain ⟨j, hj, rfl, rfl, hown, hgr⟩ := hrel
   by_cases hlt : j < xs.length
   ·
    have i1 : (0 : Int) ≤ (j : Int) := by omega
    have i2 : (j : Int) < (xs.length : Int) := by omega
    have c1 := ownsN_cell hown (markedTo_at xs k j hlt)
    have f1 := ownsN_frozen hown j
    have hst := ownsN_store hown j (k + (j : Int))
    rw [markedTo_step xs k j hlt] at hst
    have hg2 := grown_more hgr (grownBy_store wr g j (.int .i64 (k + (j : Int))))
    have HST := Lib.hid hst
    clear hst hown hgr
    go_wp2
    go_roundw
    case rel => exact ⟨j + 1, by omega, by go_num, by simp; omega, HST.out, hg2⟩
    case measure => simp [intOf]; omega
   ·
    obtain rfl : j = xs.length := by omega
    rw [markedTo_all] at hown
    go_wp2
    go_ret
    exact ⟨rfl, hown, hgr⟩
theorem heldIntS_any (v : Value) (n : Nat) (k : Int) (w : World) (h : Uc w v (marks k n)) (hn : n ≤ 1048576) (k0 : 0 ≤ k) (k1 : k ≤ 1073741824) :
  Calls Tryz.prog 101 #[v, .int .i64 k] w fun e w' => e = .returned (.int .i64 (k + (n : Int))) ∧ w = w' := by
 have H := Lib.hid h
 obtain ⟨a, cap, rfl⟩ := Yg h
 clear h
 have hl := Lib.hid (Eu k n)
 rw [hl.out]
 go_enter Tryz.func101, Tryz.ntmps101
 go_wp2
 go_loop [1, 5] (fun m i => ∃ j : Nat, j ≤ n ∧ i = .int .i64 j ∧ m = .int .i64 (k + (j : Int))) (fun _ i => n - (intOf i).toNat)
 case atStart => exact ⟨0, Ij _, rfl, by simp⟩
 case round =>
  obtain ⟨j, hj, rfl, rfl⟩ := hrel
  by_cases hlt : j < n
  ·
   obtain ⟨b, off, cap', hv, hbl, hc⟩ := Vq H.out (by rw [hl.out]; omega)
   rw [hl.out] at hv hc
   simp only [Ik] at hv
   obtain ⟨rfl, _, rfl⟩ := hv
   have hcell := hc j hlt
   rw [marks_at k n j hlt] at hcell
   have i1 : (0 : Int) ≤ (j : Int) := by omega
   have i2 : (j : Int) < (n : Int) := by omega
   clear hc
   go_wp2
   go_round
   case rel => exact ⟨j + 1, by omega, by go_num, by simp; omega⟩
   case measure => simp [intOf]; omega
  ·
   obtain rfl : j = n := by omega
   go_wp2
   go_ret
   exact ⟨rfl, rfl⟩
/-- A row: its number and its values. -/
abbrev Ej := Int × List Int
theorem szInt_yes (a : Option Addr) (cap n : Nat) (k : Int) (w : World) (h : (n : Int) ≤ k) (hk : k ≤ 1048576) :
  Calls Tryz.prog 50 #[.slice a n cap, .int .i64 k] w fun e w' => e = .returned (.int .i64 (k - (n : Int))) ∧ w' = w := by
 have h0 : ¬ k - (n : Int) < 0 := by omega
 go_enter Tryz.func50, Tryz.ntmps50
 go_wp2
 go_ret
 exact ⟨rfl, rfl⟩
theorem szInt_no (a : Option Addr) (cap n : Nat) (k : Int) (w : World) (h : k < (n : Int)) (hk : 0 ≤ k) (hn : (n : Int) ≤ 9223372036854775807) :
  Calls Tryz.prog 50 #[.slice a n cap, .int .i64 k] w fun e w' => e = .returned (.int .i64 (-1)) ∧ w' = w := by
 have h0 : k - (n : Int) < 0 := by omega
 go_enter Tryz.func50, Tryz.ntmps50
 go_wp2
 go_ret
 exact ⟨rfl, rfl⟩
/-- Only blocks in G, of those that were there, have turned. -/
structure Kb (G : Nat → Prop) (w w' : World) : Prop where
 os : w'.os = w.os
 tape : w'.tape = w.tape
 output : w'.output = w.output
 size : w.heap.size ≤ w'.heap.size
 block : ∀ k, k < w.heap.size → ¬ G k → w'.heap[k]? = w.heap[k]?
theorem Kb.refl (G : Nat → Prop) (w : World) : Kb G w w := ⟨rfl, rfl, rfl, Ii _, fun _ _ _ => rfl⟩
theorem Kb.trans {G : Nat → Prop} {a b c : World} (h : Kb G a b) (k : Kb G b c) : Kb G a c :=
 ⟨k.os.trans h.os, k.tape.trans h.tape, k.output.trans h.output, Nat.le_trans h.size k.size, fun i hi hn => (k.block i (Nat.lt_of_lt_of_le hi h.size) hn).trans (h.block i hi hn)⟩
theorem Kb.mono {G G' : Nat → Prop} {a b : World} (h : Kb G a b) (hg : ∀ k, G k → G' k) : Kb G' a b :=
 ⟨h.os, h.tape, h.output, h.size, fun i hi hn => h.block i hi (fun g => hn (hg i g))⟩
theorem turn_grown {G : Nat → Prop} {w w' : World} {row : Option Nat} (h : w.grownBy w' row) (hr : ∀ b, row = some b → G b) : Kb G w w' :=
 ⟨h.os, h.tape, h.output, h.size, fun k hk hn => h.block k hk (fun e => hn (hr k e.symm))⟩
theorem Yo {G : Nat → Prop} {w w' : World} (h : Below w w w') : Kb G w w' := ⟨h.os, h.tape, h.output, h.size, fun k hk _ => h.block k hk⟩
theorem Jm {G : Nat → Prop} {w : World} {g j : Nat} {u : Value} (h : G g) : Kb G w (w.setCell ⟨g, j, none⟩ u) :=
 ⟨rfl, rfl, rfl, by simp [World.setCell], fun k hk hn => Below.heap_setCell w _ u k (fun e => hn (by rw [e]; exact h))⟩
theorem Js {B : Nat} {G : Nat → Prop} {a w w' : World} (h : Below B a w) (k : Kb G w w') (hG : ∀ b, G b → B ≤ b) (hs : B ≤ w.heap.size) : Below B a w' :=
 h.trans ⟨k.os, k.tape, k.output, k.size, fun i hi => k.block i (by omega) (fun g => by have := hG i g; omega)⟩
theorem Ym {w w' : World} {G : Nat → Prop} {B : Nat} {e : TypeId} {size : Nat} {u : Value} {n : Nat} {xs : List Value} (h : w.ownsRow B e size u n xs) (k : Kb G w w') (hd : ∀ b, u.ownBlock = some b → ¬ G b) : w'.ownsRow B e size u n xs := by
 refine ⟨h.1, ?_⟩
 rcases h.2 with hn | ⟨g, cap, cur, rfl, hb', hg, rest⟩
 ·
  exact .inl hn
 ·
  refine .inr ⟨g, cap, cur, rfl, hb', ?_, rest⟩
  rw [k.block g (Array.getElem?_eq_some_iff.1 hg).1 (hd g rfl)]
  exact hg
theorem row_low {w : World} {B C : Nat} {e : TypeId} {size : Nat} {v : Value} {n : Nat} {xs : List Value} (h : w.ownsRow C e size v n xs) (hb : B ≤ C) : w.ownsRow B e size v n xs := by
 refine ⟨h.1, ?_⟩
 rcases h.2 with hn | ⟨g, cap, cur, e, hb', rest⟩
 ·
  exact .inl hn
 ·
  exact .inr ⟨g, cap, cur, e, Nat.le_trans hb hb', rest⟩
theorem row_form {w : World} {B : Nat} {e : TypeId} {size : Nat} {v : Value} {n : Nat} {xs : List Value} (h : w.ownsRow B e size v n xs) : (v = .slice none 0 0 ∧ n = 0) ∨ ∃ g cap, v = .slice (some ⟨g, 0, none⟩) n cap ∧ g < w.heap.size := by
 rcases h.2 with h' | ⟨g, cap, cur, rfl, hb, hg, _⟩
 ·
  exact .inl h'
 ·
  exact .inr ⟨g, cap, rfl, (Array.getElem?_eq_some_iff.1 hg).1⟩
/-- A kind of data: how many cells; what is read; what is owned, in blocks of the set; size; marks (nd, md: in memory, numbers too; nv, mv: by value); lengths that a slice can have; how many numbers lie in the cells. -/
structure Ty (α : Type) where
 n : Nat
 d : α
 R : World → List Value → α → Prop
 O : World → (Nat → Prop) → List Value → α → Prop
 sz : α → Nat
 nd : α → Nat
 nv : α → Nat
 md : α → Int → α
 mv : α → Int → α
 ok : α → Prop
 s : Nat
structure Ty.Law {α : Type} (T : Ty α) : Prop where
 pos : 0 < T.n
 len : ∀ {w cs x}, T.R w cs x → cs.length = T.n
 below : ∀ {W w cs x}, T.R W cs x → Below W W w → T.R w cs x
 reads : ∀ {w F cs x}, T.O w F cs x → T.R w cs x
 turn : ∀ {w w' F G cs x}, T.O w F cs x → Kb G w w' → (∀ b, F b → ¬ G b) → T.O w' F cs x
 mono : ∀ {w F F' cs x}, T.O w F cs x → (∀ b, F b → F' b) → T.O w F' cs x
 lt : ∀ {w F cs x}, T.O w F cs x → T.O w (fun b => F b ∧ b < w.heap.size) cs x
 nd_le : ∀ x, T.nd x ≤ 16 * T.sz x + T.s
 nv_le : ∀ x, T.nv x ≤ 16 * T.sz x
/- Numbers. -/
def Je : Ty Int := { n := 1, d := 0, R := fun _ cs x => cs = [.int .i64 x], O := fun _ _ cs x => cs = [.int .i64 x], sz := fun _ => 0, nd := fun _ => 1, nv := fun _ => 0, md := fun _ k => k, mv := fun x _ => x, ok := fun _ => True, s := 1 }
theorem Jc : Je.Law := ⟨by decide, fun h => by cases h; rfl, fun h _ => h, fun h => h, fun h _ _ => h, fun h _ => h, fun h => h, fun x => Ii _, fun x => Ii _⟩
/- Pairs. -/
def Yl {α β : Type} (a : Ty α) (b : Ty β) : Ty (α × β) where
 n := a.n + b.n
 d := (a.d, b.d)
 R := fun w cs p => ∃ c1 c2, cs = c1 ++ c2 ∧ a.R w c1 p.1 ∧ b.R w c2 p.2
 O := fun w F cs p => ∃ c1 c2 F1 F2, cs = c1 ++ c2 ∧ a.O w F1 c1 p.1 ∧ b.O w F2 c2 p.2 ∧ (∀ k, F1 k → F k) ∧ (∀ k, F2 k → F k) ∧ ∀ k, F1 k → ¬ F2 k
 sz := fun p => a.sz p.1 + b.sz p.2
 nd := fun p => a.nd p.1 + b.nd p.2
 nv := fun p => a.nv p.1 + b.nv p.2
 md := fun p k => (a.md p.1 k, b.md p.2 (k + (a.nd p.1 : Int)))
 mv := fun p k => (a.mv p.1 k, b.mv p.2 (k + (a.nv p.1 : Int)))
 ok := fun p => a.ok p.1 ∧ b.ok p.2
 s := a.s + b.s
theorem Km {α β : Type} {a : Ty α} {b : Ty β} (A : a.Law) (B : b.Law) : (Yl a b).Law where
 pos := by have := A.pos; show 0 < a.n + b.n; omega
 len := fun {w cs x} h => by
  obtain ⟨c1, c2, rfl, h1, h2⟩ := h
  rw [List.length_append, A.len h1, B.len h2]; rfl
 below := fun {W w cs x} h hb => by
  obtain ⟨c1, c2, e, h1, h2⟩ := h
  exact ⟨c1, c2, e, A.below h1 hb, B.below h2 hb⟩
 reads := fun {w F cs x} h => by
  obtain ⟨c1, c2, F1, F2, e, h1, h2, _⟩ := h
  exact ⟨c1, c2, e, A.reads h1, B.reads h2⟩
 turn := fun {w w' F G cs x} h k hd => by
  obtain ⟨c1, c2, F1, F2, e, h1, h2, h3, h4, h5⟩ := h
  exact ⟨c1, c2, F1, F2, e, A.turn h1 k (fun b g => hd b (h3 b g)), B.turn h2 k (fun b g => hd b (h4 b g)), h3, h4, h5⟩
 mono := fun {w F F' cs x} h hf => by
  obtain ⟨c1, c2, F1, F2, e, h1, h2, h3, h4, h5⟩ := h
  exact ⟨c1, c2, F1, F2, e, h1, h2, fun k g => hf k (h3 k g), fun k g => hf k (h4 k g), h5⟩
 lt := fun {w F cs x} h => by
  obtain ⟨c1, c2, F1, F2, e, h1, h2, h3, h4, h5⟩ := h
  exact ⟨c1, c2, _, _, e, A.lt h1, B.lt h2, fun k g => ⟨h3 k g.1, g.2⟩, fun k g => ⟨h4 k g.1, g.2⟩, fun k g g' => h5 k g.1 g'.1⟩
 nd_le := fun x => by
  have h1 := A.nd_le x.1; have h2 := B.nd_le x.2
  show a.nd x.1 + b.nd x.2 ≤ 16 * (a.sz x.1 + b.sz x.2) + (a.s + b.s); omega
 nv_le := fun x => by
  have h1 := A.nv_le x.1; have h2 := B.nv_le x.2
  show a.nv x.1 + b.nv x.2 ≤ 16 * (a.sz x.1 + b.sz x.2); omega
theorem tPair_md {α β : Type} (a : Ty α) (b : Ty β) (p : α × β) (k : Int) : (Yl a b).md p k = (a.md p.1 k, b.md p.2 (k + (a.nd p.1 : Int))) := rfl
theorem tPair_mv {α β : Type} (a : Ty α) (b : Ty β) (p : α × β) (k : Int) : (Yl a b).mv p k = (a.mv p.1 k, b.mv p.2 (k + (a.nv p.1 : Int))) := rfl
theorem Vt {α β : Type} (a : Ty α) (b : Ty β) (p : α × β) : (Yl a b).sz p = a.sz p.1 + b.sz p.2 := rfl
theorem Vx {α β : Type} (a : Ty α) (b : Ty β) (p : α × β) : (Yl a b).nd p = a.nd p.1 + b.nd p.2 := rfl
theorem Vw {α β : Type} (a : Ty α) (b : Ty β) (p : α × β) : (Yl a b).nv p = a.nv p.1 + b.nv p.2 := rfl
theorem tInt_md (x k : Int) : Je.md x k = k := rfl
theorem tInt_mv (x k : Int) : Je.mv x k = x := rfl
theorem Yk (x : Int) : Je.sz x = 0 := rfl
theorem Yt (x : Int) : Je.nd x = 1 := rfl
theorem Ys (x : Int) : Je.nv x = 0 := rfl
/- Slices. -/
section
variable {α : Type}
def Ko (T : Ty α) (w : World) (v : Value) (xs : List α) : Prop :=
 (xs = [] ∧ ∃ a cap, v = .slice a 0 cap) ∨ ∃ (b off cap : Nat) (us : Nat → List Value), v = .slice (some ⟨b, off, none⟩) xs.length cap ∧ xs.length ≤ cap ∧ b < w.heap.size ∧
  ∀ j, j < xs.length → (∀ i, i < T.n → w.cell? ⟨b, off + j * T.n + i, none⟩ = (us j)[i]?) ∧ T.R w (us j) (xs.getD j T.d)
def Kp (e : TypeId) (T : Ty α) (w : World) (F : Nat → Prop) (v : Value) (xs : List α) : Prop :=
 ∃ (L : List Value) (us : Nat → List Value) (Fs : Nat → Nat → Prop), w.ownsRow 0 e T.n v xs.length L ∧ (∀ b, v.ownBlock = some b → F b) ∧
  (∀ j, j < xs.length → (∀ i, i < T.n → L[j * T.n + i]? = (us j)[i]?) ∧ T.O w (Fs j) (us j) (xs.getD j T.d) ∧ ∀ b, Fs j b → F b ∧ v.ownBlock ≠ some b) ∧
  ∀ i j, i < xs.length → j < xs.length → i ≠ j → ∀ b, Fs i b → ¬ Fs j b
def sumN (f : α → Nat) (xs : List α) (k : Nat) : Nat := ((xs.take k).map f).sum
theorem sumN_zero (f : α → Nat) (xs : List α) : sumN f xs 0 = 0 := by simp [sumN]
theorem sumN_step (f : α → Nat) {xs : List α} {k : Nat} (d : α) (hk : k < xs.length) : sumN f xs (k + 1) = sumN f xs k + f (xs.getD k d) := by
 unfold sumN
 have e : xs.getD k d = xs[k] := by simp [List.getD, hk]
 rw [e, List.take_succ_eq_append_getElem hk, List.map_append, List.sum_append]
 simp
theorem sumN_le (f : α → Nat) {xs : List α} {k : Nat} (hk : k ≤ xs.length) : sumN f xs k ≤ sumN f xs xs.length := by
 unfold sumN
 have e : xs.take xs.length = xs.take k ++ xs.drop k := by rw [List.take_length, List.take_append_drop]
 rw [e, List.map_append, List.sum_append]
 omega
theorem sum_map_le {f g : α → Nat} {c s : Nat} (h : ∀ x, f x ≤ c * g x + s) : ∀ xs : List α, (xs.map f).sum ≤ c * (xs.map g).sum + s * xs.length
 | [] => by simp
 | x :: xs => by
  have h1 := h x
  have h2 := sum_map_le h xs
  simp only [List.map_cons, List.sum_cons, List.length_cons, Nat.mul_add, Nat.mul_one]
  omega
/-- The mark with which element j begins. -/
def Ei (T : Ty α) (xs : List α) (k : Int) (j : Nat) : Int := k + (sumN T.nd xs j : Int)
def mAt (T : Ty α) (xs : List α) (k : Int) (j : Nat) : α := T.md (xs.getD j T.d) (Ei T xs k j)
def mTo (T : Ty α) (xs : List α) (k : Int) (j : Nat) : List α := (List.range j).map (mAt T xs k) ++ xs.drop j
def Vo (T : Ty α) (xs : List α) (k : Int) : List α := (List.range xs.length).map (mAt T xs k)
def zTo (T : Ty α) (xs : List α) (k : Nat) : Nat := xs.length + sumN T.sz xs k
def zL (T : Ty α) (xs : List α) : Nat := zTo T xs xs.length
def Jq (T : Ty α) (xs : List α) : Nat := sumN T.nd xs xs.length
def tSl (e : TypeId) (T : Ty α) : Ty (List α) where
 n := 1
 d := []
 R := fun w cs xs => ∃ v, cs = [v] ∧ Ko T w v xs
 O := fun w F cs xs => ∃ v, cs = [v] ∧ Kp e T w F v xs
 sz := zL T
 nd := Jq T
 nv := Jq T
 md := Vo T
 mv := Vo T
 ok := fun xs => (xs.length : Int) ≤ 9223372036854775807 ∧ ∀ j, j < xs.length → T.ok (xs.getD j T.d)
 s := 0
theorem tSl_md (e : TypeId) (T : Ty α) (xs : List α) (k : Int) : (tSl e T).md xs k = Vo T xs k := rfl
theorem tSl_mv (e : TypeId) (T : Ty α) (xs : List α) (k : Int) : (tSl e T).mv xs k = Vo T xs k := rfl
theorem Xo (e : TypeId) (T : Ty α) (xs : List α) : (tSl e T).sz xs = zL T xs := rfl
theorem Xw (e : TypeId) (T : Ty α) (xs : List α) : (tSl e T).nd xs = Jq T xs := rfl
theorem Xv (e : TypeId) (T : Ty α) (xs : List α) : (tSl e T).nv xs = Jq T xs := rfl
theorem Jl {T : Ty α} {w : World} {v : Value} {xs : List α} (h : Ko T w v xs) : ∃ a cap, v = .slice a xs.length cap := by
 rcases h with ⟨rfl, a, cap, rfl⟩ | ⟨b, off, cap, us, rfl, _⟩
 ·
  exact ⟨a, cap, rfl⟩
 ·
  exact ⟨_, cap, rfl⟩
theorem Jb {T : Ty α} (A : T.Law) {W w : World} {v : Value} {xs : List α} (h : Ko T W v xs) (hb : Below W W w) : Ko T w v xs := by
 rcases h with h | ⟨b, off, cap, us, h1, h2, h3, h4⟩
 ·
  exact Or.inl h
 ·
  exact Or.inr ⟨b, off, cap, us, h1, h2, Nat.lt_of_lt_of_le h3 hb.size, fun j hj => ⟨fun i hi => (hb.cell (p := ⟨b, off + j * T.n + i, none⟩) h3).trans ((h4 j hj).1 i hi), A.below (h4 j hj).2 hb⟩⟩
theorem Ku {T : Ty α} {w : World} {v : Value} {xs : List α} (h : Ko T w v xs) {k : Nat} (hk : k < xs.length) : ∃ (b off cap : Nat) (cs : List Value), v = .slice (some ⟨b, off, none⟩) xs.length cap ∧ b < w.heap.size ∧ (∀ i, i < T.n → w.cell? ⟨b, off + k * T.n + i, none⟩ = cs[i]?) ∧ T.R w cs (xs.getD k T.d) := by
 rcases h with ⟨rfl, _⟩ | ⟨b, off, cap, us, h1, h2, h3, h4⟩
 ·
  simp at hk
 ·
  exact ⟨b, off, cap, us k, h1, h3, (h4 k hk).1, (h4 k hk).2⟩
theorem Up {e : TypeId} {T : Ty α} (A : T.Law) {w : World} {F : Nat → Prop} {v : Value} {xs : List α} (h : Kp e T w F v xs) : Ko T w v xs := by
 obtain ⟨L, us, Fs, h1, _, h2, _⟩ := h
 have h1' := h1
 rcases h1.2 with ⟨rfl, hn⟩ | ⟨g, cap, cur, rfl, hb, hg, hn, hm, hcs, htake⟩
 ·
  exact Or.inl ⟨List.eq_nil_of_length_eq_zero hn, none, 0, rfl⟩
 ·
  refine Or.inr ⟨g, 0, cap, us, rfl, hn, (Array.getElem?_eq_some_iff.1 hg).1, fun j hj => ⟨fun i hi => ?_, A.reads (h2 j hj).2.1⟩⟩
  have hlt : j * T.n + i < xs.length * T.n := by
   have : (j + 1) * T.n ≤ xs.length * T.n := Nat.mul_le_mul_right _ hj
   rw [Nat.add_mul, Nat.one_mul] at this; omega
  rw [Nat.zero_add, World.ownsRow.cellAt h1' _ hlt]
  exact (h2 j hj).1 i hi
theorem Ka {e : TypeId} {T : Ty α} (A : T.Law) {w w' : World} {F G : Nat → Prop} {v : Value} {xs : List α} (h : Kp e T w F v xs) (k : Kb G w w') (hd : ∀ b, F b → ¬ G b) : Kp e T w' F v xs := by
 obtain ⟨L, us, Fs, h1, h2, h3, h4⟩ := h
 exact ⟨L, us, Fs, Ym h1 k (fun b hb => hd b (h2 b hb)), h2, fun j hj => ⟨(h3 j hj).1, A.turn (h3 j hj).2.1 k (fun b hb => hd b ((h3 j hj).2.2 b hb).1), (h3 j hj).2.2⟩, h4⟩
theorem Ky {e : TypeId} {T : Ty α} {w : World} {F F' : Nat → Prop} {v : Value} {xs : List α} (h : Kp e T w F v xs) (hf : ∀ b, F b → F' b) : Kp e T w F' v xs := by
 obtain ⟨L, us, Fs, h1, h2, h3, h4⟩ := h
 exact ⟨L, us, Fs, h1, fun b hb => hf b (h2 b hb), fun j hj => ⟨(h3 j hj).1, (h3 j hj).2.1, fun b hb => ⟨hf b ((h3 j hj).2.2 b hb).1, ((h3 j hj).2.2 b hb).2⟩⟩, h4⟩
theorem Kn {e : TypeId} {T : Ty α} (A : T.Law) {w : World} {F : Nat → Prop} {v : Value} {xs : List α} (h : Kp e T w F v xs) : Kp e T w (fun b => F b ∧ b < w.heap.size) v xs := by
 obtain ⟨L, us, Fs, h1, h2, h3, h4⟩ := h
 exact ⟨L, us, fun j b => Fs j b ∧ b < w.heap.size, h1, fun b hb => ⟨h2 b hb, (h1.lt b hb).2⟩, fun j hj => ⟨(h3 j hj).1, A.lt (h3 j hj).2.1, fun b hb => ⟨⟨((h3 j hj).2.2 b hb.1).1, hb.2⟩, ((h3 j hj).2.2 b hb.1).2⟩⟩, fun i j hi hj hij b hb hc => h4 i j hi hj hij b hb.1 hc.1⟩
theorem Yi {e : TypeId} {T : Ty α} (A : T.Law) {w w' : World} {F : Nat → Prop} {v : Value} {xs : List α} (h : Kp e T w F v xs) (hb : Below w w w') : Kp e T w' F v xs :=
 Ka (G := fun _ => False) A h (Yo hb) (fun _ _ => not_false)
theorem Ya (e : TypeId) (T : Ty α) (w : World) (F : Nat → Prop) : Kp e T w F () [] :=
 ⟨[], fun _ => [], fun _ _ => False, World.ownsRow_nil w 0 _ _, fun b hb => by simp [Value.ownBlock] at hb, fun j hj => by simp at hj, fun i j hi => by simp at hi⟩
theorem Xi {e : TypeId} {T : Ty α} {w : World} {F : Nat → Prop} {v : Value} {xs : List α} (h : Kp e T w F v xs) : (v = .slice none 0 0 ∧ xs = []) ∨ ∃ g cap, v = .slice (some ⟨g, 0, none⟩) xs.length cap ∧ F g ∧ g < w.heap.size := by
 obtain ⟨L, us, Fs, h1, h2, _⟩ := h
 rcases row_form h1 with ⟨e, h0⟩ | ⟨g, cap, e, hg⟩
 ·
  exact Or.inl ⟨e, List.eq_nil_of_length_eq_zero h0⟩
 ·
  exact Or.inr ⟨g, cap, e, h2 g (by rw [e]; rfl), hg⟩
theorem Ju {e : TypeId} {T : Ty α} {w : World} {F : Nat → Prop} {v : Value} {xs : List α} (h : Kp e T w F v xs) : ∃ a cap, v = .slice a xs.length cap := by
 rcases Xi h with ⟨e, e'⟩ | ⟨g, cap, e, _⟩
 ·
  exact ⟨none, 0, by rw [e, e']; rfl⟩
 ·
  exact ⟨_, cap, e⟩
/-- What 'make' owns. -/
theorem Yz {e : TypeId} {T : Ty α} (A : T.Law) {w : World} {F : Nat → Prop} {g n B : Nat} {z : Array Value} (hz : z.size = T.n) (ho : T.O w (fun _ => False) z.toList T.d) (hF : F g)
  (h : w.ownsRow B e T.n (.slice (some ⟨g, 0, none⟩) n n) n (madeCells z (n * T.n)).toList) : Kp e T w F (.slice (some ⟨g, 0, none⟩) n n) (List.replicate n T.d) := by
 refine ⟨_, fun _ => z.toList, fun _ _ => False, by rw [List.length_replicate]; exact row_low h (Ij _), fun b hb => ?_, fun j hj => ?_, fun i j _ _ _ b hb => False.elim hb⟩
 ·
  simp [Value.ownBlock] at hb; subst hb; exact hF
 ·
  rw [List.length_replicate] at hj
  have er : (List.replicate n T.d).getD j T.d = T.d := by simp [List.getD, hj]
  rw [er]
  refine ⟨fun i hi => ?_, ho, fun b hb => False.elim hb⟩
  have hlt : j * T.n + i < n * T.n := by
   have : (j + 1) * T.n ≤ n * T.n := Nat.mul_le_mul_right _ hj
   rw [Nat.add_mul, Nat.one_mul] at this; omega
  have hmod : (j * T.n + i) % z.size = i := by rw [hz, Nat.mul_comm, Nat.mul_add_mod, Nat.mod_eq_of_lt hi]
  rw [Array.getElem?_toList]
  unfold madeCells
  rw [Array.getElem?_map, Array.getElem?_range, if_pos hlt]
  have hi' : i < z.size := by omega
  simp [hmod, hi']
/-- An element is opened: its cells, its blocks; and what is owned when the element has turned. -/
theorem Eb {e : TypeId} {T : Ty α} (A : T.Law) {w : World} {F : Nat → Prop} {g m cap : Nat} {xs : List α} (h : Kp e T w F (.slice (some ⟨g, 0, none⟩) m cap) xs) {j : Nat} (hj : j < xs.length) :
  m = xs.length ∧ F g ∧ g < w.heap.size ∧ ∃ (cs : List Value) (Fj : Nat → Prop) (L : List Value), w.ownsRow 0 e T.n (.slice (some ⟨g, 0, none⟩) xs.length cap) xs.length L ∧ (∀ i, i < T.n → L[j * T.n + i]? = cs[i]?) ∧ T.O w Fj cs (xs.getD j T.d) ∧ (∀ b, Fj b → F b ∧ b ≠ g ∧ b < w.heap.size) ∧
   ∀ (w' : World) (L' cs' : List Value) (Fj' : Nat → Prop) (x' : α), w'.ownsRow 0 e T.n (.slice (some ⟨g, 0, none⟩) xs.length cap) xs.length L' → (∀ o, (o < j * T.n ∨ j * T.n + T.n ≤ o) → L'[o]? = L[o]?) → (∀ i, i < T.n → L'[j * T.n + i]? = cs'[i]?) → T.O w' Fj' cs' x' → (∀ b, Fj' b → F b ∧ (Fj b ∨ w.heap.size ≤ b)) →
    Kb (fun b => b = g ∨ Fj b ∨ w.heap.size ≤ b) w w' → Kp e T w' F (.slice (some ⟨g, 0, none⟩) m cap) (xs.set j x') := by
 obtain ⟨L, us, Fs, h1, h2, h3, h4⟩ := Kn A h
 have hm : m = xs.length := by
  rcases h1.2 with ⟨h', _⟩ | ⟨_, _, _, h', _⟩
  ·
   simp at h'
  ·
   simp only [Ik] at h'; exact h'.2.1
 subst hm
 have hg := h2 g rfl
 refine ⟨rfl, hg.1, hg.2, us j, Fs j, L, h1, (h3 j hj).1, (h3 j hj).2.1, fun b hb => ?_, ?_⟩
 ·
  obtain ⟨⟨k1, k2⟩, k3⟩ := (h3 j hj).2.2 b hb
  exact ⟨k1, fun e => k3 (by rw [e]; rfl), k2⟩
 ·
  intro w' L' cs' Fj' x' g1 g2 g3 g4 g5 g6
  refine ⟨L', fun i => if i = j then cs' else us i, fun i => if i = j then Fj' else Fs i, by rw [List.length_set]; exact g1, fun b hb => (h2 b hb).1, fun i hi => ?_, fun a b ha hb hab c => ?_⟩
  ·
   rw [List.length_set] at hi
   by_cases eij : i = j
   ·
    subst eij
    have er : (xs.set i x').getD i T.d = x' := by simp [List.getD, hi]
    rw [er]
    simp only [if_true]
    refine ⟨g3, g4, fun b hb => ⟨(g5 b hb).1, ?_⟩⟩
    rcases (g5 b hb).2 with q | q
    ·
     exact ((h3 i hj).2.2 b q).2
    ·
     intro q2
     simp [Value.ownBlock] at q2
     omega
   ·
    have er : (xs.set j x').getD i T.d = xs.getD i T.d := by simp [List.getD, Ig (Ne.symm eij)]
    rw [er]
    simp only [if_neg eij]
    refine ⟨fun p hp => ?_, ?_, fun b hb => ⟨((h3 i hi).2.2 b hb).1.1, ((h3 i hi).2.2 b hb).2⟩⟩
    ·
     rw [g2 _ ?_]
     ·
      exact (h3 i hi).1 p hp
     ·
      rcases Nat.lt_or_gt_of_ne eij with q | q
      ·
       left
       have : (i + 1) * T.n ≤ j * T.n := Nat.mul_le_mul_right _ q
       rw [Nat.add_mul, Nat.one_mul] at this; omega
      ·
       right
       have : (j + 1) * T.n ≤ i * T.n := Nat.mul_le_mul_right _ q
       rw [Nat.add_mul, Nat.one_mul] at this; omega
    ·
     refine A.turn (h3 i hi).2.1 g6 (fun b hb hc => ?_)
     rcases hc with q | q | q
     ·
      exact ((h3 i hi).2.2 b hb).2 (by rw [q]; rfl)
     ·
      exact h4 i j hi hj eij b hb q
     ·
      have := ((h3 i hi).2.2 b hb).1.2; omega
  ·
   rw [List.length_set] at ha hb
   by_cases ea : a = j
   ·
    have eb : ¬ b = j := fun q => hab (ea.trans q.symm)
    simp only [if_pos ea, if_neg eb]
    intro q1 q2
    rcases (g5 c q1).2 with q | q
    ·
     exact h4 j b hj hb (fun q' => eb q'.symm) c q q2
    ·
     have := ((h3 b hb).2.2 c q2).1.2; omega
   ·
    by_cases eb : b = j
    ·
     simp only [if_neg ea, if_pos eb]
     intro q1 q2
     rcases (g5 c q2).2 with q | q
     ·
      exact h4 a j ha hj ea c q1 q
     ·
      have := ((h3 a ha).2.2 c q1).1.2; omega
    ·
     simp only [if_neg ea, if_neg eb]
     exact h4 a b ha hb hab c
/-- An element is appended. -/
theorem slO_app {e : TypeId} {T : Ty α} (A : T.Law) {w w' : World} {F Fn : Nat → Prop} {v v' : Value} {xs : List α} {x : α} {cs : List Value} {L : List Value} {us : Nat → List Value} {Fs : Nat → Nat → Prop}
  (h2 : ∀ b, v.ownBlock = some b → F b) (h3 : ∀ j, j < xs.length → (∀ i, i < T.n → L[j * T.n + i]? = (us j)[i]?) ∧ T.O w (Fs j) (us j) (xs.getD j T.d) ∧ ∀ b, Fs j b → (F b ∧ b < w.heap.size) ∧ v.ownBlock ≠ some b)
  (h4 : ∀ i j, i < xs.length → j < xs.length → i ≠ j → ∀ b, Fs i b → ¬ Fs j b) (hL : L.length = xs.length * T.n)
  (k1 : w'.ownsRow 0 e T.n v' (xs.length + 1) (L ++ cs)) (k2 : w.grownBy w' v.ownBlock) (k3 : ∀ b, v'.ownBlock = some b → v.ownBlock = some b ∨ (w.heap.size ≤ b ∧ F b))
  (hn : T.O w Fn cs x) (hc : cs.length = T.n) (hF : ∀ b, Fn b → F b ∧ b < w.heap.size ∧ v.ownBlock ≠ some b ∧ ∀ j, j < xs.length → ¬ Fs j b) : Kp e T w' F v' (xs ++ [x]) := by
 have hold : ∀ {G : Nat → Prop} {us : List Value} {y : α}, T.O w G us y → (∀ b, G b → v.ownBlock ≠ some b) → T.O w' G us y := fun h hd =>
  A.turn (G := fun b => v.ownBlock = some b) h (turn_grown k2 (fun b hb => hb)) (fun b hb => hd b hb)
 have hnew : ∀ b, b < w.heap.size → v.ownBlock ≠ some b → v'.ownBlock ≠ some b := fun b hb h1 h2 => by
  rcases k3 b h2 with q | q
  ·
   exact h1 q
  ·
   omega
 refine ⟨L ++ cs, fun j => if j < xs.length then us j else cs, fun j => if j < xs.length then Fs j else Fn, by rw [List.length_append]; exact k1, fun b hb => ?_, fun j hj => ?_, fun i j hi hj hij b => ?_⟩
 ·
  rcases k3 b hb with q | q
  ·
   exact h2 b q
  ·
   exact q.2
 ·
  rw [List.length_append, List.length_singleton] at hj
  by_cases hlt : j < xs.length
  ·
   have er : (xs ++ [x]).getD j T.d = xs.getD j T.d := by simp [List.getD, List.getElem?_append_left hlt]
   rw [er]
   simp only [if_pos hlt]
   obtain ⟨g1, g2, g3⟩ := h3 j hlt
   refine ⟨fun i hi => ?_, hold g2 (fun b hb => (g3 b hb).2), fun b hb => ⟨(g3 b hb).1.1, hnew b (g3 b hb).1.2 (g3 b hb).2⟩⟩
   have hl2 : j * T.n + i < L.length := by
    have : (j + 1) * T.n ≤ xs.length * T.n := Nat.mul_le_mul_right _ hlt
    rw [Nat.add_mul, Nat.one_mul] at this; omega
   rw [List.getElem?_append_left hl2]
   exact g1 i hi
  ·
   obtain rfl : j = xs.length := by omega
   have er : (xs ++ [x]).getD xs.length T.d = x := by simp [List.getD]
   rw [er]
   simp only [if_neg hlt]
   refine ⟨fun i hi => ?_, hold hn (fun b hb => (hF b hb).2.2.1), fun b hb => ⟨(hF b hb).1, hnew b (hF b hb).2.1 (hF b hb).2.2.1⟩⟩
   rw [List.getElem?_append_right (by omega), hL]
   simp
 ·
  rw [List.length_append, List.length_singleton] at hi hj
  by_cases h1 : i < xs.length
  ·
   by_cases h2 : j < xs.length
   ·
    simp only [if_pos h1, if_pos h2]; exact h4 i j h1 h2 hij b
   ·
    simp only [if_pos h1, if_neg h2]; exact fun q1 q2 => (hF b q2).2.2.2 i h1 q1
  ·
   by_cases h2 : j < xs.length
   ·
    simp only [if_neg h1, if_pos h2]; exact fun q1 q2 => (hF b q1).2.2.2 j h2 q2
   ·
    omega
theorem Yf (T : Ty α) (xs : List α) : zTo T xs 0 = xs.length := by simp [zTo, sumN_zero]
theorem zTo_step {T : Ty α} {xs : List α} {k : Nat} (hk : k < xs.length) : zTo T xs (k + 1) = zTo T xs k + T.sz (xs.getD k T.d) := by
 unfold zTo; rw [sumN_step T.sz T.d hk]; omega
theorem Eo {T : Ty α} {xs : List α} {k : Nat} (hk : k ≤ xs.length) : zTo T xs k ≤ zL T xs := by
 unfold zL zTo; have := sumN_le T.sz hk; omega
theorem Vj {T : Ty α} {xs : List α} {M : Nat} (hs : zL T xs ≤ M) {k : Nat} (hk : k < xs.length) : T.sz (xs.getD k T.d) ≤ M := by
 have h1 := zTo_step (T := T) hk
 have h2 := Eo (T := T) (xs := xs) (k := k + 1) (by omega)
 omega
theorem Jz {T : Ty α} {xs : List α} {M : Nat} (hs : zL T xs ≤ M) : xs.length ≤ M := by
 have := Eo (T := T) (xs := xs) (Ij _); rw [Yf] at this; omega
theorem Vd {T : Ty α} (A : T.Law) (hs : T.s ≤ 16) (xs : List α) : Jq T xs ≤ 16 * zL T xs := by
 have := sum_map_le A.nd_le xs
 have h2 : T.s * xs.length ≤ 16 * xs.length := Nat.mul_le_mul_right _ hs
 unfold Jq zL zTo sumN
 rw [List.take_length]
 omega
theorem tSl_law {e : TypeId} {T : Ty α} (A : T.Law) (hs : T.s ≤ 16) : (tSl e T).Law where
 pos := Nat.one_pos
 len := fun {w cs x} h => by obtain ⟨v, rfl, _⟩ := h; rfl
 below := fun {W w cs x} h hb => by obtain ⟨v, e, h⟩ := h; exact ⟨v, e, Jb A h hb⟩
 reads := fun {w F cs x} h => by obtain ⟨v, e, h⟩ := h; exact ⟨v, e, Up A h⟩
 turn := fun {w w' F G cs x} h k hd => by obtain ⟨v, e, h⟩ := h; exact ⟨v, e, Ka A h k hd⟩
 mono := fun {w F F' cs x} h hf => by obtain ⟨v, e, h⟩ := h; exact ⟨v, e, Ky h hf⟩
 lt := fun {w F cs x} h => by obtain ⟨v, e, h⟩ := h; exact ⟨v, e, Kn A h⟩
 nd_le := fun x => Vd A hs x
 nv_le := fun x => Vd A hs x
theorem Xr (T : Ty α) (xs : List α) (k : Int) : Ei T xs k 0 = k := by simp [Ei, sumN_zero]
theorem Xs {T : Ty α} {xs : List α} {k : Int} {j : Nat} (hj : j < xs.length) : Ei T xs k (j + 1) = Ei T xs k j + (T.nd (xs.getD j T.d) : Int) := by
 unfold Ei; rw [sumN_step T.nd T.d hj]; omega
theorem Us (T : Ty α) (xs : List α) (k : Int) : Ei T xs k xs.length = k + (Jq T xs : Int) := rfl
theorem Vb {T : Ty α} (A : T.Law) (h16 : T.s ≤ 16) {xs : List α} {k : Int} {j : Nat} (hs : zL T xs ≤ 1048576) (hj : j ≤ xs.length) : k ≤ Ei T xs k j ∧ Ei T xs k j ≤ k + 16777216 := by
 have h1 := Vd A h16 xs
 have h2 := sumN_le T.nd hj
 unfold Jq at h1
 unfold Ei
 omega
theorem Ur {T : Ty α} {xs : List α} {k : Int} {j : Nat} (hj : j ≤ xs.length) : (mTo T xs k j).length = xs.length := by simp [mTo]; omega
theorem mTo_at {T : Ty α} {xs : List α} {k : Int} {j : Nat} (hj : j < xs.length) : (mTo T xs k j).getD j T.d = xs.getD j T.d := by
 unfold mTo
 simp only [List.getD]
 rw [List.getElem?_append_right (by simp), List.getElem?_drop]
 simp
theorem mTo_step {T : Ty α} {xs : List α} {k : Int} {j : Nat} (hj : j < xs.length) : (mTo T xs k j).set j (T.md (xs.getD j T.d) (Ei T xs k j)) = mTo T xs k (j + 1) := by
 unfold mTo
 rw [List.set_append_right _ _ (by simp), List.drop_eq_getElem_cons hj, List.range_succ, List.map_append]
 simp only [List.length_map, List.length_range, Nat.sub_self, List.set_cons_zero, List.map_cons, List.map_nil, List.append_assoc, List.cons_append, List.nil_append]
 rfl
theorem mTo_all (T : Ty α) (xs : List α) (k : Int) : mTo T xs k xs.length = Vo T xs k := by simp [mTo, Vo]
theorem mTo_zero (T : Ty α) (xs : List α) (k : Int) : mTo T xs k 0 = xs := by simp [mTo]
theorem Vy (T : Ty α) (xs : List α) (k : Int) : (Vo T xs k).length = xs.length := by simp [Vo]
theorem mAll_at {T : Ty α} {xs : List α} {k : Int} {j : Nat} (hj : j < xs.length) : (Vo T xs k).getD j T.d = T.md (xs.getD j T.d) (Ei T xs k j) := by simp [Vo, mAt, List.getD, hj]
theorem Xb {xs : List α} {d : α} {k : Nat} (h : k < xs.length) : (xs.take k ++ List.replicate (xs.length - k) d).set k (xs.getD k d) = xs.take (k + 1) ++ List.replicate (xs.length - (k + 1)) d := by
 have hk : (xs.take k).length = k := by rw [List.length_take]; omega
 rw [List.set_append_right _ _ (by omega), hk, Nat.sub_self, show xs.length - k = (xs.length - (k + 1)) + 1 by omega, List.replicate_succ, List.set_cons_zero, List.take_succ_eq_append_getElem h, List.append_assoc]
 simp [List.getD, h]
theorem Xn {xs : List α} {d : α} {k : Nat} (h : k ≤ xs.length) : (xs.take k ++ List.replicate (xs.length - k) d).length = xs.length := by simp; omega
end
/-- New blocks: those Kw w. -/
def Kw (w : World) : Nat → Prop := fun b => w.heap.size ≤ b
/-- A value in new memory is answered. -/
def Yy {α : Type} (T : Ty α) (mk : List Value → Value) (w : World) (x : α) (e : Ending) (w' : World) : Prop := ∃ cs, e = .returned (mk cs) ∧ T.O w' (Kw w) cs x ∧ Below w w w'
def Xg {α : Type} (t : TypeId) (T : Ty α) (w : World) (xs : List α) (e : Ending) (w' : World) : Prop := ∃ v, e = .returned v ∧ Kp t T w' (Kw w) v xs ∧ Below w w w'
theorem Vl {w : World} {b : Nat} {t : TypeId} {f : Nat × Nat} {v0 v1 : Value} (h : w.heap[b]? = some (.cells #[v0, v1] t f)) : w.cell? ⟨b, 0, none⟩ = some v0 ∧ w.cell? ⟨b, 1, none⟩ = some v1 :=
 ⟨Ia w b 0 _ _ _ h, Ia w b 1 _ _ _ h⟩
theorem cls3 {w : World} {b : Nat} {t : TypeId} {f : Nat × Nat} {v0 v1 v2 : Value} (h : w.heap[b]? = some (.cells #[v0, v1, v2] t f)) : w.cell? ⟨b, 0, none⟩ = some v0 ∧ w.cell? ⟨b, 1, none⟩ = some v1 ∧ w.cell? ⟨b, 2, none⟩ = some v2 :=
 ⟨Ia w b 0 _ _ _ h, Ia w b 1 _ _ _ h, Ia w b 2 _ _ _ h⟩
theorem cls4 {w : World} {b : Nat} {t : TypeId} {f : Nat × Nat} {v0 v1 v2 v3 : Value} (h : w.heap[b]? = some (.cells #[v0, v1, v2, v3] t f)) : w.cell? ⟨b, 0, none⟩ = some v0 ∧ w.cell? ⟨b, 1, none⟩ = some v1 ∧ w.cell? ⟨b, 2, none⟩ = some v2 ∧ w.cell? ⟨b, 3, none⟩ = some v3 :=
 ⟨Ia w b 0 _ _ _ h, Ia w b 1 _ _ _ h, Ia w b 2 _ _ _ h, Ia w b 3 _ _ _ h⟩
theorem Ed {w : World} {b : Nat} {t : TypeId} {f : Nat × Nat} {v0 v1 v2 v3 v4 : Value} (h : w.heap[b]? = some (.cells #[v0, v1, v2, v3, v4] t f)) : w.cell? ⟨b, 0, none⟩ = some v0 ∧ w.cell? ⟨b, 1, none⟩ = some v1 ∧ w.cell? ⟨b, 2, none⟩ = some v2 ∧ w.cell? ⟨b, 3, none⟩ = some v3 ∧ w.cell? ⟨b, 4, none⟩ = some v4 :=
 ⟨Ia w b 0 _ _ _ h, Ia w b 1 _ _ _ h, Ia w b 2 _ _ _ h, Ia w b 3 _ _ _ h, Ia w b 4 _ _ _ h⟩
theorem cls6 {w : World} {b : Nat} {t : TypeId} {f : Nat × Nat} {v0 v1 v2 v3 v4 v5 : Value} (h : w.heap[b]? = some (.cells #[v0, v1, v2, v3, v4, v5] t f)) : w.cell? ⟨b, 0, none⟩ = some v0 ∧ w.cell? ⟨b, 1, none⟩ = some v1 ∧ w.cell? ⟨b, 2, none⟩ = some v2 ∧ w.cell? ⟨b, 3, none⟩ = some v3 ∧ w.cell? ⟨b, 4, none⟩ = some v4 ∧ w.cell? ⟨b, 5, none⟩ = some v5 :=
 ⟨Ia w b 0 _ _ _ h, Ia w b 1 _ _ _ h, Ia w b 2 _ _ _ h, Ia w b 3 _ _ _ h, Ia w b 4 _ _ _ h, Ia w b 5 _ _ _ h⟩
theorem cls7 {w : World} {b : Nat} {t : TypeId} {f : Nat × Nat} {v0 v1 v2 v3 v4 v5 v6 : Value} (h : w.heap[b]? = some (.cells #[v0, v1, v2, v3, v4, v5, v6] t f)) : w.cell? ⟨b, 0, none⟩ = some v0 ∧ w.cell? ⟨b, 1, none⟩ = some v1 ∧ w.cell? ⟨b, 2, none⟩ = some v2 ∧ w.cell? ⟨b, 3, none⟩ = some v3 ∧ w.cell? ⟨b, 4, none⟩ = some v4 ∧ w.cell? ⟨b, 5, none⟩ = some v5 ∧ w.cell? ⟨b, 6, none⟩ = some v6 :=
 ⟨Ia w b 0 _ _ _ h, Ia w b 1 _ _ _ h, Ia w b 2 _ _ _ h, Ia w b 3 _ _ _ h, Ia w b 4 _ _ _ h, Ia w b 5 _ _ _ h, Ia w b 6 _ _ _ h⟩
theorem Kz {w : World} {b : Nat} {t : TypeId} {f : Nat × Nat} {v0 v1 v2 v3 v4 v5 v6 v7 : Value} (h : w.heap[b]? = some (.cells #[v0, v1, v2, v3, v4, v5, v6, v7] t f)) : w.cell? ⟨b, 0, none⟩ = some v0 ∧ w.cell? ⟨b, 1, none⟩ = some v1 ∧ w.cell? ⟨b, 2, none⟩ = some v2 ∧ w.cell? ⟨b, 3, none⟩ = some v3 ∧ w.cell? ⟨b, 4, none⟩ = some v4 ∧ w.cell? ⟨b, 5, none⟩ = some v5 ∧ w.cell? ⟨b, 6, none⟩ = some v6 ∧ w.cell? ⟨b, 7, none⟩ = some v7 :=
 ⟨Ia w b 0 _ _ _ h, Ia w b 1 _ _ _ h, Ia w b 2 _ _ _ h, Ia w b 3 _ _ _ h, Ia w b 4 _ _ _ h, Ia w b 5 _ _ _ h, Ia w b 6 _ _ _ h, Ia w b 7 _ _ _ h⟩
theorem cls9 {w : World} {b : Nat} {t : TypeId} {f : Nat × Nat} {v0 v1 v2 v3 v4 v5 v6 v7 v8 : Value} (h : w.heap[b]? = some (.cells #[v0, v1, v2, v3, v4, v5, v6, v7, v8] t f)) : w.cell? ⟨b, 0, none⟩ = some v0 ∧ w.cell? ⟨b, 1, none⟩ = some v1 ∧ w.cell? ⟨b, 2, none⟩ = some v2 ∧ w.cell? ⟨b, 3, none⟩ = some v3 ∧ w.cell? ⟨b, 4, none⟩ = some v4 ∧ w.cell? ⟨b, 5, none⟩ = some v5 ∧ w.cell? ⟨b, 6, none⟩ = some v6 ∧ w.cell? ⟨b, 7, none⟩ = some v7 ∧ w.cell? ⟨b, 8, none⟩ = some v8 :=
 ⟨Ia w b 0 _ _ _ h, Ia w b 1 _ _ _ h, Ia w b 2 _ _ _ h, Ia w b 3 _ _ _ h, Ia w b 4 _ _ _ h, Ia w b 5 _ _ _ h, Ia w b 6 _ _ _ h, Ia w b 7 _ _ _ h, Ia w b 8 _ _ _ h⟩
theorem Yr {w : World} {b : Nat} {t : TypeId} {f : Nat × Nat} {v0 v1 v2 v3 v4 v5 v6 v7 v8 v9 : Value} (h : w.heap[b]? = some (.cells #[v0, v1, v2, v3, v4, v5, v6, v7, v8, v9] t f)) : w.cell? ⟨b, 0, none⟩ = some v0 ∧ w.cell? ⟨b, 1, none⟩ = some v1 ∧ w.cell? ⟨b, 2, none⟩ = some v2 ∧ w.cell? ⟨b, 3, none⟩ = some v3 ∧ w.cell? ⟨b, 4, none⟩ = some v4 ∧ w.cell? ⟨b, 5, none⟩ = some v5 ∧ w.cell? ⟨b, 6, none⟩ = some v6 ∧ w.cell? ⟨b, 7, none⟩ = some v7 ∧ w.cell? ⟨b, 8, none⟩ = some v8 ∧ w.cell? ⟨b, 9, none⟩ = some v9 :=
 ⟨Ia w b 0 _ _ _ h, Ia w b 1 _ _ _ h, Ia w b 2 _ _ _ h, Ia w b 3 _ _ _ h, Ia w b 4 _ _ _ h, Ia w b 5 _ _ _ h, Ia w b 6 _ _ _ h, Ia w b 7 _ _ _ h, Ia w b 8 _ _ _ h, Ia w b 9 _ _ _ h⟩
theorem zh {p : Prop} (h : p) : Hid p := Lib.hid h
theorem zb {w w' : World} {b : Nat} {o : Obj} (c : Below w w w') (h : Hid (w.heap[b]? = some o)) : Hid (w'.heap[b]? = some o) := Lib.hid ((c.block b (Array.getElem?_eq_some_iff.1 h.out).1).trans h.out)
theorem zB {G : Nat → Prop} {w w' : World} {b : Nat} {o : Obj} (c : Kb G w w') (h : Hid (w.heap[b]? = some o)) (g : ¬ G b) : Hid (w'.heap[b]? = some o) := Lib.hid ((c.block b (Array.getElem?_eq_some_iff.1 h.out).1 g).trans h.out)
theorem zd {B : Nat} {w0 w w' : World} (d : Hid (Below B w0 w)) (c : Below w w w') (h : B ≤ w.heap.size) : Hid (Below B w0 w') := Lib.hid (d.out.trans (c.mono h))
theorem zD {w0 w w' : World} (d : Hid (Below w0 w0 w)) (c : Below w w w') : Hid (Below w0 w0 w') := Lib.hid (d.out.trans (c.mono d.out.size))
theorem zf {α : Type} {T : Ty α} (A : T.Law) {e : TypeId} {w w' : World} {F : Nat → Prop} {v : Value} {xs : List α} (h : Hid (Kp e T w F v xs)) (c : Below w w w') : Hid (Kp e T w' F v xs) := Lib.hid (Yi A h.out c)
theorem zt {α : Type} {T : Ty α} (A : T.Law) {e : TypeId} {w w' : World} {F G : Nat → Prop} {v : Value} {xs : List α} (h : Hid (Kp e T w F v xs)) (c : Kb G w w') (g : ∀ b, F b → ¬ G b) : Hid (Kp e T w' F v xs) := Lib.hid (Ka A h.out c g)
theorem zal (w : World) (o : Obj) : Below w w (w.alloc o) := (Il _ _).alloc (Ii _) _
theorem zs (w : World) (o : Obj) : w.heap.size < (w.alloc o).heap.size := by simp [Ie]
theorem cr {w : World} {b : Nat} {C : Array Value} {t : TypeId} {f : Nat × Nat} (i : Nat) (v : Value) (h : w.heap[b]? = some (.cells C t f)) (e : C[i]? = some v := by rfl) : w.cell? ⟨b, i, none⟩ = some v := (Ia w b i C t f h).trans e
theorem cx {B : Nat} {w w' : World} {p : Addr} {v : Value} (d : Hid (Below B w w')) (c : Hid (w.cell? p = some v)) (l : Hid (p.block < B)) : w'.cell? p = some v := (d.out.cell l.out).trans c.out
theorem zq {w : World} {base : Nat} {e : TypeId} {size g n cap : Nat} {xs : List Value} (h : w.ownsRow base e size (.slice (some ⟨g, 0, none⟩) n cap) n xs) (j : Nat) (hj : j < n * size) : ∃ x, w.cell? ⟨g, j, none⟩ = some x := ⟨_, (World.ownsRow.cellAt h j hj).trans (Ih (by have h1 : xs.length = n * size := h.1; omega))⟩
theorem ts2 (w : World) (g : Nat) (v0 v1 : Value) : Kb (fun b => b = g) w ((w.setCell ⟨g, 0, none⟩ v0).setCell ⟨g, 1, none⟩ v1) := (((Kb.refl (fun b => b = g) w).trans (Jm (G := fun b => b = g) (g := g) (j := 0) (u := v0) rfl)).trans (Jm (G := fun b => b = g) (g := g) (j := 1) (u := v1) rfl))
theorem st2 {w : World} {g : Nat} {t : TypeId} {u0 u1 : Value} (h : w.heap[g]? = some (.cells #[u0, u1] t (0, 0))) (v0 v1 : Value) : ((w.setCell ⟨g, 0, none⟩ v0).setCell ⟨g, 1, none⟩ v1).heap[g]? = some (.cells #[v0, v1] t (0, 0)) := by
 have r := (Ib _ g 1 _ _ v1 (Ib _ g 0 _ _ v0 h))
 simpa using r
theorem ts3 (w : World) (g : Nat) (v0 v1 v2 : Value) : Kb (fun b => b = g) w (((w.setCell ⟨g, 0, none⟩ v0).setCell ⟨g, 1, none⟩ v1).setCell ⟨g, 2, none⟩ v2) := ((((Kb.refl (fun b => b = g) w).trans (Jm (G := fun b => b = g) (g := g) (j := 0) (u := v0) rfl)).trans (Jm (G := fun b => b = g) (g := g) (j := 1) (u := v1) rfl)).trans (Jm (G := fun b => b = g) (g := g) (j := 2) (u := v2) rfl))
theorem st3 {w : World} {g : Nat} {t : TypeId} {u0 u1 u2 : Value} (h : w.heap[g]? = some (.cells #[u0, u1, u2] t (0, 0))) (v0 v1 v2 : Value) : (((w.setCell ⟨g, 0, none⟩ v0).setCell ⟨g, 1, none⟩ v1).setCell ⟨g, 2, none⟩ v2).heap[g]? = some (.cells #[v0, v1, v2] t (0, 0)) := by
 have r := (Ib _ g 2 _ _ v2 (Ib _ g 1 _ _ v1 (Ib _ g 0 _ _ v0 h)))
 simpa using r
theorem ts4 (w : World) (g : Nat) (v0 v1 v2 v3 : Value) : Kb (fun b => b = g) w ((((w.setCell ⟨g, 0, none⟩ v0).setCell ⟨g, 1, none⟩ v1).setCell ⟨g, 2, none⟩ v2).setCell ⟨g, 3, none⟩ v3) := (((((Kb.refl (fun b => b = g) w).trans (Jm (G := fun b => b = g) (g := g) (j := 0) (u := v0) rfl)).trans (Jm (G := fun b => b = g) (g := g) (j := 1) (u := v1) rfl)).trans (Jm (G := fun b => b = g) (g := g) (j := 2) (u := v2) rfl)).trans (Jm (G := fun b => b = g) (g := g) (j := 3) (u := v3) rfl))
theorem st4 {w : World} {g : Nat} {t : TypeId} {u0 u1 u2 u3 : Value} (h : w.heap[g]? = some (.cells #[u0, u1, u2, u3] t (0, 0))) (v0 v1 v2 v3 : Value) : ((((w.setCell ⟨g, 0, none⟩ v0).setCell ⟨g, 1, none⟩ v1).setCell ⟨g, 2, none⟩ v2).setCell ⟨g, 3, none⟩ v3).heap[g]? = some (.cells #[v0, v1, v2, v3] t (0, 0)) := by
 have r := (Ib _ g 3 _ _ v3 (Ib _ g 2 _ _ v2 (Ib _ g 1 _ _ v1 (Ib _ g 0 _ _ v0 h))))
 simpa using r
theorem ts5 (w : World) (g : Nat) (v0 v1 v2 v3 v4 : Value) : Kb (fun b => b = g) w (((((w.setCell ⟨g, 0, none⟩ v0).setCell ⟨g, 1, none⟩ v1).setCell ⟨g, 2, none⟩ v2).setCell ⟨g, 3, none⟩ v3).setCell ⟨g, 4, none⟩ v4) := ((((((Kb.refl (fun b => b = g) w).trans (Jm (G := fun b => b = g) (g := g) (j := 0) (u := v0) rfl)).trans (Jm (G := fun b => b = g) (g := g) (j := 1) (u := v1) rfl)).trans (Jm (G := fun b => b = g) (g := g) (j := 2) (u := v2) rfl)).trans (Jm (G := fun b => b = g) (g := g) (j := 3) (u := v3) rfl)).trans (Jm (G := fun b => b = g) (g := g) (j := 4) (u := v4) rfl))
theorem st5 {w : World} {g : Nat} {t : TypeId} {u0 u1 u2 u3 u4 : Value} (h : w.heap[g]? = some (.cells #[u0, u1, u2, u3, u4] t (0, 0))) (v0 v1 v2 v3 v4 : Value) : (((((w.setCell ⟨g, 0, none⟩ v0).setCell ⟨g, 1, none⟩ v1).setCell ⟨g, 2, none⟩ v2).setCell ⟨g, 3, none⟩ v3).setCell ⟨g, 4, none⟩ v4).heap[g]? = some (.cells #[v0, v1, v2, v3, v4] t (0, 0)) := by
 have r := (Ib _ g 4 _ _ v4 (Ib _ g 3 _ _ v3 (Ib _ g 2 _ _ v2 (Ib _ g 1 _ _ v1 (Ib _ g 0 _ _ v0 h)))))
 simpa using r
theorem ts6 (w : World) (g : Nat) (v0 v1 v2 v3 v4 v5 : Value) : Kb (fun b => b = g) w ((((((w.setCell ⟨g, 0, none⟩ v0).setCell ⟨g, 1, none⟩ v1).setCell ⟨g, 2, none⟩ v2).setCell ⟨g, 3, none⟩ v3).setCell ⟨g, 4, none⟩ v4).setCell ⟨g, 5, none⟩ v5) := (((((((Kb.refl (fun b => b = g) w).trans (Jm (G := fun b => b = g) (g := g) (j := 0) (u := v0) rfl)).trans (Jm (G := fun b => b = g) (g := g) (j := 1) (u := v1) rfl)).trans (Jm (G := fun b => b = g) (g := g) (j := 2) (u := v2) rfl)).trans (Jm (G := fun b => b = g) (g := g) (j := 3) (u := v3) rfl)).trans (Jm (G := fun b => b = g) (g := g) (j := 4) (u := v4) rfl)).trans (Jm (G := fun b => b = g) (g := g) (j := 5) (u := v5) rfl))
theorem st6 {w : World} {g : Nat} {t : TypeId} {u0 u1 u2 u3 u4 u5 : Value} (h : w.heap[g]? = some (.cells #[u0, u1, u2, u3, u4, u5] t (0, 0))) (v0 v1 v2 v3 v4 v5 : Value) : ((((((w.setCell ⟨g, 0, none⟩ v0).setCell ⟨g, 1, none⟩ v1).setCell ⟨g, 2, none⟩ v2).setCell ⟨g, 3, none⟩ v3).setCell ⟨g, 4, none⟩ v4).setCell ⟨g, 5, none⟩ v5).heap[g]? = some (.cells #[v0, v1, v2, v3, v4, v5] t (0, 0)) := by
 have r := (Ib _ g 5 _ _ v5 (Ib _ g 4 _ _ v4 (Ib _ g 3 _ _ v3 (Ib _ g 2 _ _ v2 (Ib _ g 1 _ _ v1 (Ib _ g 0 _ _ v0 h))))))
 simpa using r
theorem ts7 (w : World) (g : Nat) (v0 v1 v2 v3 v4 v5 v6 : Value) : Kb (fun b => b = g) w (((((((w.setCell ⟨g, 0, none⟩ v0).setCell ⟨g, 1, none⟩ v1).setCell ⟨g, 2, none⟩ v2).setCell ⟨g, 3, none⟩ v3).setCell ⟨g, 4, none⟩ v4).setCell ⟨g, 5, none⟩ v5).setCell ⟨g, 6, none⟩ v6) := ((((((((Kb.refl (fun b => b = g) w).trans (Jm (G := fun b => b = g) (g := g) (j := 0) (u := v0) rfl)).trans (Jm (G := fun b => b = g) (g := g) (j := 1) (u := v1) rfl)).trans (Jm (G := fun b => b = g) (g := g) (j := 2) (u := v2) rfl)).trans (Jm (G := fun b => b = g) (g := g) (j := 3) (u := v3) rfl)).trans (Jm (G := fun b => b = g) (g := g) (j := 4) (u := v4) rfl)).trans (Jm (G := fun b => b = g) (g := g) (j := 5) (u := v5) rfl)).trans (Jm (G := fun b => b = g) (g := g) (j := 6) (u := v6) rfl))
theorem st7 {w : World} {g : Nat} {t : TypeId} {u0 u1 u2 u3 u4 u5 u6 : Value} (h : w.heap[g]? = some (.cells #[u0, u1, u2, u3, u4, u5, u6] t (0, 0))) (v0 v1 v2 v3 v4 v5 v6 : Value) : (((((((w.setCell ⟨g, 0, none⟩ v0).setCell ⟨g, 1, none⟩ v1).setCell ⟨g, 2, none⟩ v2).setCell ⟨g, 3, none⟩ v3).setCell ⟨g, 4, none⟩ v4).setCell ⟨g, 5, none⟩ v5).setCell ⟨g, 6, none⟩ v6).heap[g]? = some (.cells #[v0, v1, v2, v3, v4, v5, v6] t (0, 0)) := by
 have r := (Ib _ g 6 _ _ v6 (Ib _ g 5 _ _ v5 (Ib _ g 4 _ _ v4 (Ib _ g 3 _ _ v3 (Ib _ g 2 _ _ v2 (Ib _ g 1 _ _ v1 (Ib _ g 0 _ _ v0 h)))))))
 simpa using r
theorem ts8 (w : World) (g : Nat) (v0 v1 v2 v3 v4 v5 v6 v7 : Value) : Kb (fun b => b = g) w ((((((((w.setCell ⟨g, 0, none⟩ v0).setCell ⟨g, 1, none⟩ v1).setCell ⟨g, 2, none⟩ v2).setCell ⟨g, 3, none⟩ v3).setCell ⟨g, 4, none⟩ v4).setCell ⟨g, 5, none⟩ v5).setCell ⟨g, 6, none⟩ v6).setCell ⟨g, 7, none⟩ v7) := (((((((((Kb.refl (fun b => b = g) w).trans (Jm (G := fun b => b = g) (g := g) (j := 0) (u := v0) rfl)).trans (Jm (G := fun b => b = g) (g := g) (j := 1) (u := v1) rfl)).trans (Jm (G := fun b => b = g) (g := g) (j := 2) (u := v2) rfl)).trans (Jm (G := fun b => b = g) (g := g) (j := 3) (u := v3) rfl)).trans (Jm (G := fun b => b = g) (g := g) (j := 4) (u := v4) rfl)).trans (Jm (G := fun b => b = g) (g := g) (j := 5) (u := v5) rfl)).trans (Jm (G := fun b => b = g) (g := g) (j := 6) (u := v6) rfl)).trans (Jm (G := fun b => b = g) (g := g) (j := 7) (u := v7) rfl))
theorem st8 {w : World} {g : Nat} {t : TypeId} {u0 u1 u2 u3 u4 u5 u6 u7 : Value} (h : w.heap[g]? = some (.cells #[u0, u1, u2, u3, u4, u5, u6, u7] t (0, 0))) (v0 v1 v2 v3 v4 v5 v6 v7 : Value) : ((((((((w.setCell ⟨g, 0, none⟩ v0).setCell ⟨g, 1, none⟩ v1).setCell ⟨g, 2, none⟩ v2).setCell ⟨g, 3, none⟩ v3).setCell ⟨g, 4, none⟩ v4).setCell ⟨g, 5, none⟩ v5).setCell ⟨g, 6, none⟩ v6).setCell ⟨g, 7, none⟩ v7).heap[g]? = some (.cells #[v0, v1, v2, v3, v4, v5, v6, v7] t (0, 0)) := by
 have r := (Ib _ g 7 _ _ v7 (Ib _ g 6 _ _ v6 (Ib _ g 5 _ _ v5 (Ib _ g 4 _ _ v4 (Ib _ g 3 _ _ v3 (Ib _ g 2 _ _ v2 (Ib _ g 1 _ _ v1 (Ib _ g 0 _ _ v0 h))))))))
 simpa using r
theorem ts10 (w : World) (g : Nat) (v0 v1 v2 v3 v4 v5 v6 v7 v8 v9 : Value) : Kb (fun b => b = g) w ((((((((((w.setCell ⟨g, 0, none⟩ v0).setCell ⟨g, 1, none⟩ v1).setCell ⟨g, 2, none⟩ v2).setCell ⟨g, 3, none⟩ v3).setCell ⟨g, 4, none⟩ v4).setCell ⟨g, 5, none⟩ v5).setCell ⟨g, 6, none⟩ v6).setCell ⟨g, 7, none⟩ v7).setCell ⟨g, 8, none⟩ v8).setCell ⟨g, 9, none⟩ v9) := (((((((((((Kb.refl (fun b => b = g) w).trans (Jm (G := fun b => b = g) (g := g) (j := 0) (u := v0) rfl)).trans (Jm (G := fun b => b = g) (g := g) (j := 1) (u := v1) rfl)).trans (Jm (G := fun b => b = g) (g := g) (j := 2) (u := v2) rfl)).trans (Jm (G := fun b => b = g) (g := g) (j := 3) (u := v3) rfl)).trans (Jm (G := fun b => b = g) (g := g) (j := 4) (u := v4) rfl)).trans (Jm (G := fun b => b = g) (g := g) (j := 5) (u := v5) rfl)).trans (Jm (G := fun b => b = g) (g := g) (j := 6) (u := v6) rfl)).trans (Jm (G := fun b => b = g) (g := g) (j := 7) (u := v7) rfl)).trans (Jm (G := fun b => b = g) (g := g) (j := 8) (u := v8) rfl)).trans (Jm (G := fun b => b = g) (g := g) (j := 9) (u := v9) rfl))
theorem st10 {w : World} {g : Nat} {t : TypeId} {u0 u1 u2 u3 u4 u5 u6 u7 u8 u9 : Value} (h : w.heap[g]? = some (.cells #[u0, u1, u2, u3, u4, u5, u6, u7, u8, u9] t (0, 0))) (v0 v1 v2 v3 v4 v5 v6 v7 v8 v9 : Value) : ((((((((((w.setCell ⟨g, 0, none⟩ v0).setCell ⟨g, 1, none⟩ v1).setCell ⟨g, 2, none⟩ v2).setCell ⟨g, 3, none⟩ v3).setCell ⟨g, 4, none⟩ v4).setCell ⟨g, 5, none⟩ v5).setCell ⟨g, 6, none⟩ v6).setCell ⟨g, 7, none⟩ v7).setCell ⟨g, 8, none⟩ v8).setCell ⟨g, 9, none⟩ v9).heap[g]? = some (.cells #[v0, v1, v2, v3, v4, v5, v6, v7, v8, v9] t (0, 0)) := by
 have r := (Ib _ g 9 _ _ v9 (Ib _ g 8 _ _ v8 (Ib _ g 7 _ _ v7 (Ib _ g 6 _ _ v6 (Ib _ g 5 _ _ v5 (Ib _ g 4 _ _ v4 (Ib _ g 3 _ _ v3 (Ib _ g 2 _ _ v2 (Ib _ g 1 _ _ v1 (Ib _ g 0 _ _ v0 h))))))))))
 simpa using r
theorem Vc {a b : Int} (h : a = b) : Ending.returned (.int .i64 a) = .returned (.int .i64 b) := by rw [h]
abbrev tIntS : Ty (List Int) := tSl 3 Je
theorem Vm : tIntS.Law := tSl_law Jc (by decide)
theorem ints_slR {w : World} {v : Value} {xs : List Int} (h : Uc w v xs) : Ko Je w v xs := by
 rcases h with h | ⟨b, off, cap, h1, h2, h3, h4⟩
 ·
  exact Or.inl h
 ·
  refine Or.inr ⟨b, off, cap, fun j => [.int .i64 (xs.getD j 0)], h1, h2, h3, fun j hj => ⟨fun i hi => ?_, rfl⟩⟩
  have hi0 : i < 1 := hi
  obtain rfl : i = 0 := by omega
  have e : off + j * Je.n + 0 = off + j := by show off + j * 1 + 0 = _; omega
  rw [e, h4 j hj]; rfl
theorem Yd {w : World} {v : Value} {xs : List Int} (h : Ko Je w v xs) : Uc w v xs := by
 rcases h with h | ⟨b, off, cap, us, h1, h2, h3, h4⟩
 ·
  exact Or.inl h
 ·
  refine Or.inr ⟨b, off, cap, h1, h2, h3, fun j hj => ?_⟩
  have h5 := (h4 j hj).1 0 (by decide)
  have h6 : us j = [.int .i64 (xs.getD j 0)] := (h4 j hj).2
  have e : off + j * Je.n + 0 = off + j := by show off + j * 1 + 0 = _; omega
  rw [e, h6] at h5
  exact h5
theorem zL_flat {α : Type} {T : Ty α} (h : ∀ x, T.sz x = 0) (xs : List α) : zL T xs = xs.length := by
 unfold zL zTo sumN
 have : ∀ l : List α, (l.map T.sz).sum = 0 := fun l => by
  induction l with
  | nil => rfl
  | cons x l ih => rw [List.map_cons, List.sum_cons, h x, ih]
 rw [this]; rfl
theorem sumN_one {α : Type} {f : α → Nat} {c : Nat} (h : ∀ x, f x = c) (xs : List α) {k : Nat} (hk : k ≤ xs.length) : sumN f xs k = c * k := by
 unfold sumN
 have : ∀ l : List α, (l.map f).sum = c * l.length := fun l => by
  induction l with
  | nil => rfl
  | cons x l ih => rw [List.map_cons, List.sum_cons, h x, ih, List.length_cons, Nat.mul_add]; omega
 rw [this, List.length_take, Nat.min_eq_left hk]
theorem zL_ints (xs : List Int) : zL Je xs = xs.length := zL_flat (fun _ => rfl) xs
theorem ndL_ints (xs : List Int) : Jq Je xs = xs.length := by
 unfold Jq; rw [sumN_one (f := Je.nd) (c := 1) (fun _ => rfl) xs (Ii _)]; omega
theorem mAll_ints (xs : List Int) (k : Int) : Vo Je xs k = marks k xs.length := by
 unfold Vo marks
 apply List.map_congr_left
 intro i hi
 rw [List.mem_range] at hi
 show Ei Je xs k i = k + (i : Int)
 unfold Ei
 rw [sumN_one (f := Je.nd) (c := 1) (fun _ => rfl) xs (by omega)]; omega
theorem slO_own {w : World} {F : Nat → Prop} {v : Value} {xs : List Int} (h : Kp 3 Je w F v xs) : Ey w 0 v xs ∧ ∀ b, v.ownBlock = some b → F b := by
 obtain ⟨L, us, Fs, h1, h2, h3, h4⟩ := h
 refine ⟨?_, h2⟩
 have e : L = xs.map (Value.int .i64) := by
  apply List.ext_getElem?
  intro i
  by_cases hi : i < xs.length
  ·
   obtain ⟨g1, g2, _⟩ := h3 i hi
   have g3 := g1 0 (by decide)
   have g4 : us i = [.int .i64 (xs.getD i 0)] := g2
   have e : i * Je.n + 0 = i := by show i * 1 + 0 = _; omega
   rw [e, g4] at g3
   rw [g3]
   simp [List.getD, hi]
  ·
   have hl : L.length = xs.length * 1 := h1.1
   rw [List.getElem?_eq_none (by omega), List.getElem?_eq_none (by simp; omega)]
 rw [e] at h1
 exact h1
theorem own_slO {w : World} {F : Nat → Prop} {v : Value} {xs : List Int} {B : Nat} (h : Ey w B v xs) (hF : ∀ b, v.ownBlock = some b → F b) : Kp 3 Je w F v xs := by
 refine ⟨_, fun j => [.int .i64 (xs.getD j 0)], fun _ _ => False, row_low h (Ij _), hF, fun j hj => ⟨fun i hi => ?_, rfl, fun b hb => False.elim hb⟩, fun i j _ _ _ b hb => False.elim hb⟩
 have hi0 : i < 1 := hi
 obtain rfl : i = 0 := by omega
 have e : j * Je.n + 0 = j := by show j * 1 + 0 = _; omega
 rw [e]
 simp [List.getD, hj]
/-- Numbers in new memory, either way. -/
theorem fresh_ints {w w' : World} {v : Value} {xs : List Int} (h : Ey w' w.heap.size v xs) : Kp 3 Je w' (Kw w) v xs := own_slO h (fun b hb => (h.lt b hb).1)
theorem szIntS_Y (v : Value) (xs : List Int) (k0 : Int) (w : World) (h : Ko Je w v xs) (hs : ((zL Je xs : Nat) : Int) ≤ k0) (hk : k0 ≤ 1048576) :
  Calls Tryz.prog 50 #[v, .int .i64 k0] w fun e w' => e = .returned (.int .i64 (k0 - ((zL Je xs : Nat) : Int))) ∧ Below w w w' := by
 rw [zL_ints] at hs ⊢
 obtain ⟨a, cap, rfl⟩ := Jl h
 exact (szInt_yes a cap xs.length k0 w hs hk).mono fun e w' g => ⟨g.1, by rw [g.2]; exact Il _ _⟩
theorem szIntS_N (v : Value) (xs : List Int) (k0 : Int) (w : World) (h : Ko Je w v xs) (hs : k0 < ((zL Je xs : Nat) : Int)) (hk : k0 ≤ 1048576) (hp : 0 ≤ k0) (ho : tIntS.ok xs) :
  Calls Tryz.prog 50 #[v, .int .i64 k0] w fun e w' => e = .returned (.int .i64 (-1)) ∧ Below w w w' := by
 rw [zL_ints] at hs
 obtain ⟨a, cap, rfl⟩ := Jl h
 exact (szInt_no a cap xs.length k0 w hs hp ho.1).mono fun e w' g => ⟨g.1, by rw [g.2]; exact Il _ _⟩
theorem toIntS_S (v : Value) (xs : List Int) (w : World) (h : Ko Je w v xs) (hs : zL Je xs ≤ 1048576) :
  Calls Tryz.prog 57 #[v] w (Xg 3 Je w xs) := by
 rw [zL_ints] at hs
 refine (toIntS_any v xs w (Yd h) hs).mono ?_
 rintro e w' ⟨u, rfl, o, b⟩
 exact ⟨u, rfl, fresh_ints o, b⟩
theorem eqIntS_S (v u : Value) (xs : List Int) (w : World) (h : Ko Je w v xs) (g : Ko Je w u xs) (hs : zL Je xs ≤ 1048576) :
  Calls Tryz.prog 65 #[v, u] w fun e w' => e = .returned (.bool true) ∧ Below w w w' := by
 rw [zL_ints] at hs
 exact eqIntS_same v u xs w (Yd h) (Yd g) hs
theorem Uu (v : Value) (xs : List Int) (F : Nat → Prop) (k : Int) (w : World) (h : Kp 3 Je w F v xs) (hs : zL Je xs ≤ 1048576) (k0 : 0 ≤ k) (k1 : k ≤ 1073741824) :
  Calls Tryz.prog 84 #[v, .int .i64 k] w fun e w' => e = .returned (.int .i64 (k + (Jq Je xs : Int))) ∧ Kp 3 Je w' F v (Vo Je xs k) ∧ Kb F w w' := by
 rw [zL_ints] at hs
 obtain ⟨h1, h2⟩ := slO_own h
 refine (markIntS_any v xs 0 k w h1 hs k0 k1).mono ?_
 rintro e w' ⟨rfl, o, g⟩
 rw [ndL_ints, mAll_ints]
 exact ⟨rfl, own_slO o h2, turn_grown g h2⟩
theorem Um (v : Value) (xs : List Int) (k : Int) (w : World) (h : Ko Je w v (Vo Je xs k)) (hs : zL Je xs ≤ 1048576) (k0 : 0 ≤ k) (k1 : k ≤ 1073741824) :
  Calls Tryz.prog 101 #[v, .int .i64 k] w fun e w' => e = .returned (.int .i64 (k + (Jq Je xs : Int))) ∧ w = w' := by
 rw [zL_ints] at hs
 rw [mAll_ints] at h
 rw [ndL_ints]
 exact heldIntS_any v xs.length k w (Yd h) hs k0 k1
def Jh : Ty (Int × List Int × Int × Int) := Yl Je (Yl tIntS (Yl Je Je))
theorem Jp : Jh.Law := Km Jc (Km Vm (Km Jc Jc))
theorem tVersion_R {w : World} {cs : List Value} {a0 : Int} {x1 : List Int} {a2 : Int} {a3 : Int} (h : Jh.R w cs (a0, x1, a2, a3)) : ∃ v1, cs = [.int .i64 a0, v1, .int .i64 a2, .int .i64 a3] ∧ Ko Je w v1 x1 := by
 obtain ⟨_, _, rfl, rfl, ⟨_, _, rfl, ⟨v1, rfl, h1⟩, ⟨_, _, rfl, rfl, rfl⟩⟩⟩ := h
 exact ⟨_, rfl, h1⟩
theorem tVersion_mkR {w : World} {a0 : Int} {x1 : List Int} {a2 : Int} {a3 : Int} {v1 : Value} (h1 : Ko Je w v1 x1) : Jh.R w [a0, v1, a2, a3] (a0, x1, a2, a3) := ⟨[a0], [v1, a2, a3], rfl, rfl, ⟨[v1], [a2, a3], rfl, ⟨_, rfl, h1⟩, ⟨[a2], [a3], rfl, rfl, rfl⟩⟩⟩
theorem tVersion_sz {a0 : Int} {x1 : List Int} {a2 : Int} {a3 : Int} : Jh.sz (a0, x1, a2, a3) = zL Je x1 := by
 simp only [Jh, Vt, Vx, Vw, Yk, Yt, Ys, Xo, Xw, Xv]
 try omega
theorem tVersion_nd {a0 : Int} {x1 : List Int} {a2 : Int} {a3 : Int} : Jh.nd (a0, x1, a2, a3) = 3 + Jq Je x1 := by
 simp only [Jh, Vt, Vx, Vw, Yk, Yt, Ys, Xo, Xw, Xv]
 try omega
theorem tVersion_md {a0 : Int} {x1 : List Int} {a2 : Int} {a3 : Int} {k : Int} : Jh.md (a0, x1, a2, a3) k = ((k), Vo Je x1 (k + 1), (k + 1 + (Jq Je x1 : Int)), (k + 1 + (Jq Je x1 : Int) + 1)) := by
 simp only [Jh, tPair_md, tPair_mv, Vx, Vw, tInt_md, tInt_mv, Yt, Ys, tSl_md, tSl_mv, Xw, Xv, Int.natCast_add, Int.natCast_zero, Int.natCast_one, Int.add_zero, Int.zero_add, Int.add_assoc]
theorem tVersion_O {w : World} {F : Nat → Prop} {cs : List Value} {a0 : Int} {x1 : List Int} {a2 : Int} {a3 : Int} (h : Jh.O w F cs (a0, x1, a2, a3)) : ∃ v1, ∃ F1 : Nat → Prop, cs = [.int .i64 a0, v1, .int .i64 a2, .int .i64 a3] ∧ Kp 3 Je w F1 v1 x1 ∧ (∀ b, F1 b → F b) := by
 obtain ⟨_, _, F0_1, F0_2, rfl, rfl, ⟨_, _, F1_1, F1_2, rfl, ⟨v1, rfl, h1⟩, ⟨_, _, F2_1, F2_2, rfl, rfl, rfl, s2_1, s2_2, d2⟩, s1_1, s1_2, d1⟩, s0_1, s0_2, d0⟩ := h
 exact ⟨v1, F1_1, rfl, h1, fun b h => (s0_2 b (s1_1 b h))⟩
theorem Ep {w : World} {F : Nat → Prop} {a0 : Int} {x1 : List Int} {a2 : Int} {a3 : Int} {v1 : Value} {F1 : Nat → Prop} (h1 : Kp 3 Je w F1 v1 x1) (s1 : ∀ b, F1 b → F b)  : Jh.O w F [a0, v1, a2, a3] (a0, x1, a2, a3) := ⟨[a0], [v1, a2, a3], fun _ => False, F1, rfl, rfl, ⟨[v1], [a2, a3], F1, fun _ => False, rfl, ⟨_, rfl, h1⟩, ⟨[a2], [a3], fun _ => False, fun _ => False, rfl, rfl, rfl, (fun b h => (False.elim h)), (fun b h => (False.elim h)), (fun b h g => (False.elim h))⟩, (fun b h => h), (fun b h => (False.elim h)), (fun b h g => (False.elim g))⟩, (fun b h => (False.elim h)), (fun b h => s1 b h), (fun b h g => (False.elim h))⟩
abbrev Jd : Ty (List (Int × List Int × Int × Int)) := tSl 212 Jh
theorem Jf : Jd.Law := tSl_law Jp (by decide)
theorem Tryz.info_Version : (Tryz.prog.info? 212).map (fun i => (i.zero, i.size)) = some (some (.agg #[Ja, (), Ja, Ja]), 4) := by kernel_rfl
theorem Tryz.bytes_Version : ((Tryz.prog.info? 212).map (fun i => decide (i.bytes ≤ 512))) = some true := by kernel_rfl
theorem tVersion_zero (w : World) : Jh.O w (fun _ => False) #[.int .i64 0, .slice none 0 0, .int .i64 0, .int .i64 0].toList Jh.d := Ep (Ya _ _ _ (fun _ => False)) (fun b h => h) 
set_option maxHeartbeats 8000000 in
theorem markVersionS_S (v : Value) (xs : List (Int × List Int × Int × Int)) (F : Nat → Prop) (k : Int) (w : World) (h : Kp 212 Jh w F v xs) (hs : zL Jh xs ≤ 1048576) (k0 : 0 ≤ k) (k1 : k ≤ 1006632960) :
  Calls Tryz.prog 212 #[v, .int .i64 k] w fun e w' => e = .returned (.int .i64 (k + (Jq Jh xs : Int))) ∧ Kp 212 Jh w' F v (Vo Jh xs k) ∧ Kb F w w' := by
 rw [← Us]
 have HS := zh hs
 have hlen := Jz hs
 rcases Xi h with ⟨rfl, rfl⟩ | ⟨g, cap, rfl, hFg, hgw⟩
 ·
  have H := zh h
  clear h hs
  go_enter Tryz.func212, Tryz.ntmps212
  go_wp2
  go_loop [1, 5] (fun m i => i = .int .i64 0 ∧ m = .int .i64 k) (fun _ _ => 0)
  case atStart => exact ⟨rfl, rfl⟩
  case round =>
   obtain ⟨rfl, rfl⟩ := hrel
   go_wp2
   go_ret
   exact ⟨by simp [Ei, sumN], by rw [show Vo Jh [] k = [] from rfl]; exact H.out, Kb.refl _ _⟩
 ·
  have H := zh h
  clear h hs
  go_enter Tryz.func212, Tryz.ntmps212
  go_wp2
  go_loopw [1, 5] (fun m i wr => ∃ j : Nat, j ≤ xs.length ∧ i = .int .i64 j ∧ m = .int .i64 (Ei Jh xs k j) ∧ Kp 212 Jh wr (fun b => F b ∧ b < w.heap.size) (.slice (some ⟨g, 0, none⟩) xs.length cap) (mTo Jh xs k j) ∧ Kb F w wr) (fun _ i _ => xs.length - (intOf i).toNat)
  case atStart => exact ⟨0, Ij _, rfl, by rw [Xr], by rw [mTo_zero]; exact Kn Jp H.out, Kb.refl _ _⟩
  case round =>
   obtain ⟨j, hj, rfl, rfl, hown, hon⟩ := hrel
   by_cases hlt : j < xs.length
   ·
    have i1 : (0 : Int) ≤ (j : Int) := by omega
    have i2 : (j : Int) < (xs.length : Int) := by omega
    have hjl : j < (mTo Jh xs k j).length := by rw [Ur hj]; exact hlt
    have HLL := zh (Ur (T := Jh) (k := k) hj)
    obtain ⟨r1, r2⟩ := Vb Jp (by decide) (k := k) HS.out hj
    obtain ⟨r3, r4⟩ := Vb Jp (by decide) (k := k) (j := j + 1) HS.out (by omega)
    have hzx := Vj HS.out hlt
    have hstep := Xs (T := Jh) (k := k) hlt
    have hset := mTo_step (T := Jh) (k := k) hlt
    have hsz := hon.size
    obtain ⟨hme, hFg2, hgl, cj, Fj, Lc, hrow, hLc, hO, hFj, hput⟩ := Eb Jp hown hjl
    clear hme hFg2
    rw [mTo_at hlt] at hO
    have HM : Hid (∃ m', Ei Jh xs k (j + 1) = m') := zh ⟨_, rfl⟩
    obtain ⟨m', hm'⟩ := HM.out
    rw [hm'] at hstep r3 r4
    have HM' := zh hm'
    clear hm' HM H hown hjl
    generalize Ei Jh xs k j = m at *
    generalize xs.getD j Jh.d = x at *
    rw [HLL.out] at hrow hput
    obtain ⟨a0, x1, a2, a3⟩ := x
    rw [tVersion_md] at hset
    rw [tVersion_nd] at hstep
    rw [tVersion_sz] at hzx
    obtain ⟨v1, K1, rfl, o1, q1⟩ := tVersion_O hO
    have S1 := zh (show zL Je x1 ≤ 1048576 by omega)
    have N1 := Vd Jc (by decide) x1
    have R1 : Hid (0 ≤ m + 1 ∧ m + 1 ≤ 1073741824) := zh (by omega)
    have hmx : m + 1 + (Jq Je x1 : Int) + 1 + 1 ≤ 1073741824 := by omega
    have hmm : m + 1 + (Jq Je x1 : Int) + 1 + 1 = m' := by omega
    have HMM := zh hmm
    have hm0 : 0 ≤ m := by omega
    have hm1 : m ≤ 1073741824 := by omega
    clear hmm hstep hzx N1
    have hLl : Lc.length = xs.length * 4 := hrow.1
    have HSET := zh hset
    clear hset
    have tt : Kb (fun b => b = g ∨ Fj b ∨ wr.heap.size ≤ b) wr wr := Kb.refl _ _
    have rr := hrow
    have c0 : ∃ x, wr.cell? ⟨g, j * 4, none⟩ = some x := ⟨_, (World.ownsRow.cellAt rr (j * 4) (by show j * 4 < xs.length * 4; omega)).trans (Ih (by have h9 := rr.1; have h8 : xs.length * Jh.n = xs.length * 4 := rfl; omega))⟩
    obtain ⟨y0, c0⟩ := c0
    have f0 := World.ownsRow.frozenAt rr (j * 4)
    have cv1 : wr.cell? ⟨g, j * 4 + 1, none⟩ = some v1 := (World.ownsRow.cellAt rr (j * 4 + 1) (by show j * 4 + 1 < xs.length * 4; omega)).trans (by exact hLc 1 (by decide))
    go_wp2_with fail
    clear c0 f0 cv1
    have ts : Kb (fun b => b = g) wr (wr.setCell ⟨g, j * 4, none⟩ (.int .i64 (m))) := ((Kb.refl (fun b => b = g) _).trans (Jm (G := fun b => b = g) (g := g) (j := j * 4) (u := .int .i64 (m)) rfl))
    replace rr := (World.ownsRow.stored rr (j * 4) (.int .i64 (m))).1
    replace o1 := Ka Jc o1 ts (fun b h1 h2 => (hFj b (q1 b h1)).2.1 h2)
    replace tt := tt.trans (ts.mono (fun b h => Or.inl h))
    clear ts
    generalize (wr.setCell ⟨g, j * 4, none⟩ (.int .i64 (m))) = W0 at *
    refine (Uu v1 x1 _ (m + 1) W0 o1 S1.out R1.out.1 (by have := R1.out.2; omega)).mono ?_
    rintro e w1 ⟨rfl, m1, t1⟩
    replace rr := Ym rr t1 (fun b hb h => by simp [Value.ownBlock] at hb; exact (hFj b (q1 b h)).2.1 hb.symm)
    replace o1 := m1
    replace tt := tt.trans (t1.mono (fun b h => Or.inr (Or.inl (q1 b h))))
    clear t1
    have c2 : ∃ x, w1.cell? ⟨g, j * 4 + 2, none⟩ = some x := ⟨_, (World.ownsRow.cellAt rr (j * 4 + 2) (by show j * 4 + 2 < xs.length * 4; omega)).trans (Ih (by have h9 := rr.1; have h8 : xs.length * Jh.n = xs.length * 4 := rfl; omega))⟩
    obtain ⟨y2, c2⟩ := c2
    have f2 := World.ownsRow.frozenAt rr (j * 4 + 2)
    have c3 : ∃ x, w1.cell? ⟨g, j * 4 + 3, none⟩ = some x := ⟨_, (World.ownsRow.cellAt rr (j * 4 + 3) (by show j * 4 + 3 < xs.length * 4; omega)).trans (Ih (by have h9 := rr.1; have h8 : xs.length * Jh.n = xs.length * 4 := rfl; omega))⟩
    obtain ⟨y3, c3⟩ := c3
    have f3 := World.ownsRow.frozenAt rr (j * 4 + 3)
    go_wp2
    clear c2 f2 c3 f3
    have ts : Kb (fun b => b = g) w1 ((w1.setCell ⟨g, j * 4 + 2, none⟩ (.int .i64 (m + 1 + (Jq Je x1 : Int)))).setCell ⟨g, j * 4 + 3, none⟩ (.int .i64 (m + 1 + (Jq Je x1 : Int) + 1))) := (((Kb.refl (fun b => b = g) _).trans (Jm (G := fun b => b = g) (g := g) (j := j * 4 + 2) (u := .int .i64 (m + 1 + (Jq Je x1 : Int))) rfl)).trans (Jm (G := fun b => b = g) (g := g) (j := j * 4 + 3) (u := .int .i64 (m + 1 + (Jq Je x1 : Int) + 1)) rfl))
    replace rr := (World.ownsRow.stored (World.ownsRow.stored rr (j * 4 + 2) (.int .i64 (m + 1 + (Jq Je x1 : Int)))).1 (j * 4 + 3) (.int .i64 (m + 1 + (Jq Je x1 : Int) + 1))).1
    replace o1 := Ka Jc o1 ts (fun b h1 h2 => (hFj b (q1 b h1)).2.1 h2)
    replace tt := tt.trans (ts.mono (fun b h => Or.inl h))
    clear ts
    have hO2 := Ep (F := Fj) (a0 := m) (a2 := m + 1 + (Jq Je x1 : Int)) (a3 := m + 1 + (Jq Je x1 : Int) + 1) o1 q1 
    have hst := hput ((w1.setCell ⟨g, j * 4 + 2, none⟩ (.int .i64 (m + 1 + (Jq Je x1 : Int)))).setCell ⟨g, j * 4 + 3, none⟩ (.int .i64 (m + 1 + (Jq Je x1 : Int) + 1))) (((Lc.set (j * 4) (.int .i64 (m))).set (j * 4 + 2) (.int .i64 (m + 1 + (Jq Je x1 : Int)))).set (j * 4 + 3) (.int .i64 (m + 1 + (Jq Je x1 : Int) + 1))) [.int .i64 (m), v1, .int .i64 (m + 1 + (Jq Je x1 : Int)), .int .i64 (m + 1 + (Jq Je x1 : Int) + 1)] Fj _ rr (fun p hp => by have hp2 : p < j * 4 ∨ j * 4 + 4 ≤ p := hp; rw [Ig (by omega)]; rw [Ig (by omega)]; rw [Ig (by omega)]) (fun i hi => by have hi' : i < 4 := hi; match i, hi' with | 0, _ => (show ((((Lc.set (j * 4) (.int .i64 (m))).set (j * 4 + 2) (.int .i64 (m + 1 + (Jq Je x1 : Int)))).set (j * 4 + 3) (.int .i64 (m + 1 + (Jq Je x1 : Int) + 1))))[j * 4]? = _; rw [Ig (by omega)]; rw [Ig (by omega)]; rw [List.getElem?_set_self (by first | omega | (simp only [List.length_set]; omega))]; rfl) | 1, _ => (show ((((Lc.set (j * 4) (.int .i64 (m))).set (j * 4 + 2) (.int .i64 (m + 1 + (Jq Je x1 : Int)))).set (j * 4 + 3) (.int .i64 (m + 1 + (Jq Je x1 : Int) + 1))))[j * 4 + 1]? = _; rw [Ig (by omega)]; rw [Ig (by omega)]; rw [Ig (by omega)]; exact hLc 1 (by decide)) | 2, _ => (show ((((Lc.set (j * 4) (.int .i64 (m))).set (j * 4 + 2) (.int .i64 (m + 1 + (Jq Je x1 : Int)))).set (j * 4 + 3) (.int .i64 (m + 1 + (Jq Je x1 : Int) + 1))))[j * 4 + 2]? = _; rw [Ig (by omega)]; rw [List.getElem?_set_self (by first | omega | (simp only [List.length_set]; omega))]; rfl) | 3, _ => (show ((((Lc.set (j * 4) (.int .i64 (m))).set (j * 4 + 2) (.int .i64 (m + 1 + (Jq Je x1 : Int)))).set (j * 4 + 3) (.int .i64 (m + 1 + (Jq Je x1 : Int) + 1))))[j * 4 + 3]? = _; rw [List.getElem?_set_self (by first | omega | (simp only [List.length_set]; omega))]; rfl)) hO2 (fun b hb => ⟨(hFj b hb).1, Or.inl hb⟩) tt
    rw [HSET.out] at hst
    have HST := zh hst
    have hon2 := hon.trans (Kb.mono (G := fun b => F b ∧ b < w.heap.size) (G' := F) ⟨tt.os, tt.tape, tt.output, tt.size, fun b hb hn => tt.block b hb (fun h => hn (h.elim (fun h => by rw [h]; exact ⟨hFg, hgw⟩) (fun h => h.elim (fun h => (hFj b h).1) (fun h => absurd hb (Nat.not_lt.2 h)))))⟩ (fun b h => h.1))
    clear hst hput tt rr hO2 hon hFj hLc hLl o1
    go_roundw
    case rel => exact ⟨j + 1, by omega, by go_num, by rw [HMM.out]; rw [HM'.out], HST.out, hon2⟩
    case measure => simp [intOf]; omega
   ·
    obtain rfl : j = xs.length := by omega
    rw [mTo_all] at hown
    go_wp2
    go_ret
    exact ⟨rfl, Ky hown (fun b h => h.1), hon⟩
set_option maxHeartbeats 8000000 in
theorem heldVersionS_S (v : Value) (xs : List (Int × List Int × Int × Int)) (k : Int) (w : World) (h : Ko Jh w v (Vo Jh xs k)) (hs : zL Jh xs ≤ 1048576) (k0 : 0 ≤ k) (k1 : k ≤ 1006632960) :
  Calls Tryz.prog 218 #[v, .int .i64 k] w fun e w' => e = .returned (.int .i64 (k + (Jq Jh xs : Int))) ∧ w = w' := by
 rw [← Us]
 have HS := zh hs
 have H := zh h
 have hlen := Jz hs
 obtain ⟨a, cap, rfl⟩ := Jl h
 rw [Vy] at H ⊢
 clear h hs
 go_enter Tryz.func218, Tryz.ntmps218
 go_wp2
 go_loop [1, 5] (fun m i => ∃ j : Nat, j ≤ xs.length ∧ i = .int .i64 j ∧ m = .int .i64 (Ei Jh xs k j)) (fun _ i => xs.length - (intOf i).toNat)
 case atStart => exact ⟨0, Ij _, rfl, by rw [Xr]⟩
 case round =>
  obtain ⟨j, hj, rfl, rfl⟩ := hrel
  by_cases hlt : j < xs.length
  ·
   have i1 : (0 : Int) ≤ (j : Int) := by omega
   have i2 : (j : Int) < (xs.length : Int) := by omega
   obtain ⟨r1, r2⟩ := Vb Jp (by decide) (k := k) HS.out hj
   obtain ⟨r3, r4⟩ := Vb Jp (by decide) (k := k) (j := j + 1) HS.out (by omega)
   have hzx := Vj HS.out hlt
   have hstep := Xs (T := Jh) (k := k) hlt
   obtain ⟨b, off, cap', cs, hv, hbl, hcs, hR⟩ := Ku H.out (k := j) (by rw [Vy]; exact hlt)
   rw [Vy] at hv
   simp only [Ik] at hv
   obtain ⟨rfl, _, rfl⟩ := hv
   rw [mAll_at hlt] at hR
   have HM : Hid (∃ m', Ei Jh xs k (j + 1) = m') := zh ⟨_, rfl⟩
   obtain ⟨m', hm'⟩ := HM.out
   rw [hm'] at hstep r3 r4
   have HM' := zh hm'
   clear hm' HM H
   generalize Ei Jh xs k j = m at *
   generalize xs.getD j Jh.d = x at *
   obtain ⟨a0, x1, a2, a3⟩ := x
   rw [tVersion_md] at hR
   obtain ⟨v1, hR'⟩ := tVersion_R hR
   obtain ⟨rfl, h1⟩ := hR'
   rw [tVersion_sz] at hzx
   rw [tVersion_nd] at hstep
   have p0 : w.cell? ⟨b, off + j * 4, none⟩ = some (Value.int .i64 (m)) := hcs 0 (by decide)
   have p1 : w.cell? ⟨b, off + j * 4 + 1, none⟩ = some (v1) := hcs 1 (by decide)
   have p2 : w.cell? ⟨b, off + j * 4 + 2, none⟩ = some (Value.int .i64 (m + 1 + (Jq Je x1 : Int))) := hcs 2 (by decide)
   have p3 : w.cell? ⟨b, off + j * 4 + 3, none⟩ = some (Value.int .i64 (m + 1 + (Jq Je x1 : Int) + 1)) := hcs 3 (by decide)
   have S1 := zh (show zL Je x1 ≤ 1048576 by omega)
   have N1 := Vd Jc (by decide) x1
   have R1 : Hid (0 ≤ m + 1 ∧ m + 1 ≤ 1073741824) := zh (by omega)
   have A1 := zh h1
   have ng1 : ¬ m + 1 + (Jq Je x1 : Int) < 0 := by omega
   have eq0 : ((m : Int) != m) = false := by simp
   have eq2 : ((m + 1 + (Jq Je x1 : Int) : Int) != m + 1 + (Jq Je x1 : Int)) = false := by simp
   have eq3 : ((m + 1 + (Jq Je x1 : Int) + 1 : Int) != m + 1 + (Jq Je x1 : Int) + 1) = false := by simp
   have hmx : m + 1 + (Jq Je x1 : Int) + 1 + 1 ≤ 1073741824 := by omega
   have hmm : m + 1 + (Jq Je x1 : Int) + 1 + 1 = m' := by omega
   have HMM := zh hmm
   have hm0 : 0 ≤ m := by omega
   have hm1 : m ≤ 1073741824 := by omega
   clear hmm hstep hcs hzx N1 h1
   go_wp2_with fail
   refine (Um v1 x1 (m + 1) _ A1.out S1.out R1.out.1 (by have := R1.out.2; omega)).mono ?_
   rintro e w2 ⟨rfl, rfl⟩
   go_wp2
   go_round
   case rel => exact ⟨j + 1, by omega, by go_num, by rw [HMM.out]; rw [HM'.out]⟩
   case measure => simp [intOf]; omega
  ·
   obtain rfl : j = xs.length := by omega
   go_wp2
   go_ret
   exact ⟨rfl, rfl⟩
abbrev tVersionSS : Ty (List (List (Int × List Int × Int × Int))) := tSl 213 Jd
theorem tVersionSS_law : tVersionSS.Law := tSl_law Jf (by decide)
theorem Tryz.info_VersionS : (Tryz.prog.info? 213).map (fun i => (i.zero, i.size)) = some (some (.slice none 0 0), 1) := by kernel_rfl
theorem Tryz.bytes_VersionS : ((Tryz.prog.info? 213).map (fun i => decide (i.bytes ≤ 512))) = some true := by kernel_rfl
set_option maxHeartbeats 8000000 in
theorem markVersionSS_S (v : Value) (xs : List (List (Int × List Int × Int × Int))) (F : Nat → Prop) (k : Int) (w : World) (h : Kp 213 Jd w F v xs) (hs : zL Jd xs ≤ 1048576) (k0 : 0 ≤ k) (k1 : k ≤ 939524096) :
  Calls Tryz.prog 153 #[v, .int .i64 k] w fun e w' => e = .returned (.int .i64 (k + (Jq Jd xs : Int))) ∧ Kp 213 Jd w' F v (Vo Jd xs k) ∧ Kb F w w' := by
 rw [← Us]
 have HS := zh hs
 have hlen := Jz hs
 rcases Xi h with ⟨rfl, rfl⟩ | ⟨g, cap, rfl, hFg, hgw⟩
 ·
  have H := zh h
  clear h hs
  go_enter Tryz.func153, Tryz.ntmps153
  go_wp2
  go_loop [1, 5] (fun m i => i = .int .i64 0 ∧ m = .int .i64 k) (fun _ _ => 0)
  case atStart => exact ⟨rfl, rfl⟩
  case round =>
   obtain ⟨rfl, rfl⟩ := hrel
   go_wp2
   go_ret
   exact ⟨by simp [Ei, sumN], by rw [show Vo Jd [] k = [] from rfl]; exact H.out, Kb.refl _ _⟩
 ·
  have H := zh h
  clear h hs
  go_enter Tryz.func153, Tryz.ntmps153
  go_wp2
  go_loopw [1, 5] (fun m i wr => ∃ j : Nat, j ≤ xs.length ∧ i = .int .i64 j ∧ m = .int .i64 (Ei Jd xs k j) ∧ Kp 213 Jd wr (fun b => F b ∧ b < w.heap.size) (.slice (some ⟨g, 0, none⟩) xs.length cap) (mTo Jd xs k j) ∧ Kb F w wr) (fun _ i _ => xs.length - (intOf i).toNat)
  case atStart => exact ⟨0, Ij _, rfl, by rw [Xr], by rw [mTo_zero]; exact Kn Jf H.out, Kb.refl _ _⟩
  case round =>
   obtain ⟨j, hj, rfl, rfl, hown, hon⟩ := hrel
   by_cases hlt : j < xs.length
   ·
    have i1 : (0 : Int) ≤ (j : Int) := by omega
    have i2 : (j : Int) < (xs.length : Int) := by omega
    have hjl : j < (mTo Jd xs k j).length := by rw [Ur hj]; exact hlt
    have HLL := zh (Ur (T := Jd) (k := k) hj)
    obtain ⟨r1, r2⟩ := Vb Jf (by decide) (k := k) HS.out hj
    obtain ⟨r3, r4⟩ := Vb Jf (by decide) (k := k) (j := j + 1) HS.out (by omega)
    have hzx := Vj HS.out hlt
    have hstep := Xs (T := Jd) (k := k) hlt
    have hset := mTo_step (T := Jd) (k := k) hlt
    have hsz := hon.size
    obtain ⟨hme, hFg2, hgl, cj, Fj, Lc, hrow, hLc, hO, hFj, hput⟩ := Eb Jf hown hjl
    clear hme hFg2
    rw [mTo_at hlt] at hO
    have HM : Hid (∃ m', Ei Jd xs k (j + 1) = m') := zh ⟨_, rfl⟩
    obtain ⟨m', hm'⟩ := HM.out
    rw [hm'] at hstep r3 r4
    have HM' := zh hm'
    clear hm' HM H hown hjl
    generalize Ei Jd xs k j = m at *
    generalize xs.getD j Jd.d = x at *
    rw [HLL.out] at hrow hput
    have hmm : m + (Jq Jh x : Int) = m' := hstep.symm
    have HMM := zh hmm
    have HSET := zh hset
    have S0 := zh hzx
    clear hmm hstep hset hzx
    obtain ⟨u, rfl, o0⟩ := hO
    have cv : wr.cell? ⟨g, j, none⟩ = some u := (World.ownsRow.cellAt hrow j (by show j < xs.length * 1; omega)).trans (by have := hLc 0 Nat.one_pos; rw [show Jd.n = 1 from rfl, Nat.mul_one, Nat.add_zero] at this; exact this)
    go_wp2_with fail
    clear cv
    refine (markVersionS_S u x _ m wr o0 S0.out (by omega) (by omega)).mono ?_
    rintro e w1 ⟨rfl, m0, t1⟩
    have rr := Ym hrow t1 (fun b hb h => by simp [Value.ownBlock] at hb; exact (hFj b h).2.1 hb.symm)
    have hst := hput w1 Lc [u] Fj _ rr (fun p hp => rfl) hLc ⟨u, rfl, m0⟩ (fun b hb => ⟨(hFj b hb).1, Or.inl hb⟩) (t1.mono (fun b h => Or.inr (Or.inl h)))
    have HE : Hid (Jd.md x m = Vo Jh x m) := zh rfl
    rw [← HE.out, HSET.out] at hst
    have HST := zh hst
    have hon2 := hon.trans (t1.mono (fun b h => (hFj b h).1.1))
    rw [HMM.out]
    clear hst hput rr m0 t1 hon hFj hLc o0 hrow
    go_wp2
    go_roundw
    case rel => exact ⟨j + 1, by omega, by go_num, by rw [HM'.out], HST.out, hon2⟩
    case measure => simp [intOf]; omega
   ·
    obtain rfl : j = xs.length := by omega
    rw [mTo_all] at hown
    go_wp2
    go_ret
    exact ⟨rfl, Ky hown (fun b h => h.1), hon⟩
set_option maxHeartbeats 8000000 in
theorem heldVersionSS_S (v : Value) (xs : List (List (Int × List Int × Int × Int))) (k : Int) (w : World) (h : Ko Jd w v (Vo Jd xs k)) (hs : zL Jd xs ≤ 1048576) (k0 : 0 ≤ k) (k1 : k ≤ 939524096) :
  Calls Tryz.prog 166 #[v, .int .i64 k] w fun e w' => e = .returned (.int .i64 (k + (Jq Jd xs : Int))) ∧ w = w' := by
 rw [← Us]
 have HS := zh hs
 have H := zh h
 have hlen := Jz hs
 obtain ⟨a, cap, rfl⟩ := Jl h
 rw [Vy] at H ⊢
 clear h hs
 go_enter Tryz.func166, Tryz.ntmps166
 go_wp2
 go_loop [1, 5] (fun m i => ∃ j : Nat, j ≤ xs.length ∧ i = .int .i64 j ∧ m = .int .i64 (Ei Jd xs k j)) (fun _ i => xs.length - (intOf i).toNat)
 case atStart => exact ⟨0, Ij _, rfl, by rw [Xr]⟩
 case round =>
  obtain ⟨j, hj, rfl, rfl⟩ := hrel
  by_cases hlt : j < xs.length
  ·
   have i1 : (0 : Int) ≤ (j : Int) := by omega
   have i2 : (j : Int) < (xs.length : Int) := by omega
   obtain ⟨r1, r2⟩ := Vb Jf (by decide) (k := k) HS.out hj
   obtain ⟨r3, r4⟩ := Vb Jf (by decide) (k := k) (j := j + 1) HS.out (by omega)
   have hzx := Vj HS.out hlt
   have hstep := Xs (T := Jd) (k := k) hlt
   obtain ⟨b, off, cap', cs, hv, hbl, hcs, hR⟩ := Ku H.out (k := j) (by rw [Vy]; exact hlt)
   rw [Vy] at hv
   simp only [Ik] at hv
   obtain ⟨rfl, _, rfl⟩ := hv
   rw [mAll_at hlt] at hR
   have HM : Hid (∃ m', Ei Jd xs k (j + 1) = m') := zh ⟨_, rfl⟩
   obtain ⟨m', hm'⟩ := HM.out
   rw [hm'] at hstep r3 r4
   have HM' := zh hm'
   clear hm' HM H
   generalize Ei Jd xs k j = m at *
   generalize xs.getD j Jd.d = x at *
   obtain ⟨u, rfl, h0⟩ := hR
   have p0 : w.cell? ⟨b, off + j, none⟩ = some u := by have := hcs 0 Nat.one_pos; rw [show Jd.n = 1 from rfl, Nat.mul_one, Nat.add_zero] at this; exact this
   have S0 := zh hzx
   have A0 := zh h0
   have hmm : m + (Jq Jh x : Int) = m' := hstep.symm
   have HMM := zh hmm
   have hnn : ¬ m' < 0 := by omega
   clear hmm hstep hcs h0 hzx
   go_wp2_with fail
   refine (heldVersionS_S u x m _ A0.out S0.out (by omega) (by omega)).mono ?_
   rintro e w2 ⟨rfl, rfl⟩
   rw [HMM.out]
   go_wp2
   go_round
   case rel => exact ⟨j + 1, by omega, by go_num, by rw [HM'.out]⟩
   case measure => simp [intOf]; omega
  ·
   obtain rfl : j = xs.length := by omega
   go_wp2
   go_ret
   exact ⟨rfl, rfl⟩
def Ks : Ty (List (List (Int × List Int × Int × Int)) × Int) := Yl tVersionSS Je
theorem Vu : Ks.Law := Km tVersionSS_law Jc
theorem tStore_sz {x0 : List (List (Int × List Int × Int × Int))} {a1 : Int} : Ks.sz (x0, a1) = zL Jd x0 := by
 simp only [Ks, Vt, Vx, Vw, Yk, Yt, Ys, Xo, Xw, Xv]
 try omega
theorem tStore_O {w : World} {F : Nat → Prop} {cs : List Value} {x0 : List (List (Int × List Int × Int × Int))} {a1 : Int} (h : Ks.O w F cs (x0, a1)) : ∃ v0, ∃ F0 : Nat → Prop, cs = [v0, .int .i64 a1] ∧ Kp 213 Jd w F0 v0 x0 ∧ (∀ b, F0 b → F b) := by
 obtain ⟨_, _, F0_1, F0_2, rfl, ⟨v0, rfl, h0⟩, rfl, s0_1, s0_2, d0⟩ := h
 exact ⟨v0, F0_1, rfl, h0, fun b h => (s0_1 b h)⟩
theorem tStore_mkO {w : World} {F : Nat → Prop} {x0 : List (List (Int × List Int × Int × Int))} {a1 : Int} {v0 : Value} {F0 : Nat → Prop} (h0 : Kp 213 Jd w F0 v0 x0) (s0 : ∀ b, F0 b → F b)  : Ks.O w F [v0, a1] (x0, a1) := ⟨[v0], [a1], F0, fun _ => False, rfl, ⟨_, rfl, h0⟩, rfl, (fun b h => s0 b h), (fun b h => (False.elim h)), (fun b h g => (False.elim g))⟩
set_option maxHeartbeats 8000000 in
theorem markStore_T (a1 : Int) (v0 : Value) (x0 : List (List (Int × List Int × Int × Int))) (F F0 : Nat → Prop) (k : Int) (w : World) (h0 : Kp 213 Jd w F0 v0 x0) (q0 : ∀ b, F0 b → F b)  (s0 : zL Jd x0 ≤ 1048576) (k0 : 0 ≤ k) (k1 : k ≤ 536870912) :
  Calls Tryz.prog 83 #[.agg #[v0, a1], .int .i64 k] w fun e w' => e = .returned (.int .i64 (k + (Jq Jd x0 : Int))) ∧ (Kp 213 Jd w' F0 v0 (Vo Jd x0 (k))) ∧ Kb F w w' := by
 have S0 := zh s0
 have N0 := Vd Jf (by decide) x0
 have R0 : Hid (0 ≤ k ∧ k ≤ 939524096) := zh (by omega)
 have RE : Hid (0 ≤ k + (Jq Jd x0 : Int)) := zh (by omega)
 clear N0
 have O0 := zh (Kn Jf h0)
 clear h0 s0
 go_enter Tryz.func83, Tryz.ntmps83
 go_wp2_with fail
 have hb : Below w w (w.alloc (.cells #[v0, a1] 35)) := (Il _ w).alloc (Ii _) _
 have g0 : (w.alloc (.cells #[v0, a1] 35)).heap[w.heap.size]? = some (.cells #[v0, a1] 35 (0, 0)) := Ic w _
 have hz : w.heap.size < (w.alloc (.cells #[v0, a1] 35)).heap.size := by simp [Ie]
 have ht : Kb F w (w.alloc (.cells #[v0, a1] 35)) := Yo hb
 replace O0 := zf Jf O0 hb
 generalize (w.alloc (.cells #[v0, a1] 35)) = W at *
 refine (markVersionSS_S v0 x0 _ (k) W O0.out S0.out R0.out.1 (by have := R0.out.2; omega)).mono ?_
 rintro e w1 ⟨rfl, m0, t1⟩
 replace g0 := (t1.block _ hz (fun h => absurd h.2 (Nat.lt_irrefl _))).trans g0
 have zz0 := t1.size
 replace hz := Nat.lt_of_lt_of_le hz t1.size
 replace ht := ht.trans (t1.mono (fun b h => q0 b h.1))
 replace O0 := zh m0
 clear m0 t1
 go_wp2
 go_ret
 exact ⟨rfl, Ky O0.out (fun b h => h.1), ht⟩
set_option maxHeartbeats 8000000 in
theorem heldStore_T (a1 : Int) (v0 : Value) (x0 : List (List (Int × List Int × Int × Int))) (k : Int) (w : World) (h0 : Ko Jd w v0 (Vo Jd x0 (k))) (s0 : zL Jd x0 ≤ 1048576) (k0 : 0 ≤ k) (k1 : k ≤ 536870912) :
  Calls Tryz.prog 100 #[.agg #[v0, a1], .int .i64 k] w fun e w' => e = .returned (.int .i64 (k + (Jq Jd x0 : Int))) ∧ Below w w w' := by
 have S0 := zh s0
 have N0 := Vd Jf (by decide) x0
 have R0 : Hid (0 ≤ k ∧ k ≤ 939524096) := zh (by omega)
 have RE : Hid (0 ≤ k + (Jq Jd x0 : Int)) := zh (by omega)
 have ng0 : ¬ k + (Jq Jd x0 : Int) < 0 := by omega
 clear N0
 have H0 := zh h0
 clear h0 s0
 go_enter Tryz.func100, Tryz.ntmps100
 go_wp2_with fail
 have hb : Below w w (w.alloc (.cells #[v0, a1] 35)) := (Il _ w).alloc (Ii _) _
 have g0 : (w.alloc (.cells #[v0, a1] 35)).heap[w.heap.size]? = some (.cells #[v0, a1] 35 (0, 0)) := Ic w _
 have hz : w.heap.size < (w.alloc (.cells #[v0, a1] 35)).heap.size := by simp [Ie]
 generalize (w.alloc (.cells #[v0, a1] 35)) = W at *
 refine (heldVersionSS_S v0 x0 (k) W (Jb Jf H0.out hb) S0.out R0.out.1 (by have := R0.out.2; omega)).mono ?_
 rintro e _ ⟨rfl, rfl⟩
 go_wp2
 go_ret
 exact ⟨rfl, hb⟩
/-- The slice v owns the numbers xs, in a block of the type e. -/
def OwnsE (ety : TypeId) (w : World) (B : Nat) (v : Value) (xs : List Int) : Prop := w.ownsRow B ety 1 v xs.length (xs.map (Value.int .i64))
def MarkedE (ety : TypeId) (w : World) (B : Nat) (v : Value) (n : Nat) (k : Int) (e : Ending) (w' : World) : Prop := e = .returned (.int .i64 (k + (n : Int))) ∧ OwnsE ety w' B v (marks k n) ∧ w.grownBy w' v.ownBlock
theorem ownsE_len {ety : TypeId} {w : World} {B : Nat} {a : Option Addr} {n cap : Nat} {xs : List Int} (h : OwnsE ety w B (.slice a n cap) xs) : n = xs.length := by
 rcases h.2 with ⟨h', h0⟩ | ⟨_, _, _, h', _⟩
 ·
  simp only [Ik] at h'; omega
 ·
  simp only [Ik] at h'; exact h'.2.1
theorem ownsE_form {ety : TypeId} {w : World} {B : Nat} {v : Value} {xs : List Int} (h : OwnsE ety w B v xs) : (v = .slice none 0 0 ∧ xs = []) ∨ ∃ g cap, v = .slice (some ⟨g, 0, none⟩) xs.length cap ∧ B ≤ g ∧ g < w.heap.size := by
 rcases h.2 with ⟨rfl, h0⟩ | ⟨g, cap, cur, rfl, hb, hg, _⟩
 ·
  exact .inl ⟨rfl, List.eq_nil_of_length_eq_zero h0⟩
 ·
  exact .inr ⟨g, cap, rfl, hb, (Array.getElem?_eq_some_iff.1 hg).1⟩
theorem ownsE_cell {ety : TypeId} {w : World} {B g n cap j : Nat} {xs : List Int} {x : Int} (h : OwnsE ety w B (.slice (some ⟨g, 0, none⟩) n cap) xs) (hx : xs[j]? = some x) : w.cell? ⟨g, j, none⟩ = some (.int .i64 x) := by
 have := World.ownsRow.cells h (g := g) rfl j (.int .i64 x) (by simp [hx])
 have e : (⟨g, 0, none⟩ : Addr).add j = ⟨g, j, none⟩ := by unfold Addr.add; split <;> simp_all
 rwa [e] at this
theorem ownsE_frozen {ety : TypeId} {w : World} {B g n cap : Nat} {xs : List Int} (h : OwnsE ety w B (.slice (some ⟨g, 0, none⟩) n cap) xs) (j : Nat) : w.frozen? ⟨g, j, none⟩ = false := by
 obtain rfl := ownsE_len h
 exact World.ownsRow.frozenAt h j
theorem ownsE_store {ety : TypeId} {w : World} {B g n cap : Nat} {xs : List Int} (h : OwnsE ety w B (.slice (some ⟨g, 0, none⟩) n cap) xs) (j : Nat) (x : Int) : OwnsE ety (w.setCell ⟨g, j, none⟩ (.int .i64 x)) B (.slice (some ⟨g, 0, none⟩) n cap) (xs.set j x) := by
 obtain rfl := ownsE_len h
 have := (World.ownsRow.stored h j (.int .i64 x)).1
 unfold OwnsE
 rw [List.length_set, List.map_set]
 exact this
theorem markIntE_any {ety : TypeId} (v : Value) (xs : List Int) (B : Nat) (k : Int) (w : World) (h : OwnsE ety w B v xs) (hn : xs.length ≤ 1048576) (k0 : 0 ≤ k) (k1 : k ≤ 1073741824) :
  Calls Tryz.prog 84 #[v, .int .i64 k] w (MarkedE ety w B v xs.length k) := by
 have H := zh h
 rcases ownsE_form h with ⟨rfl, rfl⟩ | ⟨g, cap, rfl, hBg, hgl⟩
 ·
  clear h
  go_enter Tryz.func84, Tryz.ntmps84
  go_wp2
  go_loop [1, 5] (fun m i => i = .int .i64 0 ∧ m = .int .i64 k) (fun _ _ => 0)
  case atStart => exact ⟨rfl, rfl⟩
  case round =>
   obtain ⟨rfl, rfl⟩ := hrel
   go_wp2
   go_ret
   exact ⟨by simp, by rw [show marks k 0 = [] from rfl]; exact H.out, World.grownBy.refl _ _⟩
 ·
  clear h
  go_enter Tryz.func84, Tryz.ntmps84
  go_wp2
  go_loopw [1, 5] (fun m i wr => ∃ j : Nat, j ≤ xs.length ∧ i = .int .i64 j ∧ m = .int .i64 (k + (j : Int)) ∧ OwnsE ety wr B (.slice (some ⟨g, 0, none⟩) xs.length cap) (Ue xs k j) ∧ w.grownBy wr (some g)) (fun _ i _ => xs.length - (intOf i).toNat)
  case atStart => exact ⟨0, Ij _, rfl, by simp, by rw [show Ue xs k 0 = xs by simp [Ue, marks]]; exact H.out, World.grownBy.refl _ _⟩
  case round =>
   obtain ⟨j, hj, rfl, rfl, hown, hgr⟩ := hrel
   by_cases hlt : j < xs.length
   ·
    have i1 : (0 : Int) ≤ (j : Int) := by omega
    have i2 : (j : Int) < (xs.length : Int) := by omega
    have c1 := ownsE_cell hown (markedTo_at xs k j hlt)
    have f1 := ownsE_frozen hown j
    have hst := ownsE_store hown j (k + (j : Int))
    rw [markedTo_step xs k j hlt] at hst
    have hg2 := grown_more hgr (grownBy_store wr g j (.int .i64 (k + (j : Int))))
    have HST := zh hst
    clear hst hown hgr
    go_wp2
    go_roundw
    case rel => exact ⟨j + 1, by omega, by go_num, by simp; omega, HST.out, hg2⟩
    case measure => simp [intOf]; omega
   ·
    obtain rfl : j = xs.length := by omega
    rw [markedTo_all] at hown
    go_wp2
    go_ret
    exact ⟨rfl, hown, hgr⟩
theorem slE_own {ety : TypeId} {w : World} {F : Nat → Prop} {v : Value} {xs : List Int} (h : Kp ety Je w F v xs) : OwnsE ety w 0 v xs ∧ ∀ b, v.ownBlock = some b → F b := by
 obtain ⟨L, us, Fs, h1, h2, h3, h4⟩ := h
 refine ⟨?_, h2⟩
 have e : L = xs.map (Value.int .i64) := by
  apply List.ext_getElem?
  intro i
  by_cases hi : i < xs.length
  ·
   obtain ⟨g1, g2, _⟩ := h3 i hi
   have g3 := g1 0 (by decide)
   have g4 : us i = [.int .i64 (xs.getD i 0)] := g2
   have e : i * Je.n + 0 = i := by show i * 1 + 0 = _; omega
   rw [e, g4] at g3
   rw [g3]
   simp [List.getD, hi]
  ·
   have hl : L.length = xs.length * 1 := h1.1
   rw [List.getElem?_eq_none (by omega), List.getElem?_eq_none (by simp; omega)]
 rw [e] at h1
 exact h1
theorem own_slE {ety : TypeId} {w : World} {F : Nat → Prop} {v : Value} {xs : List Int} {B : Nat} (h : OwnsE ety w B v xs) (hF : ∀ b, v.ownBlock = some b → F b) : Kp ety Je w F v xs := by
 refine ⟨_, fun j => [.int .i64 (xs.getD j 0)], fun _ _ => False, row_low h (Ij _), hF, fun j hj => ⟨fun i hi => ?_, rfl, fun b hb => False.elim hb⟩, fun i j _ _ _ b hb => False.elim hb⟩
 have hi0 : i < 1 := hi
 obtain rfl : i = 0 := by omega
 have e : j * Je.n + 0 = j := by show j * 1 + 0 = _; omega
 rw [e]
 simp [List.getD, hj]
theorem markIntES_S {ety : TypeId} (v : Value) (xs : List Int) (F : Nat → Prop) (k : Int) (w : World) (h : Kp ety Je w F v xs) (hs : zL Je xs ≤ 1048576) (k0 : 0 ≤ k) (k1 : k ≤ 1073741824) :
  Calls Tryz.prog 84 #[v, .int .i64 k] w fun e w' => e = .returned (.int .i64 (k + (Jq Je xs : Int))) ∧ Kp ety Je w' F v (Vo Je xs k) ∧ Kb F w w' := by
 rw [zL_ints] at hs
 obtain ⟨h1, h2⟩ := slE_own h
 refine (markIntE_any v xs 0 k w h1 hs k0 k1).mono ?_
 rintro e w' ⟨rfl, o, g⟩
 rw [ndL_ints, mAll_ints]
 exact ⟨rfl, own_slE o h2, turn_grown g h2⟩
def tIntES : Ty (List Int) where
 n := 1
 d := []
 R := fun w cs xs => ∃ v, cs = [v] ∧ Ko Je w v xs
 O := fun w F cs xs => ∃ (v : Value) (e : TypeId), cs = [v] ∧ Kp e Je w F v xs
 sz := zL Je
 nd := Jq Je
 nv := Jq Je
 md := Vo Je
 mv := Vo Je
 ok := fun xs => (xs.length : Int) ≤ 9223372036854775807 ∧ ∀ j, j < xs.length → Je.ok (xs.getD j Je.d)
 s := 0
theorem tIntES_md (xs : List Int) (k : Int) : tIntES.md xs k = Vo Je xs k := rfl
theorem tIntES_mv (xs : List Int) (k : Int) : tIntES.mv xs k = Vo Je xs k := rfl
theorem tIntES_sz (xs : List Int) : tIntES.sz xs = zL Je xs := rfl
theorem tIntES_nd (xs : List Int) : tIntES.nd xs = Jq Je xs := rfl
theorem tIntES_nv (xs : List Int) : tIntES.nv xs = Jq Je xs := rfl
theorem tIntES_law : tIntES.Law where
 pos := Nat.one_pos
 len := fun {w cs x} h => by obtain ⟨v, rfl, _⟩ := h; rfl
 below := fun {W w cs x} h hb => by obtain ⟨v, e, h⟩ := h; exact ⟨v, e, Jb Jc h hb⟩
 reads := fun {w F cs x} h => by obtain ⟨v, _, e, h⟩ := h; exact ⟨v, e, Up Jc h⟩
 turn := fun {w w' F G cs x} h k hd => by obtain ⟨v, t, e, h⟩ := h; exact ⟨v, t, e, Ka Jc h k hd⟩
 mono := fun {w F F' cs x} h hf => by obtain ⟨v, t, e, h⟩ := h; exact ⟨v, t, e, Ky h hf⟩
 lt := fun {w F cs x} h => by obtain ⟨v, t, e, h⟩ := h; exact ⟨v, t, e, Kn Jc h⟩
 nd_le := fun x => Vd Jc (by decide) x
 nv_le := fun x => Vd Jc (by decide) x
def Jk : Ty (Int × Int × Int) := Yl Je (Yl Je Je)
theorem Jt : Jk.Law := Km Jc (Km Jc Jc)
theorem tCond_R {w : World} {cs : List Value} {a0 : Int} {a1 : Int} {a2 : Int} (h : Jk.R w cs (a0, a1, a2)) : cs = [.int .i64 a0, .int .i64 a1, .int .i64 a2] := by
 obtain ⟨_, _, rfl, rfl, ⟨_, _, rfl, rfl, rfl⟩⟩ := h
 rfl
theorem tCond_nd {a0 : Int} {a1 : Int} {a2 : Int} : Jk.nd (a0, a1, a2) = 3 := by
 simp only [Jk, Vt, Vx, Vw, Yk, Yt, Ys, Xo, Xw, Xv]
 try omega
theorem tCond_md {a0 : Int} {a1 : Int} {a2 : Int} {k : Int} : Jk.md (a0, a1, a2) k = ((k), (k + 1), (k + 1 + 1)) := by
 simp only [Jk, tPair_md, tPair_mv, Vx, Vw, tInt_md, tInt_mv, Yt, Ys, tSl_md, tSl_mv, Xw, Xv, Int.natCast_add, Int.natCast_zero, Int.natCast_one, Int.add_zero, Int.zero_add, Int.add_assoc]
theorem tCond_O {w : World} {F : Nat → Prop} {cs : List Value} {a0 : Int} {a1 : Int} {a2 : Int} (h : Jk.O w F cs (a0, a1, a2)) : cs = [.int .i64 a0, .int .i64 a1, .int .i64 a2] := by
 obtain ⟨_, _, F0_1, F0_2, rfl, rfl, ⟨_, _, F1_1, F1_2, rfl, rfl, rfl, s1_1, s1_2, d1⟩, s0_1, s0_2, d0⟩ := h
 rfl
theorem tCond_mkO {w : World} {F : Nat → Prop} {a0 : Int} {a1 : Int} {a2 : Int}    : Jk.O w F [a0, a1, a2] (a0, a1, a2) := ⟨[a0], [a1, a2], fun _ => False, fun _ => False, rfl, rfl, ⟨[a1], [a2], fun _ => False, fun _ => False, rfl, rfl, rfl, (fun b h => (False.elim h)), (fun b h => (False.elim h)), (fun b h g => (False.elim h))⟩, (fun b h => (False.elim h)), (fun b h => (False.elim h)), (fun b h g => (False.elim h))⟩
set_option maxHeartbeats 8000000 in
theorem toCond_T (a0 a1 a2 : Int) (w : World)   :
  Calls Tryz.prog 141 #[.agg #[a0, a1, a2]] w (Yy Jk (fun cs => .agg cs.toArray) w (a0, a1, a2)) := by
 go_enter Tryz.func141, Tryz.ntmps141
 go_wp2
 exact bodyPost_ret (v := .agg #[a0, a1, a2]) (by simp [results, Tryz.f141, go_sem]) rfl ⟨[a0, a1, a2], rfl, tCond_mkO, (((Il _ w).alloc (Ii _) _).alloc (by simp) _).alloc (by simp; omega) _⟩
set_option maxHeartbeats 8000000 in
theorem eqCond_T (a0 a1 a2 : Int) (w : World) :
  Calls Tryz.prog 147 #[.agg #[a0, a1, a2], .agg #[a0, a1, a2]] w fun e w' => e = .returned (.bool true) ∧ Below w w w' := by
 have e0 : (a0 != a0) = false := by simp
 have e1 : (a1 != a1) = false := by simp
 have e2 : (a2 != a2) = false := by simp
 go_enter Tryz.func147, Tryz.ntmps147
 go_wp2
 go_ret
 exact ⟨rfl, ((Il _ w).alloc (Ii _) _).alloc (by simp) _⟩
abbrev tCondS : Ty (List (Int × Int × Int)) := tSl 177 Jk
theorem tCondS_law : tCondS.Law := tSl_law Jt (by decide)
set_option maxHeartbeats 8000000 in
theorem szCondS_Y (v : Value) (xs : List (Int × Int × Int)) (k0 : Int) (w : World) (h : Ko Jk w v xs) (hs : ((zL Jk xs : Nat) : Int) ≤ k0) (hk : k0 ≤ 1048576) :
  Calls Tryz.prog 73 #[v, .int .i64 k0] w fun e w' => e = .returned (.int .i64 (k0 - ((zL Jk xs : Nat) : Int))) ∧ Below w w w' := by
 have hz : zL Jk xs = xs.length := zL_flat (fun _ => rfl) xs
 rw [hz] at hs ⊢
 obtain ⟨a, cap, rfl⟩ := Jl h
 clear h hz
 have h0 : ¬ k0 - (xs.length : Int) < 0 := by omega
 go_enter Tryz.func73, Tryz.ntmps73
 go_wp2
 go_ret
 exact ⟨rfl, Il _ _⟩
set_option maxHeartbeats 8000000 in
theorem szCondS_N (v : Value) (xs : List (Int × Int × Int)) (k0 : Int) (w : World) (h : Ko Jk w v xs) (hs : k0 < ((zL Jk xs : Nat) : Int)) (hk : k0 ≤ 1048576) (hp : 0 ≤ k0) (ho : tCondS.ok xs) :
  Calls Tryz.prog 73 #[v, .int .i64 k0] w fun e w' => e = .returned (.int .i64 (-1)) ∧ Below w w w' := by
 have hz : zL Jk xs = xs.length := zL_flat (fun _ => rfl) xs
 rw [hz] at hs
 obtain ⟨a, cap, rfl⟩ := Jl h
 have hn := ho.1
 clear h hz ho
 have h0 : k0 - (xs.length : Int) < 0 := by omega
 go_enter Tryz.func73, Tryz.ntmps73
 go_wp2
 go_ret
 exact ⟨rfl, Il _ _⟩
theorem tCond_zero (w : World) : Jk.O w (fun _ => False) #[.int .i64 0, .int .i64 0, .int .i64 0].toList Jk.d := tCond_mkO   
set_option maxHeartbeats 8000000 in
theorem markCondS_S (v : Value) (xs : List (Int × Int × Int)) (F : Nat → Prop) (k : Int) (w : World) (h : Kp 177 Jk w F v xs) (hs : zL Jk xs ≤ 1048576) (k0 : 0 ≤ k) (k1 : k ≤ 1006632960) :
  Calls Tryz.prog 99 #[v, .int .i64 k] w fun e w' => e = .returned (.int .i64 (k + (Jq Jk xs : Int))) ∧ Kp 177 Jk w' F v (Vo Jk xs k) ∧ Kb F w w' := by
 rw [← Us]
 have HS := zh hs
 have hlen := Jz hs
 rcases Xi h with ⟨rfl, rfl⟩ | ⟨g, cap, rfl, hFg, hgw⟩
 ·
  have H := zh h
  clear h hs
  go_enter Tryz.func99, Tryz.ntmps99
  go_wp2
  go_loop [1, 5] (fun m i => i = .int .i64 0 ∧ m = .int .i64 k) (fun _ _ => 0)
  case atStart => exact ⟨rfl, rfl⟩
  case round =>
   obtain ⟨rfl, rfl⟩ := hrel
   go_wp2
   go_ret
   exact ⟨by simp [Ei, sumN], by rw [show Vo Jk [] k = [] from rfl]; exact H.out, Kb.refl _ _⟩
 ·
  have H := zh h
  clear h hs
  go_enter Tryz.func99, Tryz.ntmps99
  go_wp2
  go_loopw [1, 5] (fun m i wr => ∃ j : Nat, j ≤ xs.length ∧ i = .int .i64 j ∧ m = .int .i64 (Ei Jk xs k j) ∧ Kp 177 Jk wr (fun b => F b ∧ b < w.heap.size) (.slice (some ⟨g, 0, none⟩) xs.length cap) (mTo Jk xs k j) ∧ Kb F w wr) (fun _ i _ => xs.length - (intOf i).toNat)
  case atStart => exact ⟨0, Ij _, rfl, by rw [Xr], by rw [mTo_zero]; exact Kn Jt H.out, Kb.refl _ _⟩
  case round =>
   obtain ⟨j, hj, rfl, rfl, hown, hon⟩ := hrel
   by_cases hlt : j < xs.length
   ·
    have i1 : (0 : Int) ≤ (j : Int) := by omega
    have i2 : (j : Int) < (xs.length : Int) := by omega
    have hjl : j < (mTo Jk xs k j).length := by rw [Ur hj]; exact hlt
    have HLL := zh (Ur (T := Jk) (k := k) hj)
    obtain ⟨r1, r2⟩ := Vb Jt (by decide) (k := k) HS.out hj
    obtain ⟨r3, r4⟩ := Vb Jt (by decide) (k := k) (j := j + 1) HS.out (by omega)
    have hzx := Vj HS.out hlt
    have hstep := Xs (T := Jk) (k := k) hlt
    have hset := mTo_step (T := Jk) (k := k) hlt
    have hsz := hon.size
    obtain ⟨hme, hFg2, hgl, cj, Fj, Lc, hrow, hLc, hO, hFj, hput⟩ := Eb Jt hown hjl
    clear hme hFg2
    rw [mTo_at hlt] at hO
    have HM : Hid (∃ m', Ei Jk xs k (j + 1) = m') := zh ⟨_, rfl⟩
    obtain ⟨m', hm'⟩ := HM.out
    rw [hm'] at hstep r3 r4
    have HM' := zh hm'
    clear hm' HM H hown hjl
    generalize Ei Jk xs k j = m at *
    generalize xs.getD j Jk.d = x at *
    rw [HLL.out] at hrow hput
    obtain ⟨a0, a1, a2⟩ := x
    rw [tCond_md] at hset
    rw [tCond_nd] at hstep
    obtain rfl := tCond_O hO
    have hmm : m + 1 + 1 + 1 = m' := by omega
    have HMM := zh hmm
    have hm0 : 0 ≤ m := by omega
    have hm1 : m ≤ 1073741824 := by omega
    clear hmm hstep hzx 
    have hLl : Lc.length = xs.length * 3 := hrow.1
    have HSET := zh hset
    clear hset
    have tt : Kb (fun b => b = g ∨ Fj b ∨ wr.heap.size ≤ b) wr wr := Kb.refl _ _
    have rr := hrow
    have c0 : ∃ x, wr.cell? ⟨g, j * 3, none⟩ = some x := ⟨_, (World.ownsRow.cellAt rr (j * 3) (by show j * 3 < xs.length * 3; omega)).trans (Ih (by have h9 := rr.1; have h8 : xs.length * Jk.n = xs.length * 3 := rfl; omega))⟩
    obtain ⟨y0, c0⟩ := c0
    have f0 := World.ownsRow.frozenAt rr (j * 3)
    have c1 : ∃ x, wr.cell? ⟨g, j * 3 + 1, none⟩ = some x := ⟨_, (World.ownsRow.cellAt rr (j * 3 + 1) (by show j * 3 + 1 < xs.length * 3; omega)).trans (Ih (by have h9 := rr.1; have h8 : xs.length * Jk.n = xs.length * 3 := rfl; omega))⟩
    obtain ⟨y1, c1⟩ := c1
    have f1 := World.ownsRow.frozenAt rr (j * 3 + 1)
    have c2 : ∃ x, wr.cell? ⟨g, j * 3 + 2, none⟩ = some x := ⟨_, (World.ownsRow.cellAt rr (j * 3 + 2) (by show j * 3 + 2 < xs.length * 3; omega)).trans (Ih (by have h9 := rr.1; have h8 : xs.length * Jk.n = xs.length * 3 := rfl; omega))⟩
    obtain ⟨y2, c2⟩ := c2
    have f2 := World.ownsRow.frozenAt rr (j * 3 + 2)
    go_wp2
    clear c0 f0 c1 f1 c2 f2
    have ts : Kb (fun b => b = g) wr (((wr.setCell ⟨g, j * 3, none⟩ (.int .i64 (m))).setCell ⟨g, j * 3 + 1, none⟩ (.int .i64 (m + 1))).setCell ⟨g, j * 3 + 2, none⟩ (.int .i64 (m + 1 + 1))) := ((((Kb.refl (fun b => b = g) _).trans (Jm (G := fun b => b = g) (g := g) (j := j * 3) (u := .int .i64 (m)) rfl)).trans (Jm (G := fun b => b = g) (g := g) (j := j * 3 + 1) (u := .int .i64 (m + 1)) rfl)).trans (Jm (G := fun b => b = g) (g := g) (j := j * 3 + 2) (u := .int .i64 (m + 1 + 1)) rfl))
    replace rr := (World.ownsRow.stored (World.ownsRow.stored (World.ownsRow.stored rr (j * 3) (.int .i64 (m))).1 (j * 3 + 1) (.int .i64 (m + 1))).1 (j * 3 + 2) (.int .i64 (m + 1 + 1))).1
    replace tt := tt.trans (ts.mono (fun b h => Or.inl h))
    clear ts
    have hO2 : Jk.O (((wr.setCell ⟨g, j * 3, none⟩ (.int .i64 (m))).setCell ⟨g, j * 3 + 1, none⟩ (.int .i64 (m + 1))).setCell ⟨g, j * 3 + 2, none⟩ (.int .i64 (m + 1 + 1))) Fj [.int .i64 (m), .int .i64 (m + 1), .int .i64 (m + 1 + 1)] ((m), (m + 1), (m + 1 + 1)) := tCond_mkO
    have hst := hput (((wr.setCell ⟨g, j * 3, none⟩ (.int .i64 (m))).setCell ⟨g, j * 3 + 1, none⟩ (.int .i64 (m + 1))).setCell ⟨g, j * 3 + 2, none⟩ (.int .i64 (m + 1 + 1))) (((Lc.set (j * 3) (.int .i64 (m))).set (j * 3 + 1) (.int .i64 (m + 1))).set (j * 3 + 2) (.int .i64 (m + 1 + 1))) [.int .i64 (m), .int .i64 (m + 1), .int .i64 (m + 1 + 1)] Fj _ rr (fun p hp => by have hp2 : p < j * 3 ∨ j * 3 + 3 ≤ p := hp; rw [Ig (by omega)]; rw [Ig (by omega)]; rw [Ig (by omega)]) (fun i hi => by have hi' : i < 3 := hi; match i, hi' with | 0, _ => (show ((((Lc.set (j * 3) (.int .i64 (m))).set (j * 3 + 1) (.int .i64 (m + 1))).set (j * 3 + 2) (.int .i64 (m + 1 + 1))))[j * 3]? = _; rw [Ig (by omega)]; rw [Ig (by omega)]; rw [List.getElem?_set_self (by first | omega | (simp only [List.length_set]; omega))]; rfl) | 1, _ => (show ((((Lc.set (j * 3) (.int .i64 (m))).set (j * 3 + 1) (.int .i64 (m + 1))).set (j * 3 + 2) (.int .i64 (m + 1 + 1))))[j * 3 + 1]? = _; rw [Ig (by omega)]; rw [List.getElem?_set_self (by first | omega | (simp only [List.length_set]; omega))]; rfl) | 2, _ => (show ((((Lc.set (j * 3) (.int .i64 (m))).set (j * 3 + 1) (.int .i64 (m + 1))).set (j * 3 + 2) (.int .i64 (m + 1 + 1))))[j * 3 + 2]? = _; rw [List.getElem?_set_self (by first | omega | (simp only [List.length_set]; omega))]; rfl)) hO2 (fun b hb => ⟨(hFj b hb).1, Or.inl hb⟩) tt
    rw [HSET.out] at hst
    have HST := zh hst
    have hon2 := hon.trans (Kb.mono (G := fun b => F b ∧ b < w.heap.size) (G' := F) ⟨tt.os, tt.tape, tt.output, tt.size, fun b hb hn => tt.block b hb (fun h => hn (h.elim (fun h => by rw [h]; exact ⟨hFg, hgw⟩) (fun h => h.elim (fun h => (hFj b h).1) (fun h => absurd hb (Nat.not_lt.2 h)))))⟩ (fun b h => h.1))
    clear hst hput tt rr hO2 hon hFj hLc hLl
    go_roundw
    case rel => exact ⟨j + 1, by omega, by go_num, by rw [HMM.out]; rw [HM'.out], HST.out, hon2⟩
    case measure => simp [intOf]; omega
   ·
    obtain rfl : j = xs.length := by omega
    rw [mTo_all] at hown
    go_wp2
    go_ret
    exact ⟨rfl, Ky hown (fun b h => h.1), hon⟩
set_option maxHeartbeats 8000000 in
theorem heldCondS_S (v : Value) (xs : List (Int × Int × Int)) (k : Int) (w : World) (h : Ko Jk w v (Vo Jk xs k)) (hs : zL Jk xs ≤ 1048576) (k0 : 0 ≤ k) (k1 : k ≤ 1006632960) :
  Calls Tryz.prog 154 #[v, .int .i64 k] w fun e w' => e = .returned (.int .i64 (k + (Jq Jk xs : Int))) ∧ w = w' := by
 rw [← Us]
 have HS := zh hs
 have H := zh h
 have hlen := Jz hs
 obtain ⟨a, cap, rfl⟩ := Jl h
 rw [Vy] at H ⊢
 clear h hs
 go_enter Tryz.func154, Tryz.ntmps154
 go_wp2
 go_loop [1, 5] (fun m i => ∃ j : Nat, j ≤ xs.length ∧ i = .int .i64 j ∧ m = .int .i64 (Ei Jk xs k j)) (fun _ i => xs.length - (intOf i).toNat)
 case atStart => exact ⟨0, Ij _, rfl, by rw [Xr]⟩
 case round =>
  obtain ⟨j, hj, rfl, rfl⟩ := hrel
  by_cases hlt : j < xs.length
  ·
   have i1 : (0 : Int) ≤ (j : Int) := by omega
   have i2 : (j : Int) < (xs.length : Int) := by omega
   obtain ⟨r1, r2⟩ := Vb Jt (by decide) (k := k) HS.out hj
   obtain ⟨r3, r4⟩ := Vb Jt (by decide) (k := k) (j := j + 1) HS.out (by omega)
   have hzx := Vj HS.out hlt
   have hstep := Xs (T := Jk) (k := k) hlt
   obtain ⟨b, off, cap', cs, hv, hbl, hcs, hR⟩ := Ku H.out (k := j) (by rw [Vy]; exact hlt)
   rw [Vy] at hv
   simp only [Ik] at hv
   obtain ⟨rfl, _, rfl⟩ := hv
   rw [mAll_at hlt] at hR
   have HM : Hid (∃ m', Ei Jk xs k (j + 1) = m') := zh ⟨_, rfl⟩
   obtain ⟨m', hm'⟩ := HM.out
   rw [hm'] at hstep r3 r4
   have HM' := zh hm'
   clear hm' HM H
   generalize Ei Jk xs k j = m at *
   generalize xs.getD j Jk.d = x at *
   obtain ⟨a0, a1, a2⟩ := x
   rw [tCond_md] at hR
   obtain rfl := tCond_R hR
   rw [tCond_nd] at hstep
   have p0 : w.cell? ⟨b, off + j * 3, none⟩ = some (Value.int .i64 (m)) := hcs 0 (by decide)
   have p1 : w.cell? ⟨b, off + j * 3 + 1, none⟩ = some (Value.int .i64 (m + 1)) := hcs 1 (by decide)
   have p2 : w.cell? ⟨b, off + j * 3 + 2, none⟩ = some (Value.int .i64 (m + 1 + 1)) := hcs 2 (by decide)
   have eq0 : ((m : Int) != m) = false := by simp
   have eq1 : ((m + 1 : Int) != m + 1) = false := by simp
   have eq2 : ((m + 1 + 1 : Int) != m + 1 + 1) = false := by simp
   have hmm : m + 1 + 1 + 1 = m' := by omega
   have HMM := zh hmm
   have hm0 : 0 ≤ m := by omega
   have hm1 : m ≤ 1073741824 := by omega
   clear hmm hstep hcs hzx 
   go_wp2
   go_round
   case rel => exact ⟨j + 1, by omega, by go_num, by rw [HMM.out]; rw [HM'.out]⟩
   case measure => simp [intOf]; omega
  ·
   obtain rfl : j = xs.length := by omega
   go_wp2
   go_ret
   exact ⟨rfl, rfl⟩
def Kq : Ty (Int × Int × List (Int × Int × Int) × List Int) := Yl Je (Yl Je (Yl tCondS tIntS))
theorem Kt : Kq.Law := Km Jc (Km Jc (Km tCondS_law Vm))
theorem tQuery_O {w : World} {F : Nat → Prop} {cs : List Value} {a0 : Int} {a1 : Int} {x2 : List (Int × Int × Int)} {x3 : List Int} (h : Kq.O w F cs (a0, a1, x2, x3)) : ∃ v2 v3, ∃ F2 F3 : Nat → Prop, cs = [.int .i64 a0, .int .i64 a1, v2, v3] ∧ Kp 177 Jk w F2 v2 x2 ∧ Kp 3 Je w F3 v3 x3 ∧ (∀ b, F2 b → F b) ∧ (∀ b, F3 b → F b) ∧ (∀ b, F2 b → ¬ F3 b) := by
 obtain ⟨_, _, F0_1, F0_2, rfl, rfl, ⟨_, _, F1_1, F1_2, rfl, rfl, ⟨_, _, F2_1, F2_2, rfl, ⟨v2, rfl, h2⟩, ⟨v3, rfl, h3⟩, s2_1, s2_2, d2⟩, s1_1, s1_2, d1⟩, s0_1, s0_2, d0⟩ := h
 exact ⟨v2, v3, F2_1, F2_2, rfl, h2, h3, fun b h => (s0_2 b (s1_2 b (s2_1 b h))), fun b h => (s0_2 b (s1_2 b (s2_2 b h))), fun b h h2 => d2 b h h2⟩
theorem tQuery_mkO {w : World} {F : Nat → Prop} {a0 : Int} {a1 : Int} {x2 : List (Int × Int × Int)} {x3 : List Int} {v2 v3 : Value} {F2 F3 : Nat → Prop} (h2 : Kp 177 Jk w F2 v2 x2) (h3 : Kp 3 Je w F3 v3 x3) (s2 : ∀ b, F2 b → F b) (s3 : ∀ b, F3 b → F b) (d2_3 : ∀ b, F2 b → ¬ F3 b) : Kq.O w F [a0, a1, v2, v3] (a0, a1, x2, x3) := ⟨[a0], [a1, v2, v3], fun _ => False, fun b => F2 b ∨ (F3 b), rfl, rfl, ⟨[a1], [v2, v3], fun _ => False, fun b => F2 b ∨ (F3 b), rfl, rfl, ⟨[v2], [v3], F2, F3, rfl, ⟨_, rfl, h2⟩, ⟨_, rfl, h3⟩, (fun b h => (Or.inl h)), (fun b h => (Or.inr h)), (fun b h g => d2_3 b h g)⟩, (fun b h => (False.elim h)), (fun b h => (h.elim (fun q0 => (Or.inl q0)) (fun q0 => (Or.inr q0)))), (fun b h g => (False.elim h))⟩, (fun b h => (False.elim h)), (fun b h => (h.elim (fun q0 => s2 b q0) (fun q0 => s3 b q0))), (fun b h g => (False.elim h))⟩
def Ke : Ty (Int × List Int) := Yl Je tIntS
theorem Jw : Ke.Law := Km Jc Vm
theorem tRow_R {w : World} {cs : List Value} {a0 : Int} {x1 : List Int} (h : Ke.R w cs (a0, x1)) : ∃ v1, cs = [.int .i64 a0, v1] ∧ Ko Je w v1 x1 := by
 obtain ⟨_, _, rfl, rfl, ⟨v1, rfl, h1⟩⟩ := h
 exact ⟨_, rfl, h1⟩
theorem tRow_sz {a0 : Int} {x1 : List Int} : Ke.sz (a0, x1) = zL Je x1 := by
 simp only [Ke, Vt, Vx, Vw, Yk, Yt, Ys, Xo, Xw, Xv]
 try omega
theorem tRow_nd {a0 : Int} {x1 : List Int} : Ke.nd (a0, x1) = 1 + Jq Je x1 := by
 simp only [Ke, Vt, Vx, Vw, Yk, Yt, Ys, Xo, Xw, Xv]
 try omega
theorem tRow_md {a0 : Int} {x1 : List Int} {k : Int} : Ke.md (a0, x1) k = ((k), Vo Je x1 (k + 1)) := by
 simp only [Ke, tPair_md, tPair_mv, Vx, Vw, tInt_md, tInt_mv, Yt, Ys, tSl_md, tSl_mv, Xw, Xv, Int.natCast_add, Int.natCast_zero, Int.natCast_one, Int.add_zero, Int.zero_add, Int.add_assoc]
theorem tRow_O {w : World} {F : Nat → Prop} {cs : List Value} {a0 : Int} {x1 : List Int} (h : Ke.O w F cs (a0, x1)) : ∃ v1, ∃ F1 : Nat → Prop, cs = [.int .i64 a0, v1] ∧ Kp 3 Je w F1 v1 x1 ∧ (∀ b, F1 b → F b) := by
 obtain ⟨_, _, F0_1, F0_2, rfl, rfl, ⟨v1, rfl, h1⟩, s0_1, s0_2, d0⟩ := h
 exact ⟨v1, F0_2, rfl, h1, fun b h => (s0_2 b h)⟩
theorem tRow_mkO {w : World} {F : Nat → Prop} {a0 : Int} {x1 : List Int} {v1 : Value} {F1 : Nat → Prop} (h1 : Kp 3 Je w F1 v1 x1) (s1 : ∀ b, F1 b → F b)  : Ke.O w F [a0, v1] (a0, x1) := ⟨[a0], [v1], fun _ => False, F1, rfl, rfl, ⟨_, rfl, h1⟩, (fun b h => (False.elim h)), (fun b h => s1 b h), (fun b h g => (False.elim h))⟩
abbrev tRowS : Ty (List (Int × List Int)) := tSl 75 Ke
theorem tRowS_law : tRowS.Law := tSl_law Jw (by decide)
theorem tRow_zero (w : World) : Ke.O w (fun _ => False) #[.int .i64 0, .slice none 0 0].toList Ke.d := tRow_mkO (Ya _ _ _ (fun _ => False)) (fun b h => h) 
set_option maxHeartbeats 8000000 in
theorem markRowS_S (v : Value) (xs : List (Int × List Int)) (F : Nat → Prop) (k : Int) (w : World) (h : Kp 75 Ke w F v xs) (hs : zL Ke xs ≤ 1048576) (k0 : 0 ≤ k) (k1 : k ≤ 1006632960) :
  Calls Tryz.prog 88 #[v, .int .i64 k] w fun e w' => e = .returned (.int .i64 (k + (Jq Ke xs : Int))) ∧ Kp 75 Ke w' F v (Vo Ke xs k) ∧ Kb F w w' := by
 rw [← Us]
 have HS := zh hs
 have hlen := Jz hs
 rcases Xi h with ⟨rfl, rfl⟩ | ⟨g, cap, rfl, hFg, hgw⟩
 ·
  have H := zh h
  clear h hs
  go_enter Tryz.func88, Tryz.ntmps88
  go_wp2
  go_loop [1, 5] (fun m i => i = .int .i64 0 ∧ m = .int .i64 k) (fun _ _ => 0)
  case atStart => exact ⟨rfl, rfl⟩
  case round =>
   obtain ⟨rfl, rfl⟩ := hrel
   go_wp2
   go_ret
   exact ⟨by simp [Ei, sumN], by rw [show Vo Ke [] k = [] from rfl]; exact H.out, Kb.refl _ _⟩
 ·
  have H := zh h
  clear h hs
  go_enter Tryz.func88, Tryz.ntmps88
  go_wp2
  go_loopw [1, 5] (fun m i wr => ∃ j : Nat, j ≤ xs.length ∧ i = .int .i64 j ∧ m = .int .i64 (Ei Ke xs k j) ∧ Kp 75 Ke wr (fun b => F b ∧ b < w.heap.size) (.slice (some ⟨g, 0, none⟩) xs.length cap) (mTo Ke xs k j) ∧ Kb F w wr) (fun _ i _ => xs.length - (intOf i).toNat)
  case atStart => exact ⟨0, Ij _, rfl, by rw [Xr], by rw [mTo_zero]; exact Kn Jw H.out, Kb.refl _ _⟩
  case round =>
   obtain ⟨j, hj, rfl, rfl, hown, hon⟩ := hrel
   by_cases hlt : j < xs.length
   ·
    have i1 : (0 : Int) ≤ (j : Int) := by omega
    have i2 : (j : Int) < (xs.length : Int) := by omega
    have hjl : j < (mTo Ke xs k j).length := by rw [Ur hj]; exact hlt
    have HLL := zh (Ur (T := Ke) (k := k) hj)
    obtain ⟨r1, r2⟩ := Vb Jw (by decide) (k := k) HS.out hj
    obtain ⟨r3, r4⟩ := Vb Jw (by decide) (k := k) (j := j + 1) HS.out (by omega)
    have hzx := Vj HS.out hlt
    have hstep := Xs (T := Ke) (k := k) hlt
    have hset := mTo_step (T := Ke) (k := k) hlt
    have hsz := hon.size
    obtain ⟨hme, hFg2, hgl, cj, Fj, Lc, hrow, hLc, hO, hFj, hput⟩ := Eb Jw hown hjl
    clear hme hFg2
    rw [mTo_at hlt] at hO
    have HM : Hid (∃ m', Ei Ke xs k (j + 1) = m') := zh ⟨_, rfl⟩
    obtain ⟨m', hm'⟩ := HM.out
    rw [hm'] at hstep r3 r4
    have HM' := zh hm'
    clear hm' HM H hown hjl
    generalize Ei Ke xs k j = m at *
    generalize xs.getD j Ke.d = x at *
    rw [HLL.out] at hrow hput
    obtain ⟨a0, x1⟩ := x
    rw [tRow_md] at hset
    rw [tRow_nd] at hstep
    rw [tRow_sz] at hzx
    obtain ⟨v1, K1, rfl, o1, q1⟩ := tRow_O hO
    have S1 := zh (show zL Je x1 ≤ 1048576 by omega)
    have N1 := Vd Jc (by decide) x1
    have R1 : Hid (0 ≤ m + 1 ∧ m + 1 ≤ 1073741824) := zh (by omega)
    have hmm : m + 1 + (Jq Je x1 : Int) = m' := by omega
    have HMM := zh hmm
    have hm0 : 0 ≤ m := by omega
    have hm1 : m ≤ 1073741824 := by omega
    clear hmm hstep hzx N1
    have hLl : Lc.length = xs.length * 2 := hrow.1
    have HSET := zh hset
    clear hset
    have tt : Kb (fun b => b = g ∨ Fj b ∨ wr.heap.size ≤ b) wr wr := Kb.refl _ _
    have rr := hrow
    have c0 : ∃ x, wr.cell? ⟨g, j * 2, none⟩ = some x := ⟨_, (World.ownsRow.cellAt rr (j * 2) (by show j * 2 < xs.length * 2; omega)).trans (Ih (by have h9 := rr.1; have h8 : xs.length * Ke.n = xs.length * 2 := rfl; omega))⟩
    obtain ⟨y0, c0⟩ := c0
    have f0 := World.ownsRow.frozenAt rr (j * 2)
    have cv1 : wr.cell? ⟨g, j * 2 + 1, none⟩ = some v1 := (World.ownsRow.cellAt rr (j * 2 + 1) (by show j * 2 + 1 < xs.length * 2; omega)).trans (by exact hLc 1 (by decide))
    go_wp2_with fail
    clear c0 f0 cv1
    have ts : Kb (fun b => b = g) wr (wr.setCell ⟨g, j * 2, none⟩ (.int .i64 (m))) := ((Kb.refl (fun b => b = g) _).trans (Jm (G := fun b => b = g) (g := g) (j := j * 2) (u := .int .i64 (m)) rfl))
    replace rr := (World.ownsRow.stored rr (j * 2) (.int .i64 (m))).1
    replace o1 := Ka Jc o1 ts (fun b h1 h2 => (hFj b (q1 b h1)).2.1 h2)
    replace tt := tt.trans (ts.mono (fun b h => Or.inl h))
    clear ts
    generalize (wr.setCell ⟨g, j * 2, none⟩ (.int .i64 (m))) = W0 at *
    refine (Uu v1 x1 _ (m + 1) W0 o1 S1.out R1.out.1 (by have := R1.out.2; omega)).mono ?_
    rintro e w1 ⟨rfl, m1, t1⟩
    replace rr := Ym rr t1 (fun b hb h => by simp [Value.ownBlock] at hb; exact (hFj b (q1 b h)).2.1 hb.symm)
    replace o1 := m1
    replace tt := tt.trans (t1.mono (fun b h => Or.inr (Or.inl (q1 b h))))
    clear t1
    have hO2 := tRow_mkO (F := Fj) (a0 := m) o1 q1 
    have hst := hput w1 (Lc.set (j * 2) (.int .i64 (m))) [.int .i64 (m), v1] Fj _ rr (fun p hp => by have hp2 : p < j * 2 ∨ j * 2 + 2 ≤ p := hp; rw [Ig (by omega)]) (fun i hi => by have hi' : i < 2 := hi; match i, hi' with | 0, _ => (show ((Lc.set (j * 2) (.int .i64 (m))))[j * 2]? = _; rw [List.getElem?_set_self (by first | omega | (simp only [List.length_set]; omega))]; rfl) | 1, _ => (show ((Lc.set (j * 2) (.int .i64 (m))))[j * 2 + 1]? = _; rw [Ig (by omega)]; exact hLc 1 (by decide))) hO2 (fun b hb => ⟨(hFj b hb).1, Or.inl hb⟩) tt
    rw [HSET.out] at hst
    have HST := zh hst
    have hon2 := hon.trans (Kb.mono (G := fun b => F b ∧ b < w.heap.size) (G' := F) ⟨tt.os, tt.tape, tt.output, tt.size, fun b hb hn => tt.block b hb (fun h => hn (h.elim (fun h => by rw [h]; exact ⟨hFg, hgw⟩) (fun h => h.elim (fun h => (hFj b h).1) (fun h => absurd hb (Nat.not_lt.2 h)))))⟩ (fun b h => h.1))
    clear hst hput tt rr hO2 hon hFj hLc hLl o1
    rw [HMM.out]
    go_wp2
    go_roundw
    case rel => exact ⟨j + 1, by omega, by go_num, by rw [HM'.out], HST.out, hon2⟩
    case measure => simp [intOf]; omega
   ·
    obtain rfl : j = xs.length := by omega
    rw [mTo_all] at hown
    go_wp2
    go_ret
    exact ⟨rfl, Ky hown (fun b h => h.1), hon⟩
set_option maxHeartbeats 8000000 in
theorem heldRowS_S (v : Value) (xs : List (Int × List Int)) (k : Int) (w : World) (h : Ko Ke w v (Vo Ke xs k)) (hs : zL Ke xs ≤ 1048576) (k0 : 0 ≤ k) (k1 : k ≤ 1006632960) :
  Calls Tryz.prog 90 #[v, .int .i64 k] w fun e w' => e = .returned (.int .i64 (k + (Jq Ke xs : Int))) ∧ w = w' := by
 rw [← Us]
 have HS := zh hs
 have H := zh h
 have hlen := Jz hs
 obtain ⟨a, cap, rfl⟩ := Jl h
 rw [Vy] at H ⊢
 clear h hs
 go_enter Tryz.func90, Tryz.ntmps90
 go_wp2
 go_loop [1, 5] (fun m i => ∃ j : Nat, j ≤ xs.length ∧ i = .int .i64 j ∧ m = .int .i64 (Ei Ke xs k j)) (fun _ i => xs.length - (intOf i).toNat)
 case atStart => exact ⟨0, Ij _, rfl, by rw [Xr]⟩
 case round =>
  obtain ⟨j, hj, rfl, rfl⟩ := hrel
  by_cases hlt : j < xs.length
  ·
   have i1 : (0 : Int) ≤ (j : Int) := by omega
   have i2 : (j : Int) < (xs.length : Int) := by omega
   obtain ⟨r1, r2⟩ := Vb Jw (by decide) (k := k) HS.out hj
   obtain ⟨r3, r4⟩ := Vb Jw (by decide) (k := k) (j := j + 1) HS.out (by omega)
   have hzx := Vj HS.out hlt
   have hstep := Xs (T := Ke) (k := k) hlt
   obtain ⟨b, off, cap', cs, hv, hbl, hcs, hR⟩ := Ku H.out (k := j) (by rw [Vy]; exact hlt)
   rw [Vy] at hv
   simp only [Ik] at hv
   obtain ⟨rfl, _, rfl⟩ := hv
   rw [mAll_at hlt] at hR
   have HM : Hid (∃ m', Ei Ke xs k (j + 1) = m') := zh ⟨_, rfl⟩
   obtain ⟨m', hm'⟩ := HM.out
   rw [hm'] at hstep r3 r4
   have HM' := zh hm'
   clear hm' HM H
   generalize Ei Ke xs k j = m at *
   generalize xs.getD j Ke.d = x at *
   obtain ⟨a0, x1⟩ := x
   rw [tRow_md] at hR
   obtain ⟨v1, hR'⟩ := tRow_R hR
   obtain ⟨rfl, h1⟩ := hR'
   rw [tRow_sz] at hzx
   rw [tRow_nd] at hstep
   have p0 : w.cell? ⟨b, off + j * 2, none⟩ = some (Value.int .i64 (m)) := hcs 0 (by decide)
   have p1 : w.cell? ⟨b, off + j * 2 + 1, none⟩ = some (v1) := hcs 1 (by decide)
   have S1 := zh (show zL Je x1 ≤ 1048576 by omega)
   have N1 := Vd Jc (by decide) x1
   have R1 : Hid (0 ≤ m + 1 ∧ m + 1 ≤ 1073741824) := zh (by omega)
   have A1 := zh h1
   have ng1 : ¬ m + 1 + (Jq Je x1 : Int) < 0 := by omega
   have eq0 : ((m : Int) != m) = false := by simp
   have hmm : m + 1 + (Jq Je x1 : Int) = m' := by omega
   have HMM := zh hmm
   have hm0 : 0 ≤ m := by omega
   have hm1 : m ≤ 1073741824 := by omega
   clear hmm hstep hcs hzx N1 h1
   go_wp2_with fail
   refine (Um v1 x1 (m + 1) _ A1.out S1.out R1.out.1 (by have := R1.out.2; omega)).mono ?_
   rintro e w2 ⟨rfl, rfl⟩
   rw [HMM.out]
   clear ng1
   have hnn : ¬ m' < 0 := by omega
   go_wp2
   go_round
   case rel => exact ⟨j + 1, by omega, by go_num, by rw [HM'.out]⟩
   case measure => simp [intOf]; omega
  ·
   obtain rfl : j = xs.length := by omega
   go_wp2
   go_ret
   exact ⟨rfl, rfl⟩
def Ji : Ty ((Int × Int × List (Int × Int × Int) × List Int) × Int × List Int × Int × Int × Int × List (Int × List Int)) := Yl Kq (Yl Je (Yl tIntS (Yl Je (Yl Je (Yl Je tRowS)))))
theorem Jj : Ji.Law := Km Kt (Km Jc (Km Vm (Km Jc (Km Jc (Km Jc tRowS_law)))))
theorem tActive_R {w : World} {cs : List Value} {a0 : Int} {a1 : Int} {x2 : List (Int × Int × Int)} {x3 : List Int} {a4 : Int} {x5 : List Int} {a6 : Int} {a7 : Int} {a8 : Int} {x9 : List (Int × List Int)} (h : Ji.R w cs ((a0, a1, x2, x3), a4, x5, a6, a7, a8, x9)) : ∃ v2 v3 v5 v9, cs = [.int .i64 a0, .int .i64 a1, v2, v3, .int .i64 a4, v5, .int .i64 a6, .int .i64 a7, .int .i64 a8, v9] ∧ Ko Jk w v2 x2 ∧ Ko Je w v3 x3 ∧ Ko Je w v5 x5 ∧ Ko Ke w v9 x9 := by
 obtain ⟨_, _, rfl, ⟨_, _, rfl, rfl, ⟨_, _, rfl, rfl, ⟨_, _, rfl, ⟨v2, rfl, h2⟩, ⟨v3, rfl, h3⟩⟩⟩⟩, ⟨_, _, rfl, rfl, ⟨_, _, rfl, ⟨v5, rfl, h5⟩, ⟨_, _, rfl, rfl, ⟨_, _, rfl, rfl, ⟨_, _, rfl, rfl, ⟨v9, rfl, h9⟩⟩⟩⟩⟩⟩⟩ := h
 exact ⟨_, _, _, _, rfl, h2, h3, h5, h9⟩
theorem tActive_sz {a0 : Int} {a1 : Int} {x2 : List (Int × Int × Int)} {x3 : List Int} {a4 : Int} {x5 : List Int} {a6 : Int} {a7 : Int} {a8 : Int} {x9 : List (Int × List Int)} : Ji.sz ((a0, a1, x2, x3), a4, x5, a6, a7, a8, x9) = zL Jk x2 + zL Je x3 + zL Je x5 + zL Ke x9 := by
 simp only [Ji, Vt, Vx, Vw, Yk, Yt, Ys, Xo, Xw, Xv, Kq]
 try omega
theorem tActive_nd {a0 : Int} {a1 : Int} {x2 : List (Int × Int × Int)} {x3 : List Int} {a4 : Int} {x5 : List Int} {a6 : Int} {a7 : Int} {a8 : Int} {x9 : List (Int × List Int)} : Ji.nd ((a0, a1, x2, x3), a4, x5, a6, a7, a8, x9) = 6 + Jq Jk x2 + Jq Je x3 + Jq Je x5 + Jq Ke x9 := by
 simp only [Ji, Vt, Vx, Vw, Yk, Yt, Ys, Xo, Xw, Xv, Kq]
 try omega
theorem tActive_md {a0 : Int} {a1 : Int} {x2 : List (Int × Int × Int)} {x3 : List Int} {a4 : Int} {x5 : List Int} {a6 : Int} {a7 : Int} {a8 : Int} {x9 : List (Int × List Int)} {k : Int} : Ji.md ((a0, a1, x2, x3), a4, x5, a6, a7, a8, x9) k = (((k), (k + 1), Vo Jk x2 (k + 1 + 1), Vo Je x3 (k + 1 + 1 + (Jq Jk x2 : Int))), (k + 1 + 1 + (Jq Jk x2 : Int) + (Jq Je x3 : Int)), Vo Je x5 (k + 1 + 1 + (Jq Jk x2 : Int) + (Jq Je x3 : Int) + 1), (k + 1 + 1 + (Jq Jk x2 : Int) + (Jq Je x3 : Int) + 1 + (Jq Je x5 : Int)), (k + 1 + 1 + (Jq Jk x2 : Int) + (Jq Je x3 : Int) + 1 + (Jq Je x5 : Int) + 1), (k + 1 + 1 + (Jq Jk x2 : Int) + (Jq Je x3 : Int) + 1 + (Jq Je x5 : Int) + 1 + 1), Vo Ke x9 (k + 1 + 1 + (Jq Jk x2 : Int) + (Jq Je x3 : Int) + 1 + (Jq Je x5 : Int) + 1 + 1 + 1)) := by
 simp only [Ji, tPair_md, tPair_mv, Vx, Vw, tInt_md, tInt_mv, Yt, Ys, tSl_md, tSl_mv, Xw, Xv, Kq, Int.natCast_add, Int.natCast_zero, Int.natCast_one, Int.add_zero, Int.zero_add, Int.add_assoc]
theorem tActive_O {w : World} {F : Nat → Prop} {cs : List Value} {a0 : Int} {a1 : Int} {x2 : List (Int × Int × Int)} {x3 : List Int} {a4 : Int} {x5 : List Int} {a6 : Int} {a7 : Int} {a8 : Int} {x9 : List (Int × List Int)} (h : Ji.O w F cs ((a0, a1, x2, x3), a4, x5, a6, a7, a8, x9)) : ∃ v2 v3 v5 v9, ∃ F2 F3 F5 F9 : Nat → Prop, cs = [.int .i64 a0, .int .i64 a1, v2, v3, .int .i64 a4, v5, .int .i64 a6, .int .i64 a7, .int .i64 a8, v9] ∧ Kp 177 Jk w F2 v2 x2 ∧ Kp 3 Je w F3 v3 x3 ∧ Kp 3 Je w F5 v5 x5 ∧ Kp 75 Ke w F9 v9 x9 ∧ (∀ b, F2 b → F b) ∧ (∀ b, F3 b → F b) ∧ (∀ b, F5 b → F b) ∧ (∀ b, F9 b → F b) ∧ (∀ b, F2 b → ¬ F3 b) ∧ (∀ b, F2 b → ¬ F5 b) ∧ (∀ b, F2 b → ¬ F9 b) ∧ (∀ b, F3 b → ¬ F5 b) ∧ (∀ b, F3 b → ¬ F9 b) ∧ (∀ b, F5 b → ¬ F9 b) := by
 obtain ⟨_, _, F0_1, F0_2, rfl, ⟨_, _, F1_1, F1_2, rfl, rfl, ⟨_, _, F2_1, F2_2, rfl, rfl, ⟨_, _, F3_1, F3_2, rfl, ⟨v2, rfl, h2⟩, ⟨v3, rfl, h3⟩, s3_1, s3_2, d3⟩, s2_1, s2_2, d2⟩, s1_1, s1_2, d1⟩, ⟨_, _, F4_1, F4_2, rfl, rfl, ⟨_, _, F5_1, F5_2, rfl, ⟨v5, rfl, h5⟩, ⟨_, _, F6_1, F6_2, rfl, rfl, ⟨_, _, F7_1, F7_2, rfl, rfl, ⟨_, _, F8_1, F8_2, rfl, rfl, ⟨v9, rfl, h9⟩, s8_1, s8_2, d8⟩, s7_1, s7_2, d7⟩, s6_1, s6_2, d6⟩, s5_1, s5_2, d5⟩, s4_1, s4_2, d4⟩, s0_1, s0_2, d0⟩ := h
 exact ⟨v2, v3, v5, v9, F3_1, F3_2, F5_1, F8_2, rfl, h2, h3, h5, h9, fun b h => (s0_1 b (s1_2 b (s2_2 b (s3_1 b h)))), fun b h => (s0_1 b (s1_2 b (s2_2 b (s3_2 b h)))), fun b h => (s0_2 b (s4_2 b (s5_1 b h))), fun b h => (s0_2 b (s4_2 b (s5_2 b (s6_2 b (s7_2 b (s8_2 b h)))))), fun b h h2 => d3 b h h2, fun b h h2 => d0 b (s1_2 b (s2_2 b (s3_1 b h))) (s4_2 b (s5_1 b h2)), fun b h h2 => d0 b (s1_2 b (s2_2 b (s3_1 b h))) (s4_2 b (s5_2 b (s6_2 b (s7_2 b (s8_2 b h2))))), fun b h h2 => d0 b (s1_2 b (s2_2 b (s3_2 b h))) (s4_2 b (s5_1 b h2)), fun b h h2 => d0 b (s1_2 b (s2_2 b (s3_2 b h))) (s4_2 b (s5_2 b (s6_2 b (s7_2 b (s8_2 b h2))))), fun b h h2 => d5 b h (s6_2 b (s7_2 b (s8_2 b h2)))⟩
theorem tActive_mkO {w : World} {F : Nat → Prop} {a0 : Int} {a1 : Int} {x2 : List (Int × Int × Int)} {x3 : List Int} {a4 : Int} {x5 : List Int} {a6 : Int} {a7 : Int} {a8 : Int} {x9 : List (Int × List Int)} {v2 v3 v5 v9 : Value} {F2 F3 F5 F9 : Nat → Prop} (h2 : Kp 177 Jk w F2 v2 x2) (h3 : Kp 3 Je w F3 v3 x3) (h5 : Kp 3 Je w F5 v5 x5) (h9 : Kp 75 Ke w F9 v9 x9) (s2 : ∀ b, F2 b → F b) (s3 : ∀ b, F3 b → F b) (s5 : ∀ b, F5 b → F b) (s9 : ∀ b, F9 b → F b) (d2_3 : ∀ b, F2 b → ¬ F3 b) (d2_5 : ∀ b, F2 b → ¬ F5 b) (d2_9 : ∀ b, F2 b → ¬ F9 b) (d3_5 : ∀ b, F3 b → ¬ F5 b) (d3_9 : ∀ b, F3 b → ¬ F9 b) (d5_9 : ∀ b, F5 b → ¬ F9 b) : Ji.O w F [a0, a1, v2, v3, a4, v5, a6, a7, a8, v9] ((a0, a1, x2, x3), a4, x5, a6, a7, a8, x9) := ⟨[a0, a1, v2, v3], [a4, v5, a6, a7, a8, v9], fun b => F2 b ∨ (F3 b), fun b => F5 b ∨ (F9 b), rfl, ⟨[a0], [a1, v2, v3], fun _ => False, fun b => F2 b ∨ (F3 b), rfl, rfl, ⟨[a1], [v2, v3], fun _ => False, fun b => F2 b ∨ (F3 b), rfl, rfl, ⟨[v2], [v3], F2, F3, rfl, ⟨_, rfl, h2⟩, ⟨_, rfl, h3⟩, (fun b h => (Or.inl h)), (fun b h => (Or.inr h)), (fun b h g => d2_3 b h g)⟩, (fun b h => (False.elim h)), (fun b h => (h.elim (fun q0 => (Or.inl q0)) (fun q0 => (Or.inr q0)))), (fun b h g => (False.elim h))⟩, (fun b h => (False.elim h)), (fun b h => (h.elim (fun q0 => (Or.inl q0)) (fun q0 => (Or.inr q0)))), (fun b h g => (False.elim h))⟩, ⟨[a4], [v5, a6, a7, a8, v9], fun _ => False, fun b => F5 b ∨ (F9 b), rfl, rfl, ⟨[v5], [a6, a7, a8, v9], F5, F9, rfl, ⟨_, rfl, h5⟩, ⟨[a6], [a7, a8, v9], fun _ => False, F9, rfl, rfl, ⟨[a7], [a8, v9], fun _ => False, F9, rfl, rfl, ⟨[a8], [v9], fun _ => False, F9, rfl, rfl, ⟨_, rfl, h9⟩, (fun b h => (False.elim h)), (fun b h => h), (fun b h g => (False.elim h))⟩, (fun b h => (False.elim h)), (fun b h => h), (fun b h g => (False.elim h))⟩, (fun b h => (False.elim h)), (fun b h => h), (fun b h g => (False.elim h))⟩, (fun b h => (Or.inl h)), (fun b h => (Or.inr h)), (fun b h g => d5_9 b h g)⟩, (fun b h => (False.elim h)), (fun b h => (h.elim (fun q0 => (Or.inl q0)) (fun q0 => (Or.inr q0)))), (fun b h g => (False.elim h))⟩, (fun b h => (h.elim (fun q0 => s2 b q0) (fun q0 => s3 b q0))), (fun b h => (h.elim (fun q0 => s5 b q0) (fun q0 => s9 b q0))), (fun b h g => (h.elim (fun q0 => (g.elim (fun q10 => d2_5 b q0 q10) (fun q10 => d2_9 b q0 q10))) (fun q0 => (g.elim (fun q10 => d3_5 b q0 q10) (fun q10 => d3_9 b q0 q10)))))⟩
abbrev tActiveS : Ty (List ((Int × Int × List (Int × Int × Int) × List Int) × Int × List Int × Int × Int × Int × List (Int × List Int))) := tSl 104 Ji
theorem tActiveS_law : tActiveS.Law := tSl_law Jj (by decide)
theorem tActive_zero (w : World) : Ji.O w (fun _ => False) #[.int .i64 0, .int .i64 0, .slice none 0 0, .slice none 0 0, .int .i64 0, .slice none 0 0, .int .i64 0, .int .i64 0, .int .i64 0, .slice none 0 0].toList Ji.d := tActive_mkO (Ya _ _ _ (fun _ => False)) (Ya _ _ _ (fun _ => False)) (Ya _ _ _ (fun _ => False)) (Ya _ _ _ (fun _ => False)) (fun b h => h) (fun b h => h) (fun b h => h) (fun b h => h) (fun b h _ => h) (fun b h _ => h) (fun b h _ => h) (fun b h _ => h) (fun b h _ => h) (fun b h _ => h)
set_option maxHeartbeats 8000000 in
theorem markActiveS_S (v : Value) (xs : List ((Int × Int × List (Int × Int × Int) × List Int) × Int × List Int × Int × Int × Int × List (Int × List Int))) (F : Nat → Prop) (k : Int) (w : World) (h : Kp 104 Ji w F v xs) (hs : zL Ji xs ≤ 1048576) (k0 : 0 ≤ k) (k1 : k ≤ 939524096) :
  Calls Tryz.prog 85 #[v, .int .i64 k] w fun e w' => e = .returned (.int .i64 (k + (Jq Ji xs : Int))) ∧ Kp 104 Ji w' F v (Vo Ji xs k) ∧ Kb F w w' := by
 rw [← Us]
 have HS := zh hs
 have hlen := Jz hs
 rcases Xi h with ⟨rfl, rfl⟩ | ⟨g, cap, rfl, hFg, hgw⟩
 ·
  have H := zh h
  clear h hs
  go_enter Tryz.func85, Tryz.ntmps85
  go_wp2
  go_loop [1, 5] (fun m i => i = .int .i64 0 ∧ m = .int .i64 k) (fun _ _ => 0)
  case atStart => exact ⟨rfl, rfl⟩
  case round =>
   obtain ⟨rfl, rfl⟩ := hrel
   go_wp2
   go_ret
   exact ⟨by simp [Ei, sumN], by rw [show Vo Ji [] k = [] from rfl]; exact H.out, Kb.refl _ _⟩
 ·
  have H := zh h
  clear h hs
  go_enter Tryz.func85, Tryz.ntmps85
  go_wp2
  go_loopw [1, 5] (fun m i wr => ∃ j : Nat, j ≤ xs.length ∧ i = .int .i64 j ∧ m = .int .i64 (Ei Ji xs k j) ∧ Kp 104 Ji wr (fun b => F b ∧ b < w.heap.size) (.slice (some ⟨g, 0, none⟩) xs.length cap) (mTo Ji xs k j) ∧ Kb F w wr) (fun _ i _ => xs.length - (intOf i).toNat)
  case atStart => exact ⟨0, Ij _, rfl, by rw [Xr], by rw [mTo_zero]; exact Kn Jj H.out, Kb.refl _ _⟩
  case round =>
   obtain ⟨j, hj, rfl, rfl, hown, hon⟩ := hrel
   by_cases hlt : j < xs.length
   ·
    have i1 : (0 : Int) ≤ (j : Int) := by omega
    have i2 : (j : Int) < (xs.length : Int) := by omega
    have hjl : j < (mTo Ji xs k j).length := by rw [Ur hj]; exact hlt
    have HLL := zh (Ur (T := Ji) (k := k) hj)
    obtain ⟨r1, r2⟩ := Vb Jj (by decide) (k := k) HS.out hj
    obtain ⟨r3, r4⟩ := Vb Jj (by decide) (k := k) (j := j + 1) HS.out (by omega)
    have hzx := Vj HS.out hlt
    have hstep := Xs (T := Ji) (k := k) hlt
    have hset := mTo_step (T := Ji) (k := k) hlt
    have hsz := hon.size
    obtain ⟨hme, hFg2, hgl, cj, Fj, Lc, hrow, hLc, hO, hFj, hput⟩ := Eb Jj hown hjl
    clear hme hFg2
    rw [mTo_at hlt] at hO
    have HM : Hid (∃ m', Ei Ji xs k (j + 1) = m') := zh ⟨_, rfl⟩
    obtain ⟨m', hm'⟩ := HM.out
    rw [hm'] at hstep r3 r4
    have HM' := zh hm'
    clear hm' HM H hown hjl
    generalize Ei Ji xs k j = m at *
    generalize xs.getD j Ji.d = x at *
    rw [HLL.out] at hrow hput
    obtain ⟨⟨a0, a1, x2, x3⟩, a4, x5, a6, a7, a8, x9⟩ := x
    rw [tActive_md] at hset
    rw [tActive_nd] at hstep
    rw [tActive_sz] at hzx
    obtain ⟨v2, v3, v5, v9, K2, K3, K5, K9, rfl, o2, o3, o5, o9, q2, q3, q5, q9, d2_3, d2_5, d2_9, d3_5, d3_9, d5_9⟩ := tActive_O hO
    have S2 := zh (show zL Jk x2 ≤ 1048576 by omega)
    have N2 := Vd Jt (by decide) x2
    have S3 := zh (show zL Je x3 ≤ 1048576 by omega)
    have N3 := Vd Jc (by decide) x3
    have S5 := zh (show zL Je x5 ≤ 1048576 by omega)
    have N5 := Vd Jc (by decide) x5
    have S9 := zh (show zL Ke x9 ≤ 1048576 by omega)
    have N9 := Vd Jw (by decide) x9
    have R2 : Hid (0 ≤ m + 1 + 1 ∧ m + 1 + 1 ≤ 1006632960) := zh (by omega)
    have R3 : Hid (0 ≤ m + 1 + 1 + (Jq Jk x2 : Int) ∧ m + 1 + 1 + (Jq Jk x2 : Int) ≤ 1073741824) := zh (by omega)
    have R5 : Hid (0 ≤ m + 1 + 1 + (Jq Jk x2 : Int) + (Jq Je x3 : Int) + 1 ∧ m + 1 + 1 + (Jq Jk x2 : Int) + (Jq Je x3 : Int) + 1 ≤ 1073741824) := zh (by omega)
    have R9 : Hid (0 ≤ m + 1 + 1 + (Jq Jk x2 : Int) + (Jq Je x3 : Int) + 1 + (Jq Je x5 : Int) + 1 + 1 + 1 ∧ m + 1 + 1 + (Jq Jk x2 : Int) + (Jq Je x3 : Int) + 1 + (Jq Je x5 : Int) + 1 + 1 + 1 ≤ 1006632960) := zh (by omega)
    have hmx5 : m + 1 + 1 + (Jq Jk x2 : Int) + (Jq Je x3 : Int) + 1 ≤ 1073741824 := by omega
    have hmx9 : m + 1 + 1 + (Jq Jk x2 : Int) + (Jq Je x3 : Int) + 1 + (Jq Je x5 : Int) + 1 + 1 + 1 ≤ 1073741824 := by omega
    have hmm : m + 1 + 1 + (Jq Jk x2 : Int) + (Jq Je x3 : Int) + 1 + (Jq Je x5 : Int) + 1 + 1 + 1 + (Jq Ke x9 : Int) = m' := by omega
    have HMM := zh hmm
    have hm0 : 0 ≤ m := by omega
    have hm1 : m ≤ 1073741824 := by omega
    clear hmm hstep hzx N2 N3 N5 N9
    have hLl : Lc.length = xs.length * 10 := hrow.1
    have HSET := zh hset
    clear hset
    have tt : Kb (fun b => b = g ∨ Fj b ∨ wr.heap.size ≤ b) wr wr := Kb.refl _ _
    have rr := hrow
    have c0 : ∃ x, wr.cell? ⟨g, j * 10, none⟩ = some x := ⟨_, (World.ownsRow.cellAt rr (j * 10) (by show j * 10 < xs.length * 10; omega)).trans (Ih (by have h9 := rr.1; have h8 : xs.length * Ji.n = xs.length * 10 := rfl; omega))⟩
    obtain ⟨y0, c0⟩ := c0
    have f0 := World.ownsRow.frozenAt rr (j * 10)
    have c1 : ∃ x, wr.cell? ⟨g, j * 10 + 1, none⟩ = some x := ⟨_, (World.ownsRow.cellAt rr (j * 10 + 1) (by show j * 10 + 1 < xs.length * 10; omega)).trans (Ih (by have h9 := rr.1; have h8 : xs.length * Ji.n = xs.length * 10 := rfl; omega))⟩
    obtain ⟨y1, c1⟩ := c1
    have f1 := World.ownsRow.frozenAt rr (j * 10 + 1)
    have cv2 : wr.cell? ⟨g, j * 10 + 2, none⟩ = some v2 := (World.ownsRow.cellAt rr (j * 10 + 2) (by show j * 10 + 2 < xs.length * 10; omega)).trans (by exact hLc 2 (by decide))
    go_wp2_with fail
    clear c0 f0 c1 f1 cv2
    have ts : Kb (fun b => b = g) wr ((wr.setCell ⟨g, j * 10, none⟩ (.int .i64 (m))).setCell ⟨g, j * 10 + 1, none⟩ (.int .i64 (m + 1))) := (((Kb.refl (fun b => b = g) _).trans (Jm (G := fun b => b = g) (g := g) (j := j * 10) (u := .int .i64 (m)) rfl)).trans (Jm (G := fun b => b = g) (g := g) (j := j * 10 + 1) (u := .int .i64 (m + 1)) rfl))
    replace rr := (World.ownsRow.stored (World.ownsRow.stored rr (j * 10) (.int .i64 (m))).1 (j * 10 + 1) (.int .i64 (m + 1))).1
    replace o2 := Ka Jt o2 ts (fun b h1 h2 => (hFj b (q2 b h1)).2.1 h2)
    replace o3 := Ka Jc o3 ts (fun b h1 h2 => (hFj b (q3 b h1)).2.1 h2)
    replace o5 := Ka Jc o5 ts (fun b h1 h2 => (hFj b (q5 b h1)).2.1 h2)
    replace o9 := Ka Jw o9 ts (fun b h1 h2 => (hFj b (q9 b h1)).2.1 h2)
    replace tt := tt.trans (ts.mono (fun b h => Or.inl h))
    clear ts
    generalize ((wr.setCell ⟨g, j * 10, none⟩ (.int .i64 (m))).setCell ⟨g, j * 10 + 1, none⟩ (.int .i64 (m + 1))) = W0 at *
    refine (markCondS_S v2 x2 _ (m + 1 + 1) W0 o2 S2.out R2.out.1 (by have := R2.out.2; omega)).mono ?_
    rintro e w1 ⟨rfl, m2, t1⟩
    replace rr := Ym rr t1 (fun b hb h => by simp [Value.ownBlock] at hb; exact (hFj b (q2 b h)).2.1 hb.symm)
    replace o2 := m2
    replace o3 := Ka Jc o3 t1 (fun b h1 h2 => d2_3 b h2 h1)
    replace o5 := Ka Jc o5 t1 (fun b h1 h2 => d2_5 b h2 h1)
    replace o9 := Ka Jw o9 t1 (fun b h1 h2 => d2_9 b h2 h1)
    replace tt := tt.trans (t1.mono (fun b h => Or.inr (Or.inl (q2 b h))))
    clear t1
    have cv3 : w1.cell? ⟨g, j * 10 + 3, none⟩ = some v3 := (World.ownsRow.cellAt rr (j * 10 + 3) (by show j * 10 + 3 < xs.length * 10; omega)).trans (by rw [Ig (by omega)]; rw [Ig (by omega)]; exact hLc 3 (by decide))
    go_wp2_with fail
    clear cv3
    refine (Uu v3 x3 _ (m + 1 + 1 + (Jq Jk x2 : Int)) w1 o3 S3.out R3.out.1 (by have := R3.out.2; omega)).mono ?_
    rintro e w2 ⟨rfl, m3, t1⟩
    replace rr := Ym rr t1 (fun b hb h => by simp [Value.ownBlock] at hb; exact (hFj b (q3 b h)).2.1 hb.symm)
    replace o2 := Ka Jt o2 t1 (fun b h1 h2 => d2_3 b h1 h2)
    replace o3 := m3
    replace o5 := Ka Jc o5 t1 (fun b h1 h2 => d3_5 b h2 h1)
    replace o9 := Ka Jw o9 t1 (fun b h1 h2 => d3_9 b h2 h1)
    replace tt := tt.trans (t1.mono (fun b h => Or.inr (Or.inl (q3 b h))))
    clear t1
    have c4 : ∃ x, w2.cell? ⟨g, j * 10 + 4, none⟩ = some x := ⟨_, (World.ownsRow.cellAt rr (j * 10 + 4) (by show j * 10 + 4 < xs.length * 10; omega)).trans (Ih (by have h9 := rr.1; have h8 : xs.length * Ji.n = xs.length * 10 := rfl; omega))⟩
    obtain ⟨y4, c4⟩ := c4
    have f4 := World.ownsRow.frozenAt rr (j * 10 + 4)
    have cv5 : w2.cell? ⟨g, j * 10 + 5, none⟩ = some v5 := (World.ownsRow.cellAt rr (j * 10 + 5) (by show j * 10 + 5 < xs.length * 10; omega)).trans (by rw [Ig (by omega)]; rw [Ig (by omega)]; exact hLc 5 (by decide))
    go_wp2_with fail
    clear c4 f4 cv5
    have ts : Kb (fun b => b = g) w2 (w2.setCell ⟨g, j * 10 + 4, none⟩ (.int .i64 (m + 1 + 1 + (Jq Jk x2 : Int) + (Jq Je x3 : Int)))) := ((Kb.refl (fun b => b = g) _).trans (Jm (G := fun b => b = g) (g := g) (j := j * 10 + 4) (u := .int .i64 (m + 1 + 1 + (Jq Jk x2 : Int) + (Jq Je x3 : Int))) rfl))
    replace rr := (World.ownsRow.stored rr (j * 10 + 4) (.int .i64 (m + 1 + 1 + (Jq Jk x2 : Int) + (Jq Je x3 : Int)))).1
    replace o2 := Ka Jt o2 ts (fun b h1 h2 => (hFj b (q2 b h1)).2.1 h2)
    replace o3 := Ka Jc o3 ts (fun b h1 h2 => (hFj b (q3 b h1)).2.1 h2)
    replace o5 := Ka Jc o5 ts (fun b h1 h2 => (hFj b (q5 b h1)).2.1 h2)
    replace o9 := Ka Jw o9 ts (fun b h1 h2 => (hFj b (q9 b h1)).2.1 h2)
    replace tt := tt.trans (ts.mono (fun b h => Or.inl h))
    clear ts
    generalize (w2.setCell ⟨g, j * 10 + 4, none⟩ (.int .i64 (m + 1 + 1 + (Jq Jk x2 : Int) + (Jq Je x3 : Int)))) = W2 at *
    refine (Uu v5 x5 _ (m + 1 + 1 + (Jq Jk x2 : Int) + (Jq Je x3 : Int) + 1) W2 o5 S5.out R5.out.1 (by have := R5.out.2; omega)).mono ?_
    rintro e w3 ⟨rfl, m5, t1⟩
    replace rr := Ym rr t1 (fun b hb h => by simp [Value.ownBlock] at hb; exact (hFj b (q5 b h)).2.1 hb.symm)
    replace o2 := Ka Jt o2 t1 (fun b h1 h2 => d2_5 b h1 h2)
    replace o3 := Ka Jc o3 t1 (fun b h1 h2 => d3_5 b h1 h2)
    replace o5 := m5
    replace o9 := Ka Jw o9 t1 (fun b h1 h2 => d5_9 b h2 h1)
    replace tt := tt.trans (t1.mono (fun b h => Or.inr (Or.inl (q5 b h))))
    clear t1
    have c6 : ∃ x, w3.cell? ⟨g, j * 10 + 6, none⟩ = some x := ⟨_, (World.ownsRow.cellAt rr (j * 10 + 6) (by show j * 10 + 6 < xs.length * 10; omega)).trans (Ih (by have h9 := rr.1; have h8 : xs.length * Ji.n = xs.length * 10 := rfl; omega))⟩
    obtain ⟨y6, c6⟩ := c6
    have f6 := World.ownsRow.frozenAt rr (j * 10 + 6)
    have c7 : ∃ x, w3.cell? ⟨g, j * 10 + 7, none⟩ = some x := ⟨_, (World.ownsRow.cellAt rr (j * 10 + 7) (by show j * 10 + 7 < xs.length * 10; omega)).trans (Ih (by have h9 := rr.1; have h8 : xs.length * Ji.n = xs.length * 10 := rfl; omega))⟩
    obtain ⟨y7, c7⟩ := c7
    have f7 := World.ownsRow.frozenAt rr (j * 10 + 7)
    have c8 : ∃ x, w3.cell? ⟨g, j * 10 + 8, none⟩ = some x := ⟨_, (World.ownsRow.cellAt rr (j * 10 + 8) (by show j * 10 + 8 < xs.length * 10; omega)).trans (Ih (by have h9 := rr.1; have h8 : xs.length * Ji.n = xs.length * 10 := rfl; omega))⟩
    obtain ⟨y8, c8⟩ := c8
    have f8 := World.ownsRow.frozenAt rr (j * 10 + 8)
    have cv9 : w3.cell? ⟨g, j * 10 + 9, none⟩ = some v9 := (World.ownsRow.cellAt rr (j * 10 + 9) (by show j * 10 + 9 < xs.length * 10; omega)).trans (by rw [Ig (by omega)]; rw [Ig (by omega)]; rw [Ig (by omega)]; exact hLc 9 (by decide))
    go_wp2_with fail
    clear c6 f6 c7 f7 c8 f8 cv9
    have ts : Kb (fun b => b = g) w3 (((w3.setCell ⟨g, j * 10 + 6, none⟩ (.int .i64 (m + 1 + 1 + (Jq Jk x2 : Int) + (Jq Je x3 : Int) + 1 + (Jq Je x5 : Int)))).setCell ⟨g, j * 10 + 7, none⟩ (.int .i64 (m + 1 + 1 + (Jq Jk x2 : Int) + (Jq Je x3 : Int) + 1 + (Jq Je x5 : Int) + 1))).setCell ⟨g, j * 10 + 8, none⟩ (.int .i64 (m + 1 + 1 + (Jq Jk x2 : Int) + (Jq Je x3 : Int) + 1 + (Jq Je x5 : Int) + 1 + 1))) := ((((Kb.refl (fun b => b = g) _).trans (Jm (G := fun b => b = g) (g := g) (j := j * 10 + 6) (u := .int .i64 (m + 1 + 1 + (Jq Jk x2 : Int) + (Jq Je x3 : Int) + 1 + (Jq Je x5 : Int))) rfl)).trans (Jm (G := fun b => b = g) (g := g) (j := j * 10 + 7) (u := .int .i64 (m + 1 + 1 + (Jq Jk x2 : Int) + (Jq Je x3 : Int) + 1 + (Jq Je x5 : Int) + 1)) rfl)).trans (Jm (G := fun b => b = g) (g := g) (j := j * 10 + 8) (u := .int .i64 (m + 1 + 1 + (Jq Jk x2 : Int) + (Jq Je x3 : Int) + 1 + (Jq Je x5 : Int) + 1 + 1)) rfl))
    replace rr := (World.ownsRow.stored (World.ownsRow.stored (World.ownsRow.stored rr (j * 10 + 6) (.int .i64 (m + 1 + 1 + (Jq Jk x2 : Int) + (Jq Je x3 : Int) + 1 + (Jq Je x5 : Int)))).1 (j * 10 + 7) (.int .i64 (m + 1 + 1 + (Jq Jk x2 : Int) + (Jq Je x3 : Int) + 1 + (Jq Je x5 : Int) + 1))).1 (j * 10 + 8) (.int .i64 (m + 1 + 1 + (Jq Jk x2 : Int) + (Jq Je x3 : Int) + 1 + (Jq Je x5 : Int) + 1 + 1))).1
    replace o2 := Ka Jt o2 ts (fun b h1 h2 => (hFj b (q2 b h1)).2.1 h2)
    replace o3 := Ka Jc o3 ts (fun b h1 h2 => (hFj b (q3 b h1)).2.1 h2)
    replace o5 := Ka Jc o5 ts (fun b h1 h2 => (hFj b (q5 b h1)).2.1 h2)
    replace o9 := Ka Jw o9 ts (fun b h1 h2 => (hFj b (q9 b h1)).2.1 h2)
    replace tt := tt.trans (ts.mono (fun b h => Or.inl h))
    clear ts
    generalize (((w3.setCell ⟨g, j * 10 + 6, none⟩ (.int .i64 (m + 1 + 1 + (Jq Jk x2 : Int) + (Jq Je x3 : Int) + 1 + (Jq Je x5 : Int)))).setCell ⟨g, j * 10 + 7, none⟩ (.int .i64 (m + 1 + 1 + (Jq Jk x2 : Int) + (Jq Je x3 : Int) + 1 + (Jq Je x5 : Int) + 1))).setCell ⟨g, j * 10 + 8, none⟩ (.int .i64 (m + 1 + 1 + (Jq Jk x2 : Int) + (Jq Je x3 : Int) + 1 + (Jq Je x5 : Int) + 1 + 1))) = W3 at *
    refine (markRowS_S v9 x9 _ (m + 1 + 1 + (Jq Jk x2 : Int) + (Jq Je x3 : Int) + 1 + (Jq Je x5 : Int) + 1 + 1 + 1) W3 o9 S9.out R9.out.1 (by have := R9.out.2; omega)).mono ?_
    rintro e w4 ⟨rfl, m9, t1⟩
    replace rr := Ym rr t1 (fun b hb h => by simp [Value.ownBlock] at hb; exact (hFj b (q9 b h)).2.1 hb.symm)
    replace o2 := Ka Jt o2 t1 (fun b h1 h2 => d2_9 b h1 h2)
    replace o3 := Ka Jc o3 t1 (fun b h1 h2 => d3_9 b h1 h2)
    replace o5 := Ka Jc o5 t1 (fun b h1 h2 => d5_9 b h1 h2)
    replace o9 := m9
    replace tt := tt.trans (t1.mono (fun b h => Or.inr (Or.inl (q9 b h))))
    clear t1
    have hO2 := tActive_mkO (F := Fj) (a0 := m) (a1 := m + 1) (a4 := m + 1 + 1 + (Jq Jk x2 : Int) + (Jq Je x3 : Int)) (a6 := m + 1 + 1 + (Jq Jk x2 : Int) + (Jq Je x3 : Int) + 1 + (Jq Je x5 : Int)) (a7 := m + 1 + 1 + (Jq Jk x2 : Int) + (Jq Je x3 : Int) + 1 + (Jq Je x5 : Int) + 1) (a8 := m + 1 + 1 + (Jq Jk x2 : Int) + (Jq Je x3 : Int) + 1 + (Jq Je x5 : Int) + 1 + 1) o2 o3 o5 o9 q2 q3 q5 q9 d2_3 d2_5 d2_9 d3_5 d3_9 d5_9
    have hst := hput w4 ((((((Lc.set (j * 10) (.int .i64 (m))).set (j * 10 + 1) (.int .i64 (m + 1))).set (j * 10 + 4) (.int .i64 (m + 1 + 1 + (Jq Jk x2 : Int) + (Jq Je x3 : Int)))).set (j * 10 + 6) (.int .i64 (m + 1 + 1 + (Jq Jk x2 : Int) + (Jq Je x3 : Int) + 1 + (Jq Je x5 : Int)))).set (j * 10 + 7) (.int .i64 (m + 1 + 1 + (Jq Jk x2 : Int) + (Jq Je x3 : Int) + 1 + (Jq Je x5 : Int) + 1))).set (j * 10 + 8) (.int .i64 (m + 1 + 1 + (Jq Jk x2 : Int) + (Jq Je x3 : Int) + 1 + (Jq Je x5 : Int) + 1 + 1))) [.int .i64 (m), .int .i64 (m + 1), v2, v3, .int .i64 (m + 1 + 1 + (Jq Jk x2 : Int) + (Jq Je x3 : Int)), v5, .int .i64 (m + 1 + 1 + (Jq Jk x2 : Int) + (Jq Je x3 : Int) + 1 + (Jq Je x5 : Int)), .int .i64 (m + 1 + 1 + (Jq Jk x2 : Int) + (Jq Je x3 : Int) + 1 + (Jq Je x5 : Int) + 1), .int .i64 (m + 1 + 1 + (Jq Jk x2 : Int) + (Jq Je x3 : Int) + 1 + (Jq Je x5 : Int) + 1 + 1), v9] Fj _ rr (fun p hp => by have hp2 : p < j * 10 ∨ j * 10 + 10 ≤ p := hp; rw [Ig (by omega)]; rw [Ig (by omega)]; rw [Ig (by omega)]; rw [Ig (by omega)]; rw [Ig (by omega)]; rw [Ig (by omega)]) (fun i hi => by have hi' : i < 10 := hi; match i, hi' with | 0, _ => (show (((((((Lc.set (j * 10) (.int .i64 (m))).set (j * 10 + 1) (.int .i64 (m + 1))).set (j * 10 + 4) (.int .i64 (m + 1 + 1 + (Jq Jk x2 : Int) + (Jq Je x3 : Int)))).set (j * 10 + 6) (.int .i64 (m + 1 + 1 + (Jq Jk x2 : Int) + (Jq Je x3 : Int) + 1 + (Jq Je x5 : Int)))).set (j * 10 + 7) (.int .i64 (m + 1 + 1 + (Jq Jk x2 : Int) + (Jq Je x3 : Int) + 1 + (Jq Je x5 : Int) + 1))).set (j * 10 + 8) (.int .i64 (m + 1 + 1 + (Jq Jk x2 : Int) + (Jq Je x3 : Int) + 1 + (Jq Je x5 : Int) + 1 + 1))))[j * 10]? = _; rw [Ig (by omega)]; rw [Ig (by omega)]; rw [Ig (by omega)]; rw [Ig (by omega)]; rw [Ig (by omega)]; rw [List.getElem?_set_self (by first | omega | (simp only [List.length_set]; omega))]; rfl) | 1, _ => (show (((((((Lc.set (j * 10) (.int .i64 (m))).set (j * 10 + 1) (.int .i64 (m + 1))).set (j * 10 + 4) (.int .i64 (m + 1 + 1 + (Jq Jk x2 : Int) + (Jq Je x3 : Int)))).set (j * 10 + 6) (.int .i64 (m + 1 + 1 + (Jq Jk x2 : Int) + (Jq Je x3 : Int) + 1 + (Jq Je x5 : Int)))).set (j * 10 + 7) (.int .i64 (m + 1 + 1 + (Jq Jk x2 : Int) + (Jq Je x3 : Int) + 1 + (Jq Je x5 : Int) + 1))).set (j * 10 + 8) (.int .i64 (m + 1 + 1 + (Jq Jk x2 : Int) + (Jq Je x3 : Int) + 1 + (Jq Je x5 : Int) + 1 + 1))))[j * 10 + 1]? = _; rw [Ig (by omega)]; rw [Ig (by omega)]; rw [Ig (by omega)]; rw [Ig (by omega)]; rw [List.getElem?_set_self (by first | omega | (simp only [List.length_set]; omega))]; rfl) | 2, _ => (show (((((((Lc.set (j * 10) (.int .i64 (m))).set (j * 10 + 1) (.int .i64 (m + 1))).set (j * 10 + 4) (.int .i64 (m + 1 + 1 + (Jq Jk x2 : Int) + (Jq Je x3 : Int)))).set (j * 10 + 6) (.int .i64 (m + 1 + 1 + (Jq Jk x2 : Int) + (Jq Je x3 : Int) + 1 + (Jq Je x5 : Int)))).set (j * 10 + 7) (.int .i64 (m + 1 + 1 + (Jq Jk x2 : Int) + (Jq Je x3 : Int) + 1 + (Jq Je x5 : Int) + 1))).set (j * 10 + 8) (.int .i64 (m + 1 + 1 + (Jq Jk x2 : Int) + (Jq Je x3 : Int) + 1 + (Jq Je x5 : Int) + 1 + 1))))[j * 10 + 2]? = _; rw [Ig (by omega)]; rw [Ig (by omega)]; rw [Ig (by omega)]; rw [Ig (by omega)]; rw [Ig (by omega)]; rw [Ig (by omega)]; exact hLc 2 (by decide)) | 3, _ => (show (((((((Lc.set (j * 10) (.int .i64 (m))).set (j * 10 + 1) (.int .i64 (m + 1))).set (j * 10 + 4) (.int .i64 (m + 1 + 1 + (Jq Jk x2 : Int) + (Jq Je x3 : Int)))).set (j * 10 + 6) (.int .i64 (m + 1 + 1 + (Jq Jk x2 : Int) + (Jq Je x3 : Int) + 1 + (Jq Je x5 : Int)))).set (j * 10 + 7) (.int .i64 (m + 1 + 1 + (Jq Jk x2 : Int) + (Jq Je x3 : Int) + 1 + (Jq Je x5 : Int) + 1))).set (j * 10 + 8) (.int .i64 (m + 1 + 1 + (Jq Jk x2 : Int) + (Jq Je x3 : Int) + 1 + (Jq Je x5 : Int) + 1 + 1))))[j * 10 + 3]? = _; rw [Ig (by omega)]; rw [Ig (by omega)]; rw [Ig (by omega)]; rw [Ig (by omega)]; rw [Ig (by omega)]; rw [Ig (by omega)]; exact hLc 3 (by decide)) | 4, _ => (show (((((((Lc.set (j * 10) (.int .i64 (m))).set (j * 10 + 1) (.int .i64 (m + 1))).set (j * 10 + 4) (.int .i64 (m + 1 + 1 + (Jq Jk x2 : Int) + (Jq Je x3 : Int)))).set (j * 10 + 6) (.int .i64 (m + 1 + 1 + (Jq Jk x2 : Int) + (Jq Je x3 : Int) + 1 + (Jq Je x5 : Int)))).set (j * 10 + 7) (.int .i64 (m + 1 + 1 + (Jq Jk x2 : Int) + (Jq Je x3 : Int) + 1 + (Jq Je x5 : Int) + 1))).set (j * 10 + 8) (.int .i64 (m + 1 + 1 + (Jq Jk x2 : Int) + (Jq Je x3 : Int) + 1 + (Jq Je x5 : Int) + 1 + 1))))[j * 10 + 4]? = _; rw [Ig (by omega)]; rw [Ig (by omega)]; rw [Ig (by omega)]; rw [List.getElem?_set_self (by first | omega | (simp only [List.length_set]; omega))]; rfl) | 5, _ => (show (((((((Lc.set (j * 10) (.int .i64 (m))).set (j * 10 + 1) (.int .i64 (m + 1))).set (j * 10 + 4) (.int .i64 (m + 1 + 1 + (Jq Jk x2 : Int) + (Jq Je x3 : Int)))).set (j * 10 + 6) (.int .i64 (m + 1 + 1 + (Jq Jk x2 : Int) + (Jq Je x3 : Int) + 1 + (Jq Je x5 : Int)))).set (j * 10 + 7) (.int .i64 (m + 1 + 1 + (Jq Jk x2 : Int) + (Jq Je x3 : Int) + 1 + (Jq Je x5 : Int) + 1))).set (j * 10 + 8) (.int .i64 (m + 1 + 1 + (Jq Jk x2 : Int) + (Jq Je x3 : Int) + 1 + (Jq Je x5 : Int) + 1 + 1))))[j * 10 + 5]? = _; rw [Ig (by omega)]; rw [Ig (by omega)]; rw [Ig (by omega)]; rw [Ig (by omega)]; rw [Ig (by omega)]; rw [Ig (by omega)]; exact hLc 5 (by decide)) | 6, _ => (show (((((((Lc.set (j * 10) (.int .i64 (m))).set (j * 10 + 1) (.int .i64 (m + 1))).set (j * 10 + 4) (.int .i64 (m + 1 + 1 + (Jq Jk x2 : Int) + (Jq Je x3 : Int)))).set (j * 10 + 6) (.int .i64 (m + 1 + 1 + (Jq Jk x2 : Int) + (Jq Je x3 : Int) + 1 + (Jq Je x5 : Int)))).set (j * 10 + 7) (.int .i64 (m + 1 + 1 + (Jq Jk x2 : Int) + (Jq Je x3 : Int) + 1 + (Jq Je x5 : Int) + 1))).set (j * 10 + 8) (.int .i64 (m + 1 + 1 + (Jq Jk x2 : Int) + (Jq Je x3 : Int) + 1 + (Jq Je x5 : Int) + 1 + 1))))[j * 10 + 6]? = _; rw [Ig (by omega)]; rw [Ig (by omega)]; rw [List.getElem?_set_self (by first | omega | (simp only [List.length_set]; omega))]; rfl) | 7, _ => (show (((((((Lc.set (j * 10) (.int .i64 (m))).set (j * 10 + 1) (.int .i64 (m + 1))).set (j * 10 + 4) (.int .i64 (m + 1 + 1 + (Jq Jk x2 : Int) + (Jq Je x3 : Int)))).set (j * 10 + 6) (.int .i64 (m + 1 + 1 + (Jq Jk x2 : Int) + (Jq Je x3 : Int) + 1 + (Jq Je x5 : Int)))).set (j * 10 + 7) (.int .i64 (m + 1 + 1 + (Jq Jk x2 : Int) + (Jq Je x3 : Int) + 1 + (Jq Je x5 : Int) + 1))).set (j * 10 + 8) (.int .i64 (m + 1 + 1 + (Jq Jk x2 : Int) + (Jq Je x3 : Int) + 1 + (Jq Je x5 : Int) + 1 + 1))))[j * 10 + 7]? = _; rw [Ig (by omega)]; rw [List.getElem?_set_self (by first | omega | (simp only [List.length_set]; omega))]; rfl) | 8, _ => (show (((((((Lc.set (j * 10) (.int .i64 (m))).set (j * 10 + 1) (.int .i64 (m + 1))).set (j * 10 + 4) (.int .i64 (m + 1 + 1 + (Jq Jk x2 : Int) + (Jq Je x3 : Int)))).set (j * 10 + 6) (.int .i64 (m + 1 + 1 + (Jq Jk x2 : Int) + (Jq Je x3 : Int) + 1 + (Jq Je x5 : Int)))).set (j * 10 + 7) (.int .i64 (m + 1 + 1 + (Jq Jk x2 : Int) + (Jq Je x3 : Int) + 1 + (Jq Je x5 : Int) + 1))).set (j * 10 + 8) (.int .i64 (m + 1 + 1 + (Jq Jk x2 : Int) + (Jq Je x3 : Int) + 1 + (Jq Je x5 : Int) + 1 + 1))))[j * 10 + 8]? = _; rw [List.getElem?_set_self (by first | omega | (simp only [List.length_set]; omega))]; rfl) | 9, _ => (show (((((((Lc.set (j * 10) (.int .i64 (m))).set (j * 10 + 1) (.int .i64 (m + 1))).set (j * 10 + 4) (.int .i64 (m + 1 + 1 + (Jq Jk x2 : Int) + (Jq Je x3 : Int)))).set (j * 10 + 6) (.int .i64 (m + 1 + 1 + (Jq Jk x2 : Int) + (Jq Je x3 : Int) + 1 + (Jq Je x5 : Int)))).set (j * 10 + 7) (.int .i64 (m + 1 + 1 + (Jq Jk x2 : Int) + (Jq Je x3 : Int) + 1 + (Jq Je x5 : Int) + 1))).set (j * 10 + 8) (.int .i64 (m + 1 + 1 + (Jq Jk x2 : Int) + (Jq Je x3 : Int) + 1 + (Jq Je x5 : Int) + 1 + 1))))[j * 10 + 9]? = _; rw [Ig (by omega)]; rw [Ig (by omega)]; rw [Ig (by omega)]; rw [Ig (by omega)]; rw [Ig (by omega)]; rw [Ig (by omega)]; exact hLc 9 (by decide))) hO2 (fun b hb => ⟨(hFj b hb).1, Or.inl hb⟩) tt
    rw [HSET.out] at hst
    have HST := zh hst
    have hon2 := hon.trans (Kb.mono (G := fun b => F b ∧ b < w.heap.size) (G' := F) ⟨tt.os, tt.tape, tt.output, tt.size, fun b hb hn => tt.block b hb (fun h => hn (h.elim (fun h => by rw [h]; exact ⟨hFg, hgw⟩) (fun h => h.elim (fun h => (hFj b h).1) (fun h => absurd hb (Nat.not_lt.2 h)))))⟩ (fun b h => h.1))
    clear hst hput tt rr hO2 hon hFj hLc hLl o2 o3 o5 o9
    rw [HMM.out]
    go_wp2
    go_roundw
    case rel => exact ⟨j + 1, by omega, by go_num, by rw [HM'.out], HST.out, hon2⟩
    case measure => simp [intOf]; omega
   ·
    obtain rfl : j = xs.length := by omega
    rw [mTo_all] at hown
    go_wp2
    go_ret
    refine ⟨?_, Ky hown (fun b h => h.1), hon⟩
    simp
set_option maxHeartbeats 8000000 in
theorem heldActiveS_S (v : Value) (xs : List ((Int × Int × List (Int × Int × Int) × List Int) × Int × List Int × Int × Int × Int × List (Int × List Int))) (k : Int) (w : World) (h : Ko Ji w v (Vo Ji xs k)) (hs : zL Ji xs ≤ 1048576) (k0 : 0 ≤ k) (k1 : k ≤ 939524096) :
  Calls Tryz.prog 102 #[v, .int .i64 k] w fun e w' => e = .returned (.int .i64 (k + (Jq Ji xs : Int))) ∧ w = w' := by
 rw [← Us]
 have HS := zh hs
 have H := zh h
 have hlen := Jz hs
 obtain ⟨a, cap, rfl⟩ := Jl h
 rw [Vy] at H ⊢
 clear h hs
 go_enter Tryz.func102, Tryz.ntmps102
 go_wp2
 go_loop [1, 5] (fun m i => ∃ j : Nat, j ≤ xs.length ∧ i = .int .i64 j ∧ m = .int .i64 (Ei Ji xs k j)) (fun _ i => xs.length - (intOf i).toNat)
 case atStart => exact ⟨0, Ij _, rfl, by rw [Xr]⟩
 case round =>
  obtain ⟨j, hj, rfl, rfl⟩ := hrel
  by_cases hlt : j < xs.length
  ·
   have i1 : (0 : Int) ≤ (j : Int) := by omega
   have i2 : (j : Int) < (xs.length : Int) := by omega
   obtain ⟨r1, r2⟩ := Vb Jj (by decide) (k := k) HS.out hj
   obtain ⟨r3, r4⟩ := Vb Jj (by decide) (k := k) (j := j + 1) HS.out (by omega)
   have hzx := Vj HS.out hlt
   have hstep := Xs (T := Ji) (k := k) hlt
   obtain ⟨b, off, cap', cs, hv, hbl, hcs, hR⟩ := Ku H.out (k := j) (by rw [Vy]; exact hlt)
   rw [Vy] at hv
   simp only [Ik] at hv
   obtain ⟨rfl, _, rfl⟩ := hv
   rw [mAll_at hlt] at hR
   have HM : Hid (∃ m', Ei Ji xs k (j + 1) = m') := zh ⟨_, rfl⟩
   obtain ⟨m', hm'⟩ := HM.out
   rw [hm'] at hstep r3 r4
   have HM' := zh hm'
   clear hm' HM H
   generalize Ei Ji xs k j = m at *
   generalize xs.getD j Ji.d = x at *
   obtain ⟨⟨a0, a1, x2, x3⟩, a4, x5, a6, a7, a8, x9⟩ := x
   rw [tActive_md] at hR
   obtain ⟨v2, v3, v5, v9, hR'⟩ := tActive_R hR
   obtain ⟨rfl, h2, h3, h5, h9⟩ := hR'
   rw [tActive_sz] at hzx
   rw [tActive_nd] at hstep
   have p0 : w.cell? ⟨b, off + j * 10, none⟩ = some (Value.int .i64 (m)) := hcs 0 (by decide)
   have p1 : w.cell? ⟨b, off + j * 10 + 1, none⟩ = some (Value.int .i64 (m + 1)) := hcs 1 (by decide)
   have p2 : w.cell? ⟨b, off + j * 10 + 2, none⟩ = some (v2) := hcs 2 (by decide)
   have p3 : w.cell? ⟨b, off + j * 10 + 3, none⟩ = some (v3) := hcs 3 (by decide)
   have p4 : w.cell? ⟨b, off + j * 10 + 4, none⟩ = some (Value.int .i64 (m + 1 + 1 + (Jq Jk x2 : Int) + (Jq Je x3 : Int))) := hcs 4 (by decide)
   have p5 : w.cell? ⟨b, off + j * 10 + 5, none⟩ = some (v5) := hcs 5 (by decide)
   have p6 : w.cell? ⟨b, off + j * 10 + 6, none⟩ = some (Value.int .i64 (m + 1 + 1 + (Jq Jk x2 : Int) + (Jq Je x3 : Int) + 1 + (Jq Je x5 : Int))) := hcs 6 (by decide)
   have p7 : w.cell? ⟨b, off + j * 10 + 7, none⟩ = some (Value.int .i64 (m + 1 + 1 + (Jq Jk x2 : Int) + (Jq Je x3 : Int) + 1 + (Jq Je x5 : Int) + 1)) := hcs 7 (by decide)
   have p8 : w.cell? ⟨b, off + j * 10 + 8, none⟩ = some (Value.int .i64 (m + 1 + 1 + (Jq Jk x2 : Int) + (Jq Je x3 : Int) + 1 + (Jq Je x5 : Int) + 1 + 1)) := hcs 8 (by decide)
   have p9 : w.cell? ⟨b, off + j * 10 + 9, none⟩ = some (v9) := hcs 9 (by decide)
   have S2 := zh (show zL Jk x2 ≤ 1048576 by omega)
   have N2 := Vd Jt (by decide) x2
   have S3 := zh (show zL Je x3 ≤ 1048576 by omega)
   have N3 := Vd Jc (by decide) x3
   have S5 := zh (show zL Je x5 ≤ 1048576 by omega)
   have N5 := Vd Jc (by decide) x5
   have S9 := zh (show zL Ke x9 ≤ 1048576 by omega)
   have N9 := Vd Jw (by decide) x9
   have R2 : Hid (0 ≤ m + 1 + 1 ∧ m + 1 + 1 ≤ 1006632960) := zh (by omega)
   have A2 := zh h2
   have R3 : Hid (0 ≤ m + 1 + 1 + (Jq Jk x2 : Int) ∧ m + 1 + 1 + (Jq Jk x2 : Int) ≤ 1073741824) := zh (by omega)
   have A3 := zh h3
   have R5 : Hid (0 ≤ m + 1 + 1 + (Jq Jk x2 : Int) + (Jq Je x3 : Int) + 1 ∧ m + 1 + 1 + (Jq Jk x2 : Int) + (Jq Je x3 : Int) + 1 ≤ 1073741824) := zh (by omega)
   have A5 := zh h5
   have R9 : Hid (0 ≤ m + 1 + 1 + (Jq Jk x2 : Int) + (Jq Je x3 : Int) + 1 + (Jq Je x5 : Int) + 1 + 1 + 1 ∧ m + 1 + 1 + (Jq Jk x2 : Int) + (Jq Je x3 : Int) + 1 + (Jq Je x5 : Int) + 1 + 1 + 1 ≤ 1006632960) := zh (by omega)
   have A9 := zh h9
   have ng2 : ¬ m + 1 + 1 + (Jq Jk x2 : Int) < 0 := by omega
   have ng3 : ¬ m + 1 + 1 + (Jq Jk x2 : Int) + (Jq Je x3 : Int) < 0 := by omega
   have ng5 : ¬ m + 1 + 1 + (Jq Jk x2 : Int) + (Jq Je x3 : Int) + 1 + (Jq Je x5 : Int) < 0 := by omega
   have ng9 : ¬ m + 1 + 1 + (Jq Jk x2 : Int) + (Jq Je x3 : Int) + 1 + (Jq Je x5 : Int) + 1 + 1 + 1 + (Jq Ke x9 : Int) < 0 := by omega
   have eq0 : ((m : Int) != m) = false := by simp
   have eq1 : ((m + 1 : Int) != m + 1) = false := by simp
   have eq4 : ((m + 1 + 1 + (Jq Jk x2 : Int) + (Jq Je x3 : Int) : Int) != m + 1 + 1 + (Jq Jk x2 : Int) + (Jq Je x3 : Int)) = false := by simp
   have eq6 : ((m + 1 + 1 + (Jq Jk x2 : Int) + (Jq Je x3 : Int) + 1 + (Jq Je x5 : Int) : Int) != m + 1 + 1 + (Jq Jk x2 : Int) + (Jq Je x3 : Int) + 1 + (Jq Je x5 : Int)) = false := by simp
   have eq7 : ((m + 1 + 1 + (Jq Jk x2 : Int) + (Jq Je x3 : Int) + 1 + (Jq Je x5 : Int) + 1 : Int) != m + 1 + 1 + (Jq Jk x2 : Int) + (Jq Je x3 : Int) + 1 + (Jq Je x5 : Int) + 1) = false := by simp
   have eq8 : ((m + 1 + 1 + (Jq Jk x2 : Int) + (Jq Je x3 : Int) + 1 + (Jq Je x5 : Int) + 1 + 1 : Int) != m + 1 + 1 + (Jq Jk x2 : Int) + (Jq Je x3 : Int) + 1 + (Jq Je x5 : Int) + 1 + 1) = false := by simp
   have hmx5 : m + 1 + 1 + (Jq Jk x2 : Int) + (Jq Je x3 : Int) + 1 ≤ 1073741824 := by omega
   have hmx9 : m + 1 + 1 + (Jq Jk x2 : Int) + (Jq Je x3 : Int) + 1 + (Jq Je x5 : Int) + 1 + 1 + 1 ≤ 1073741824 := by omega
   have hmm : m + 1 + 1 + (Jq Jk x2 : Int) + (Jq Je x3 : Int) + 1 + (Jq Je x5 : Int) + 1 + 1 + 1 + (Jq Ke x9 : Int) = m' := by omega
   have HMM := zh hmm
   have hm0 : 0 ≤ m := by omega
   have hm1 : m ≤ 1073741824 := by omega
   clear hmm hstep hcs hzx N2 h2 N3 h3 N5 h5 N9 h9
   go_wp2_with fail
   refine (heldCondS_S v2 x2 (m + 1 + 1) _ A2.out S2.out R2.out.1 (by have := R2.out.2; omega)).mono ?_
   rintro e w2 ⟨rfl, rfl⟩
   go_wp2_with fail
   refine (Um v3 x3 (m + 1 + 1 + (Jq Jk x2 : Int)) _ A3.out S3.out R3.out.1 (by have := R3.out.2; omega)).mono ?_
   rintro e w2 ⟨rfl, rfl⟩
   go_wp2_with fail
   refine (Um v5 x5 (m + 1 + 1 + (Jq Jk x2 : Int) + (Jq Je x3 : Int) + 1) _ A5.out S5.out R5.out.1 (by have := R5.out.2; omega)).mono ?_
   rintro e w2 ⟨rfl, rfl⟩
   go_wp2_with fail
   refine (heldRowS_S v9 x9 (m + 1 + 1 + (Jq Jk x2 : Int) + (Jq Je x3 : Int) + 1 + (Jq Je x5 : Int) + 1 + 1 + 1) _ A9.out S9.out R9.out.1 (by have := R9.out.2; omega)).mono ?_
   rintro e w2 ⟨rfl, rfl⟩
   rw [HMM.out]
   clear ng9
   have hnn : ¬ m' < 0 := by omega
   go_wp2
   go_round
   case rel => exact ⟨j + 1, by omega, by go_num, by rw [HM'.out]⟩
   case measure => simp [intOf]; omega
  ·
   obtain rfl : j = xs.length := by omega
   go_wp2
   go_ret
   exact ⟨rfl, rfl⟩
def Jg : Ty ((Int × Int × List (Int × Int × Int) × List Int) × Int × Int × List (Int × List Int)) := Yl Kq (Yl Je (Yl Je tRowS))
theorem Jn : Jg.Law := Km Kt (Km Jc (Km Jc tRowS_law))
theorem tFinished_R {w : World} {cs : List Value} {a0 : Int} {a1 : Int} {x2 : List (Int × Int × Int)} {x3 : List Int} {a4 : Int} {a5 : Int} {x6 : List (Int × List Int)} (h : Jg.R w cs ((a0, a1, x2, x3), a4, a5, x6)) : ∃ v2 v3 v6, cs = [.int .i64 a0, .int .i64 a1, v2, v3, .int .i64 a4, .int .i64 a5, v6] ∧ Ko Jk w v2 x2 ∧ Ko Je w v3 x3 ∧ Ko Ke w v6 x6 := by
 obtain ⟨_, _, rfl, ⟨_, _, rfl, rfl, ⟨_, _, rfl, rfl, ⟨_, _, rfl, ⟨v2, rfl, h2⟩, ⟨v3, rfl, h3⟩⟩⟩⟩, ⟨_, _, rfl, rfl, ⟨_, _, rfl, rfl, ⟨v6, rfl, h6⟩⟩⟩⟩ := h
 exact ⟨_, _, _, rfl, h2, h3, h6⟩
theorem Er {a0 : Int} {a1 : Int} {x2 : List (Int × Int × Int)} {x3 : List Int} {a4 : Int} {a5 : Int} {x6 : List (Int × List Int)} : Jg.sz ((a0, a1, x2, x3), a4, a5, x6) = zL Jk x2 + zL Je x3 + zL Ke x6 := by
 simp only [Jg, Vt, Vx, Vw, Yk, Yt, Ys, Xo, Xw, Xv, Kq]
 try omega
theorem tFinished_nd {a0 : Int} {a1 : Int} {x2 : List (Int × Int × Int)} {x3 : List Int} {a4 : Int} {a5 : Int} {x6 : List (Int × List Int)} : Jg.nd ((a0, a1, x2, x3), a4, a5, x6) = 4 + Jq Jk x2 + Jq Je x3 + Jq Ke x6 := by
 simp only [Jg, Vt, Vx, Vw, Yk, Yt, Ys, Xo, Xw, Xv, Kq]
 try omega
theorem tFinished_md {a0 : Int} {a1 : Int} {x2 : List (Int × Int × Int)} {x3 : List Int} {a4 : Int} {a5 : Int} {x6 : List (Int × List Int)} {k : Int} : Jg.md ((a0, a1, x2, x3), a4, a5, x6) k = (((k), (k + 1), Vo Jk x2 (k + 1 + 1), Vo Je x3 (k + 1 + 1 + (Jq Jk x2 : Int))), (k + 1 + 1 + (Jq Jk x2 : Int) + (Jq Je x3 : Int)), (k + 1 + 1 + (Jq Jk x2 : Int) + (Jq Je x3 : Int) + 1), Vo Ke x6 (k + 1 + 1 + (Jq Jk x2 : Int) + (Jq Je x3 : Int) + 1 + 1)) := by
 simp only [Jg, tPair_md, tPair_mv, Vx, Vw, tInt_md, tInt_mv, Yt, Ys, tSl_md, tSl_mv, Xw, Xv, Kq, Int.natCast_add, Int.natCast_zero, Int.natCast_one, Int.add_zero, Int.zero_add, Int.add_assoc]
theorem tFinished_O {w : World} {F : Nat → Prop} {cs : List Value} {a0 : Int} {a1 : Int} {x2 : List (Int × Int × Int)} {x3 : List Int} {a4 : Int} {a5 : Int} {x6 : List (Int × List Int)} (h : Jg.O w F cs ((a0, a1, x2, x3), a4, a5, x6)) : ∃ v2 v3 v6, ∃ F2 F3 F6 : Nat → Prop, cs = [.int .i64 a0, .int .i64 a1, v2, v3, .int .i64 a4, .int .i64 a5, v6] ∧ Kp 177 Jk w F2 v2 x2 ∧ Kp 3 Je w F3 v3 x3 ∧ Kp 75 Ke w F6 v6 x6 ∧ (∀ b, F2 b → F b) ∧ (∀ b, F3 b → F b) ∧ (∀ b, F6 b → F b) ∧ (∀ b, F2 b → ¬ F3 b) ∧ (∀ b, F2 b → ¬ F6 b) ∧ (∀ b, F3 b → ¬ F6 b) := by
 obtain ⟨_, _, F0_1, F0_2, rfl, ⟨_, _, F1_1, F1_2, rfl, rfl, ⟨_, _, F2_1, F2_2, rfl, rfl, ⟨_, _, F3_1, F3_2, rfl, ⟨v2, rfl, h2⟩, ⟨v3, rfl, h3⟩, s3_1, s3_2, d3⟩, s2_1, s2_2, d2⟩, s1_1, s1_2, d1⟩, ⟨_, _, F4_1, F4_2, rfl, rfl, ⟨_, _, F5_1, F5_2, rfl, rfl, ⟨v6, rfl, h6⟩, s5_1, s5_2, d5⟩, s4_1, s4_2, d4⟩, s0_1, s0_2, d0⟩ := h
 exact ⟨v2, v3, v6, F3_1, F3_2, F5_2, rfl, h2, h3, h6, fun b h => (s0_1 b (s1_2 b (s2_2 b (s3_1 b h)))), fun b h => (s0_1 b (s1_2 b (s2_2 b (s3_2 b h)))), fun b h => (s0_2 b (s4_2 b (s5_2 b h))), fun b h h2 => d3 b h h2, fun b h h2 => d0 b (s1_2 b (s2_2 b (s3_1 b h))) (s4_2 b (s5_2 b h2)), fun b h h2 => d0 b (s1_2 b (s2_2 b (s3_2 b h))) (s4_2 b (s5_2 b h2))⟩
theorem tFinished_mkO {w : World} {F : Nat → Prop} {a0 : Int} {a1 : Int} {x2 : List (Int × Int × Int)} {x3 : List Int} {a4 : Int} {a5 : Int} {x6 : List (Int × List Int)} {v2 v3 v6 : Value} {F2 F3 F6 : Nat → Prop} (h2 : Kp 177 Jk w F2 v2 x2) (h3 : Kp 3 Je w F3 v3 x3) (h6 : Kp 75 Ke w F6 v6 x6) (s2 : ∀ b, F2 b → F b) (s3 : ∀ b, F3 b → F b) (s6 : ∀ b, F6 b → F b) (d2_3 : ∀ b, F2 b → ¬ F3 b) (d2_6 : ∀ b, F2 b → ¬ F6 b) (d3_6 : ∀ b, F3 b → ¬ F6 b) : Jg.O w F [a0, a1, v2, v3, a4, a5, v6] ((a0, a1, x2, x3), a4, a5, x6) := ⟨[a0, a1, v2, v3], [a4, a5, v6], fun b => F2 b ∨ (F3 b), F6, rfl, ⟨[a0], [a1, v2, v3], fun _ => False, fun b => F2 b ∨ (F3 b), rfl, rfl, ⟨[a1], [v2, v3], fun _ => False, fun b => F2 b ∨ (F3 b), rfl, rfl, ⟨[v2], [v3], F2, F3, rfl, ⟨_, rfl, h2⟩, ⟨_, rfl, h3⟩, (fun b h => (Or.inl h)), (fun b h => (Or.inr h)), (fun b h g => d2_3 b h g)⟩, (fun b h => (False.elim h)), (fun b h => (h.elim (fun q0 => (Or.inl q0)) (fun q0 => (Or.inr q0)))), (fun b h g => (False.elim h))⟩, (fun b h => (False.elim h)), (fun b h => (h.elim (fun q0 => (Or.inl q0)) (fun q0 => (Or.inr q0)))), (fun b h g => (False.elim h))⟩, ⟨[a4], [a5, v6], fun _ => False, F6, rfl, rfl, ⟨[a5], [v6], fun _ => False, F6, rfl, rfl, ⟨_, rfl, h6⟩, (fun b h => (False.elim h)), (fun b h => h), (fun b h g => (False.elim h))⟩, (fun b h => (False.elim h)), (fun b h => h), (fun b h g => (False.elim h))⟩, (fun b h => (h.elim (fun q0 => s2 b q0) (fun q0 => s3 b q0))), (fun b h => s6 b h), (fun b h g => (h.elim (fun q0 => d2_6 b q0 g) (fun q0 => d3_6 b q0 g)))⟩
abbrev tFinishedS : Ty (List ((Int × Int × List (Int × Int × Int) × List Int) × Int × Int × List (Int × List Int))) := tSl 59 Jg
theorem tFinishedS_law : tFinishedS.Law := tSl_law Jn (by decide)
theorem tFinished_zero (w : World) : Jg.O w (fun _ => False) #[.int .i64 0, .int .i64 0, .slice none 0 0, .slice none 0 0, .int .i64 0, .int .i64 0, .slice none 0 0].toList Jg.d := tFinished_mkO (Ya _ _ _ (fun _ => False)) (Ya _ _ _ (fun _ => False)) (Ya _ _ _ (fun _ => False)) (fun b h => h) (fun b h => h) (fun b h => h) (fun b h _ => h) (fun b h _ => h) (fun b h _ => h)
set_option maxHeartbeats 8000000 in
theorem markFinishedS_S (v : Value) (xs : List ((Int × Int × List (Int × Int × Int) × List Int) × Int × Int × List (Int × List Int))) (F : Nat → Prop) (k : Int) (w : World) (h : Kp 59 Jg w F v xs) (hs : zL Jg xs ≤ 1048576) (k0 : 0 ≤ k) (k1 : k ≤ 939524096) :
  Calls Tryz.prog 86 #[v, .int .i64 k] w fun e w' => e = .returned (.int .i64 (k + (Jq Jg xs : Int))) ∧ Kp 59 Jg w' F v (Vo Jg xs k) ∧ Kb F w w' := by
 rw [← Us]
 have HS := zh hs
 have hlen := Jz hs
 rcases Xi h with ⟨rfl, rfl⟩ | ⟨g, cap, rfl, hFg, hgw⟩
 ·
  have H := zh h
  clear h hs
  go_enter Tryz.func86, Tryz.ntmps86
  go_wp2
  go_loop [1, 5] (fun m i => i = .int .i64 0 ∧ m = .int .i64 k) (fun _ _ => 0)
  case atStart => exact ⟨rfl, rfl⟩
  case round =>
   obtain ⟨rfl, rfl⟩ := hrel
   go_wp2
   go_ret
   exact ⟨by simp [Ei, sumN], by rw [show Vo Jg [] k = [] from rfl]; exact H.out, Kb.refl _ _⟩
 ·
  have H := zh h
  clear h hs
  go_enter Tryz.func86, Tryz.ntmps86
  go_wp2
  go_loopw [1, 5] (fun m i wr => ∃ j : Nat, j ≤ xs.length ∧ i = .int .i64 j ∧ m = .int .i64 (Ei Jg xs k j) ∧ Kp 59 Jg wr (fun b => F b ∧ b < w.heap.size) (.slice (some ⟨g, 0, none⟩) xs.length cap) (mTo Jg xs k j) ∧ Kb F w wr) (fun _ i _ => xs.length - (intOf i).toNat)
  case atStart => exact ⟨0, Ij _, rfl, by rw [Xr], by rw [mTo_zero]; exact Kn Jn H.out, Kb.refl _ _⟩
  case round =>
   obtain ⟨j, hj, rfl, rfl, hown, hon⟩ := hrel
   by_cases hlt : j < xs.length
   ·
    have i1 : (0 : Int) ≤ (j : Int) := by omega
    have i2 : (j : Int) < (xs.length : Int) := by omega
    have hjl : j < (mTo Jg xs k j).length := by rw [Ur hj]; exact hlt
    have HLL := zh (Ur (T := Jg) (k := k) hj)
    obtain ⟨r1, r2⟩ := Vb Jn (by decide) (k := k) HS.out hj
    obtain ⟨r3, r4⟩ := Vb Jn (by decide) (k := k) (j := j + 1) HS.out (by omega)
    have hzx := Vj HS.out hlt
    have hstep := Xs (T := Jg) (k := k) hlt
    have hset := mTo_step (T := Jg) (k := k) hlt
    have hsz := hon.size
    obtain ⟨hme, hFg2, hgl, cj, Fj, Lc, hrow, hLc, hO, hFj, hput⟩ := Eb Jn hown hjl
    clear hme hFg2
    rw [mTo_at hlt] at hO
    have HM : Hid (∃ m', Ei Jg xs k (j + 1) = m') := zh ⟨_, rfl⟩
    obtain ⟨m', hm'⟩ := HM.out
    rw [hm'] at hstep r3 r4
    have HM' := zh hm'
    clear hm' HM H hown hjl
    generalize Ei Jg xs k j = m at *
    generalize xs.getD j Jg.d = x at *
    rw [HLL.out] at hrow hput
    obtain ⟨⟨a0, a1, x2, x3⟩, a4, a5, x6⟩ := x
    rw [tFinished_md] at hset
    rw [tFinished_nd] at hstep
    rw [Er] at hzx
    obtain ⟨v2, v3, v6, K2, K3, K6, rfl, o2, o3, o6, q2, q3, q6, d2_3, d2_6, d3_6⟩ := tFinished_O hO
    have S2 := zh (show zL Jk x2 ≤ 1048576 by omega)
    have N2 := Vd Jt (by decide) x2
    have S3 := zh (show zL Je x3 ≤ 1048576 by omega)
    have N3 := Vd Jc (by decide) x3
    have S6 := zh (show zL Ke x6 ≤ 1048576 by omega)
    have N6 := Vd Jw (by decide) x6
    have R2 : Hid (0 ≤ m + 1 + 1 ∧ m + 1 + 1 ≤ 1006632960) := zh (by omega)
    have R3 : Hid (0 ≤ m + 1 + 1 + (Jq Jk x2 : Int) ∧ m + 1 + 1 + (Jq Jk x2 : Int) ≤ 1073741824) := zh (by omega)
    have R6 : Hid (0 ≤ m + 1 + 1 + (Jq Jk x2 : Int) + (Jq Je x3 : Int) + 1 + 1 ∧ m + 1 + 1 + (Jq Jk x2 : Int) + (Jq Je x3 : Int) + 1 + 1 ≤ 1006632960) := zh (by omega)
    have hmx6 : m + 1 + 1 + (Jq Jk x2 : Int) + (Jq Je x3 : Int) + 1 + 1 ≤ 1073741824 := by omega
    have hmm : m + 1 + 1 + (Jq Jk x2 : Int) + (Jq Je x3 : Int) + 1 + 1 + (Jq Ke x6 : Int) = m' := by omega
    have HMM := zh hmm
    have hm0 : 0 ≤ m := by omega
    have hm1 : m ≤ 1073741824 := by omega
    clear hmm hstep hzx N2 N3 N6
    have hLl : Lc.length = xs.length * 7 := hrow.1
    have HSET := zh hset
    clear hset
    have tt : Kb (fun b => b = g ∨ Fj b ∨ wr.heap.size ≤ b) wr wr := Kb.refl _ _
    have rr := hrow
    have c0 : ∃ x, wr.cell? ⟨g, j * 7, none⟩ = some x := ⟨_, (World.ownsRow.cellAt rr (j * 7) (by show j * 7 < xs.length * 7; omega)).trans (Ih (by have h9 := rr.1; have h8 : xs.length * Jg.n = xs.length * 7 := rfl; omega))⟩
    obtain ⟨y0, c0⟩ := c0
    have f0 := World.ownsRow.frozenAt rr (j * 7)
    have c1 : ∃ x, wr.cell? ⟨g, j * 7 + 1, none⟩ = some x := ⟨_, (World.ownsRow.cellAt rr (j * 7 + 1) (by show j * 7 + 1 < xs.length * 7; omega)).trans (Ih (by have h9 := rr.1; have h8 : xs.length * Jg.n = xs.length * 7 := rfl; omega))⟩
    obtain ⟨y1, c1⟩ := c1
    have f1 := World.ownsRow.frozenAt rr (j * 7 + 1)
    have cv2 : wr.cell? ⟨g, j * 7 + 2, none⟩ = some v2 := (World.ownsRow.cellAt rr (j * 7 + 2) (by show j * 7 + 2 < xs.length * 7; omega)).trans (by exact hLc 2 (by decide))
    go_wp2_with fail
    clear c0 f0 c1 f1 cv2
    have ts : Kb (fun b => b = g) wr ((wr.setCell ⟨g, j * 7, none⟩ (.int .i64 (m))).setCell ⟨g, j * 7 + 1, none⟩ (.int .i64 (m + 1))) := (((Kb.refl (fun b => b = g) _).trans (Jm (G := fun b => b = g) (g := g) (j := j * 7) (u := .int .i64 (m)) rfl)).trans (Jm (G := fun b => b = g) (g := g) (j := j * 7 + 1) (u := .int .i64 (m + 1)) rfl))
    replace rr := (World.ownsRow.stored (World.ownsRow.stored rr (j * 7) (.int .i64 (m))).1 (j * 7 + 1) (.int .i64 (m + 1))).1
    replace o2 := Ka Jt o2 ts (fun b h1 h2 => (hFj b (q2 b h1)).2.1 h2)
    replace o3 := Ka Jc o3 ts (fun b h1 h2 => (hFj b (q3 b h1)).2.1 h2)
    replace o6 := Ka Jw o6 ts (fun b h1 h2 => (hFj b (q6 b h1)).2.1 h2)
    replace tt := tt.trans (ts.mono (fun b h => Or.inl h))
    clear ts
    generalize ((wr.setCell ⟨g, j * 7, none⟩ (.int .i64 (m))).setCell ⟨g, j * 7 + 1, none⟩ (.int .i64 (m + 1))) = W0 at *
    refine (markCondS_S v2 x2 _ (m + 1 + 1) W0 o2 S2.out R2.out.1 (by have := R2.out.2; omega)).mono ?_
    rintro e w1 ⟨rfl, m2, t1⟩
    replace rr := Ym rr t1 (fun b hb h => by simp [Value.ownBlock] at hb; exact (hFj b (q2 b h)).2.1 hb.symm)
    replace o2 := m2
    replace o3 := Ka Jc o3 t1 (fun b h1 h2 => d2_3 b h2 h1)
    replace o6 := Ka Jw o6 t1 (fun b h1 h2 => d2_6 b h2 h1)
    replace tt := tt.trans (t1.mono (fun b h => Or.inr (Or.inl (q2 b h))))
    clear t1
    have cv3 : w1.cell? ⟨g, j * 7 + 3, none⟩ = some v3 := (World.ownsRow.cellAt rr (j * 7 + 3) (by show j * 7 + 3 < xs.length * 7; omega)).trans (by rw [Ig (by omega)]; rw [Ig (by omega)]; exact hLc 3 (by decide))
    go_wp2_with fail
    clear cv3
    refine (Uu v3 x3 _ (m + 1 + 1 + (Jq Jk x2 : Int)) w1 o3 S3.out R3.out.1 (by have := R3.out.2; omega)).mono ?_
    rintro e w2 ⟨rfl, m3, t1⟩
    replace rr := Ym rr t1 (fun b hb h => by simp [Value.ownBlock] at hb; exact (hFj b (q3 b h)).2.1 hb.symm)
    replace o2 := Ka Jt o2 t1 (fun b h1 h2 => d2_3 b h1 h2)
    replace o3 := m3
    replace o6 := Ka Jw o6 t1 (fun b h1 h2 => d3_6 b h2 h1)
    replace tt := tt.trans (t1.mono (fun b h => Or.inr (Or.inl (q3 b h))))
    clear t1
    have c4 : ∃ x, w2.cell? ⟨g, j * 7 + 4, none⟩ = some x := ⟨_, (World.ownsRow.cellAt rr (j * 7 + 4) (by show j * 7 + 4 < xs.length * 7; omega)).trans (Ih (by have h9 := rr.1; have h8 : xs.length * Jg.n = xs.length * 7 := rfl; omega))⟩
    obtain ⟨y4, c4⟩ := c4
    have f4 := World.ownsRow.frozenAt rr (j * 7 + 4)
    have c5 : ∃ x, w2.cell? ⟨g, j * 7 + 5, none⟩ = some x := ⟨_, (World.ownsRow.cellAt rr (j * 7 + 5) (by show j * 7 + 5 < xs.length * 7; omega)).trans (Ih (by have h9 := rr.1; have h8 : xs.length * Jg.n = xs.length * 7 := rfl; omega))⟩
    obtain ⟨y5, c5⟩ := c5
    have f5 := World.ownsRow.frozenAt rr (j * 7 + 5)
    have cv6 : w2.cell? ⟨g, j * 7 + 6, none⟩ = some v6 := (World.ownsRow.cellAt rr (j * 7 + 6) (by show j * 7 + 6 < xs.length * 7; omega)).trans (by rw [Ig (by omega)]; rw [Ig (by omega)]; exact hLc 6 (by decide))
    go_wp2_with fail
    clear c4 f4 c5 f5 cv6
    have ts : Kb (fun b => b = g) w2 ((w2.setCell ⟨g, j * 7 + 4, none⟩ (.int .i64 (m + 1 + 1 + (Jq Jk x2 : Int) + (Jq Je x3 : Int)))).setCell ⟨g, j * 7 + 5, none⟩ (.int .i64 (m + 1 + 1 + (Jq Jk x2 : Int) + (Jq Je x3 : Int) + 1))) := (((Kb.refl (fun b => b = g) _).trans (Jm (G := fun b => b = g) (g := g) (j := j * 7 + 4) (u := .int .i64 (m + 1 + 1 + (Jq Jk x2 : Int) + (Jq Je x3 : Int))) rfl)).trans (Jm (G := fun b => b = g) (g := g) (j := j * 7 + 5) (u := .int .i64 (m + 1 + 1 + (Jq Jk x2 : Int) + (Jq Je x3 : Int) + 1)) rfl))
    replace rr := (World.ownsRow.stored (World.ownsRow.stored rr (j * 7 + 4) (.int .i64 (m + 1 + 1 + (Jq Jk x2 : Int) + (Jq Je x3 : Int)))).1 (j * 7 + 5) (.int .i64 (m + 1 + 1 + (Jq Jk x2 : Int) + (Jq Je x3 : Int) + 1))).1
    replace o2 := Ka Jt o2 ts (fun b h1 h2 => (hFj b (q2 b h1)).2.1 h2)
    replace o3 := Ka Jc o3 ts (fun b h1 h2 => (hFj b (q3 b h1)).2.1 h2)
    replace o6 := Ka Jw o6 ts (fun b h1 h2 => (hFj b (q6 b h1)).2.1 h2)
    replace tt := tt.trans (ts.mono (fun b h => Or.inl h))
    clear ts
    generalize ((w2.setCell ⟨g, j * 7 + 4, none⟩ (.int .i64 (m + 1 + 1 + (Jq Jk x2 : Int) + (Jq Je x3 : Int)))).setCell ⟨g, j * 7 + 5, none⟩ (.int .i64 (m + 1 + 1 + (Jq Jk x2 : Int) + (Jq Je x3 : Int) + 1))) = W2 at *
    refine (markRowS_S v6 x6 _ (m + 1 + 1 + (Jq Jk x2 : Int) + (Jq Je x3 : Int) + 1 + 1) W2 o6 S6.out R6.out.1 (by have := R6.out.2; omega)).mono ?_
    rintro e w3 ⟨rfl, m6, t1⟩
    replace rr := Ym rr t1 (fun b hb h => by simp [Value.ownBlock] at hb; exact (hFj b (q6 b h)).2.1 hb.symm)
    replace o2 := Ka Jt o2 t1 (fun b h1 h2 => d2_6 b h1 h2)
    replace o3 := Ka Jc o3 t1 (fun b h1 h2 => d3_6 b h1 h2)
    replace o6 := m6
    replace tt := tt.trans (t1.mono (fun b h => Or.inr (Or.inl (q6 b h))))
    clear t1
    have hO2 := tFinished_mkO (F := Fj) (a0 := m) (a1 := m + 1) (a4 := m + 1 + 1 + (Jq Jk x2 : Int) + (Jq Je x3 : Int)) (a5 := m + 1 + 1 + (Jq Jk x2 : Int) + (Jq Je x3 : Int) + 1) o2 o3 o6 q2 q3 q6 d2_3 d2_6 d3_6
    have hst := hput w3 ((((Lc.set (j * 7) (.int .i64 (m))).set (j * 7 + 1) (.int .i64 (m + 1))).set (j * 7 + 4) (.int .i64 (m + 1 + 1 + (Jq Jk x2 : Int) + (Jq Je x3 : Int)))).set (j * 7 + 5) (.int .i64 (m + 1 + 1 + (Jq Jk x2 : Int) + (Jq Je x3 : Int) + 1))) [.int .i64 (m), .int .i64 (m + 1), v2, v3, .int .i64 (m + 1 + 1 + (Jq Jk x2 : Int) + (Jq Je x3 : Int)), .int .i64 (m + 1 + 1 + (Jq Jk x2 : Int) + (Jq Je x3 : Int) + 1), v6] Fj _ rr (fun p hp => by have hp2 : p < j * 7 ∨ j * 7 + 7 ≤ p := hp; rw [Ig (by omega)]; rw [Ig (by omega)]; rw [Ig (by omega)]; rw [Ig (by omega)]) (fun i hi => by have hi' : i < 7 := hi; match i, hi' with | 0, _ => (show (((((Lc.set (j * 7) (.int .i64 (m))).set (j * 7 + 1) (.int .i64 (m + 1))).set (j * 7 + 4) (.int .i64 (m + 1 + 1 + (Jq Jk x2 : Int) + (Jq Je x3 : Int)))).set (j * 7 + 5) (.int .i64 (m + 1 + 1 + (Jq Jk x2 : Int) + (Jq Je x3 : Int) + 1))))[j * 7]? = _; rw [Ig (by omega)]; rw [Ig (by omega)]; rw [Ig (by omega)]; rw [List.getElem?_set_self (by first | omega | (simp only [List.length_set]; omega))]; rfl) | 1, _ => (show (((((Lc.set (j * 7) (.int .i64 (m))).set (j * 7 + 1) (.int .i64 (m + 1))).set (j * 7 + 4) (.int .i64 (m + 1 + 1 + (Jq Jk x2 : Int) + (Jq Je x3 : Int)))).set (j * 7 + 5) (.int .i64 (m + 1 + 1 + (Jq Jk x2 : Int) + (Jq Je x3 : Int) + 1))))[j * 7 + 1]? = _; rw [Ig (by omega)]; rw [Ig (by omega)]; rw [List.getElem?_set_self (by first | omega | (simp only [List.length_set]; omega))]; rfl) | 2, _ => (show (((((Lc.set (j * 7) (.int .i64 (m))).set (j * 7 + 1) (.int .i64 (m + 1))).set (j * 7 + 4) (.int .i64 (m + 1 + 1 + (Jq Jk x2 : Int) + (Jq Je x3 : Int)))).set (j * 7 + 5) (.int .i64 (m + 1 + 1 + (Jq Jk x2 : Int) + (Jq Je x3 : Int) + 1))))[j * 7 + 2]? = _; rw [Ig (by omega)]; rw [Ig (by omega)]; rw [Ig (by omega)]; rw [Ig (by omega)]; exact hLc 2 (by decide)) | 3, _ => (show (((((Lc.set (j * 7) (.int .i64 (m))).set (j * 7 + 1) (.int .i64 (m + 1))).set (j * 7 + 4) (.int .i64 (m + 1 + 1 + (Jq Jk x2 : Int) + (Jq Je x3 : Int)))).set (j * 7 + 5) (.int .i64 (m + 1 + 1 + (Jq Jk x2 : Int) + (Jq Je x3 : Int) + 1))))[j * 7 + 3]? = _; rw [Ig (by omega)]; rw [Ig (by omega)]; rw [Ig (by omega)]; rw [Ig (by omega)]; exact hLc 3 (by decide)) | 4, _ => (show (((((Lc.set (j * 7) (.int .i64 (m))).set (j * 7 + 1) (.int .i64 (m + 1))).set (j * 7 + 4) (.int .i64 (m + 1 + 1 + (Jq Jk x2 : Int) + (Jq Je x3 : Int)))).set (j * 7 + 5) (.int .i64 (m + 1 + 1 + (Jq Jk x2 : Int) + (Jq Je x3 : Int) + 1))))[j * 7 + 4]? = _; rw [Ig (by omega)]; rw [List.getElem?_set_self (by first | omega | (simp only [List.length_set]; omega))]; rfl) | 5, _ => (show (((((Lc.set (j * 7) (.int .i64 (m))).set (j * 7 + 1) (.int .i64 (m + 1))).set (j * 7 + 4) (.int .i64 (m + 1 + 1 + (Jq Jk x2 : Int) + (Jq Je x3 : Int)))).set (j * 7 + 5) (.int .i64 (m + 1 + 1 + (Jq Jk x2 : Int) + (Jq Je x3 : Int) + 1))))[j * 7 + 5]? = _; rw [List.getElem?_set_self (by first | omega | (simp only [List.length_set]; omega))]; rfl) | 6, _ => (show (((((Lc.set (j * 7) (.int .i64 (m))).set (j * 7 + 1) (.int .i64 (m + 1))).set (j * 7 + 4) (.int .i64 (m + 1 + 1 + (Jq Jk x2 : Int) + (Jq Je x3 : Int)))).set (j * 7 + 5) (.int .i64 (m + 1 + 1 + (Jq Jk x2 : Int) + (Jq Je x3 : Int) + 1))))[j * 7 + 6]? = _; rw [Ig (by omega)]; rw [Ig (by omega)]; rw [Ig (by omega)]; rw [Ig (by omega)]; exact hLc 6 (by decide))) hO2 (fun b hb => ⟨(hFj b hb).1, Or.inl hb⟩) tt
    rw [HSET.out] at hst
    have HST := zh hst
    have hon2 := hon.trans (Kb.mono (G := fun b => F b ∧ b < w.heap.size) (G' := F) ⟨tt.os, tt.tape, tt.output, tt.size, fun b hb hn => tt.block b hb (fun h => hn (h.elim (fun h => by rw [h]; exact ⟨hFg, hgw⟩) (fun h => h.elim (fun h => (hFj b h).1) (fun h => absurd hb (Nat.not_lt.2 h)))))⟩ (fun b h => h.1))
    clear hst hput tt rr hO2 hon hFj hLc hLl o2 o3 o6
    rw [HMM.out]
    go_wp2
    go_roundw
    case rel => exact ⟨j + 1, by omega, by go_num, by rw [HM'.out], HST.out, hon2⟩
    case measure => simp [intOf]; omega
   ·
    obtain rfl : j = xs.length := by omega
    rw [mTo_all] at hown
    go_wp2
    go_ret
    refine ⟨?_, Ky hown (fun b h => h.1), hon⟩
    simp
set_option maxHeartbeats 8000000 in
theorem heldFinishedS_S (v : Value) (xs : List ((Int × Int × List (Int × Int × Int) × List Int) × Int × Int × List (Int × List Int))) (k : Int) (w : World) (h : Ko Jg w v (Vo Jg xs k)) (hs : zL Jg xs ≤ 1048576) (k0 : 0 ≤ k) (k1 : k ≤ 939524096) :
  Calls Tryz.prog 103 #[v, .int .i64 k] w fun e w' => e = .returned (.int .i64 (k + (Jq Jg xs : Int))) ∧ w = w' := by
 rw [← Us]
 have HS := zh hs
 have H := zh h
 have hlen := Jz hs
 obtain ⟨a, cap, rfl⟩ := Jl h
 rw [Vy] at H ⊢
 clear h hs
 go_enter Tryz.func103, Tryz.ntmps103
 go_wp2
 go_loop [1, 5] (fun m i => ∃ j : Nat, j ≤ xs.length ∧ i = .int .i64 j ∧ m = .int .i64 (Ei Jg xs k j)) (fun _ i => xs.length - (intOf i).toNat)
 case atStart => exact ⟨0, Ij _, rfl, by rw [Xr]⟩
 case round =>
  obtain ⟨j, hj, rfl, rfl⟩ := hrel
  by_cases hlt : j < xs.length
  ·
   have i1 : (0 : Int) ≤ (j : Int) := by omega
   have i2 : (j : Int) < (xs.length : Int) := by omega
   obtain ⟨r1, r2⟩ := Vb Jn (by decide) (k := k) HS.out hj
   obtain ⟨r3, r4⟩ := Vb Jn (by decide) (k := k) (j := j + 1) HS.out (by omega)
   have hzx := Vj HS.out hlt
   have hstep := Xs (T := Jg) (k := k) hlt
   obtain ⟨b, off, cap', cs, hv, hbl, hcs, hR⟩ := Ku H.out (k := j) (by rw [Vy]; exact hlt)
   rw [Vy] at hv
   simp only [Ik] at hv
   obtain ⟨rfl, _, rfl⟩ := hv
   rw [mAll_at hlt] at hR
   have HM : Hid (∃ m', Ei Jg xs k (j + 1) = m') := zh ⟨_, rfl⟩
   obtain ⟨m', hm'⟩ := HM.out
   rw [hm'] at hstep r3 r4
   have HM' := zh hm'
   clear hm' HM H
   generalize Ei Jg xs k j = m at *
   generalize xs.getD j Jg.d = x at *
   obtain ⟨⟨a0, a1, x2, x3⟩, a4, a5, x6⟩ := x
   rw [tFinished_md] at hR
   obtain ⟨v2, v3, v6, hR'⟩ := tFinished_R hR
   obtain ⟨rfl, h2, h3, h6⟩ := hR'
   rw [Er] at hzx
   rw [tFinished_nd] at hstep
   have p0 : w.cell? ⟨b, off + j * 7, none⟩ = some (Value.int .i64 (m)) := hcs 0 (by decide)
   have p1 : w.cell? ⟨b, off + j * 7 + 1, none⟩ = some (Value.int .i64 (m + 1)) := hcs 1 (by decide)
   have p2 : w.cell? ⟨b, off + j * 7 + 2, none⟩ = some (v2) := hcs 2 (by decide)
   have p3 : w.cell? ⟨b, off + j * 7 + 3, none⟩ = some (v3) := hcs 3 (by decide)
   have p4 : w.cell? ⟨b, off + j * 7 + 4, none⟩ = some (Value.int .i64 (m + 1 + 1 + (Jq Jk x2 : Int) + (Jq Je x3 : Int))) := hcs 4 (by decide)
   have p5 : w.cell? ⟨b, off + j * 7 + 5, none⟩ = some (Value.int .i64 (m + 1 + 1 + (Jq Jk x2 : Int) + (Jq Je x3 : Int) + 1)) := hcs 5 (by decide)
   have p6 : w.cell? ⟨b, off + j * 7 + 6, none⟩ = some (v6) := hcs 6 (by decide)
   have S2 := zh (show zL Jk x2 ≤ 1048576 by omega)
   have N2 := Vd Jt (by decide) x2
   have S3 := zh (show zL Je x3 ≤ 1048576 by omega)
   have N3 := Vd Jc (by decide) x3
   have S6 := zh (show zL Ke x6 ≤ 1048576 by omega)
   have N6 := Vd Jw (by decide) x6
   have R2 : Hid (0 ≤ m + 1 + 1 ∧ m + 1 + 1 ≤ 1006632960) := zh (by omega)
   have A2 := zh h2
   have R3 : Hid (0 ≤ m + 1 + 1 + (Jq Jk x2 : Int) ∧ m + 1 + 1 + (Jq Jk x2 : Int) ≤ 1073741824) := zh (by omega)
   have A3 := zh h3
   have R6 : Hid (0 ≤ m + 1 + 1 + (Jq Jk x2 : Int) + (Jq Je x3 : Int) + 1 + 1 ∧ m + 1 + 1 + (Jq Jk x2 : Int) + (Jq Je x3 : Int) + 1 + 1 ≤ 1006632960) := zh (by omega)
   have A6 := zh h6
   have ng2 : ¬ m + 1 + 1 + (Jq Jk x2 : Int) < 0 := by omega
   have ng3 : ¬ m + 1 + 1 + (Jq Jk x2 : Int) + (Jq Je x3 : Int) < 0 := by omega
   have ng6 : ¬ m + 1 + 1 + (Jq Jk x2 : Int) + (Jq Je x3 : Int) + 1 + 1 + (Jq Ke x6 : Int) < 0 := by omega
   have eq0 : ((m : Int) != m) = false := by simp
   have eq1 : ((m + 1 : Int) != m + 1) = false := by simp
   have eq4 : ((m + 1 + 1 + (Jq Jk x2 : Int) + (Jq Je x3 : Int) : Int) != m + 1 + 1 + (Jq Jk x2 : Int) + (Jq Je x3 : Int)) = false := by simp
   have eq5 : ((m + 1 + 1 + (Jq Jk x2 : Int) + (Jq Je x3 : Int) + 1 : Int) != m + 1 + 1 + (Jq Jk x2 : Int) + (Jq Je x3 : Int) + 1) = false := by simp
   have hmx6 : m + 1 + 1 + (Jq Jk x2 : Int) + (Jq Je x3 : Int) + 1 + 1 ≤ 1073741824 := by omega
   have hmm : m + 1 + 1 + (Jq Jk x2 : Int) + (Jq Je x3 : Int) + 1 + 1 + (Jq Ke x6 : Int) = m' := by omega
   have HMM := zh hmm
   have hm0 : 0 ≤ m := by omega
   have hm1 : m ≤ 1073741824 := by omega
   clear hmm hstep hcs hzx N2 h2 N3 h3 N6 h6
   go_wp2_with fail
   refine (heldCondS_S v2 x2 (m + 1 + 1) _ A2.out S2.out R2.out.1 (by have := R2.out.2; omega)).mono ?_
   rintro e w2 ⟨rfl, rfl⟩
   go_wp2_with fail
   refine (Um v3 x3 (m + 1 + 1 + (Jq Jk x2 : Int)) _ A3.out S3.out R3.out.1 (by have := R3.out.2; omega)).mono ?_
   rintro e w2 ⟨rfl, rfl⟩
   go_wp2_with fail
   refine (heldRowS_S v6 x6 (m + 1 + 1 + (Jq Jk x2 : Int) + (Jq Je x3 : Int) + 1 + 1) _ A6.out S6.out R6.out.1 (by have := R6.out.2; omega)).mono ?_
   rintro e w2 ⟨rfl, rfl⟩
   rw [HMM.out]
   clear ng6
   have hnn : ¬ m' < 0 := by omega
   go_wp2
   go_round
   case rel => exact ⟨j + 1, by omega, by go_num, by rw [HM'.out]⟩
   case measure => simp [intOf]; omega
  ·
   obtain rfl : j = xs.length := by omega
   go_wp2
   go_ret
   exact ⟨rfl, rfl⟩
end Go.Proofs.YtnepfacnmaoieaaGreatDoor
