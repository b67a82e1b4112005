/-
  Rows: a number and a list of numbers. A row by value, and the helpers of the laws on one row.
-/
import Derived.Test.YteelgogfpidcdabDoorLawInts
import Derived.Deep.RegionHeld3
import Derived.IntWalk
namespace Go.Proofs.YteelgogfpidcdabDoor
open Go.RowKit
set_option linter.unusedVariables false
/-- A row: its number and its values. -/
abbrev RowD := Int × List Int
/-- The value of a row whose values lie in vv. -/
def rowVal (r : RowD) (vv : Value) : Value := .agg #[.int .i64 r.1, vv]
/-- The value v reads as the row r. -/
def RowV (w : World) (v : Value) (r : RowD) : Prop := ∃ vv, v = .agg #[.int .i64 r.1, vv] ∧ Ints w vv r.2
theorem rowV_below {W w : World} {v : Value} {r : RowD} (h : RowV W v r) (hb : Below W.heap.size W w) : RowV w v r := by
  obtain ⟨vv, e, hi⟩ := h
  exact ⟨vv, e, ints_below hi hb⟩
/-- A row in new memory is answered. -/
def FreshRow (w : World) (r : RowD) (e : Ending) (w' : World) : Prop := ∃ vv, e = .returned (.agg #[.int .i64 r.1, vv]) ∧ OwnsN w' w.heap.size vv r.2 ∧ Below w.heap.size w w'
theorem szInt_yes (a : Option Addr) (cap n : Nat) (k : Int) (w : World) (h : (n : Int) ≤ k) (hk : k ≤ 1048576) :
    Calls Tryd.prog 19 #[.slice a n cap, .int .i64 k] w fun e w' => e = .returned (.int .i64 (k - (n : Int))) ∧ w' = w := by
  have h0 : ¬ k - (n : Int) < 0 := by omega
  go_enter Tryd.func19, Tryd.ntmps19
  go_wp2
  go_ret
  exact ⟨rfl, rfl⟩
theorem szInt_no (a : Option Addr) (cap n : Nat) (k : Int) (w : World) (h : k < (n : Int)) (hk : 0 ≤ k) (hn : (n : Int) ≤ 9223372036854775807) :
    Calls Tryd.prog 19 #[.slice a n cap, .int .i64 k] w fun e w' => e = .returned (.int .i64 (-1)) ∧ w' = w := by
  have h0 : k - (n : Int) < 0 := by omega
  go_enter Tryd.func19, Tryd.ntmps19
  go_wp2
  go_ret
  exact ⟨rfl, rfl⟩
theorem grow_set (w : World) (c j : Nat) (u : Value) : w.grownBy (w.setCell ⟨c, j, none⟩ u) (some c) :=
  ⟨rfl, rfl, rfl, by simp [World.setCell], fun k _ hk => heap_setCell_other w ⟨c, j, none⟩ k u (fun e => hk (by simp [e]))⟩
/-- A store into a block below what is owned. -/
theorem ownsN_low {w : World} {C : Nat} {v : Value} {xs : List Int} (h : OwnsN w C v xs) {b : Nat} (hb : b < C) (j : Nat) (u : Value) : OwnsN (w.setCell ⟨b, j, none⟩ u) C v xs := by
  refine h.kept (grow_set w b j u) ?_
  cases hv : v.ownBlock with
  | none => exact Or.inl rfl
  | some k => exact Or.inr (by intro e; have := (h.lt k hv).1; simp at e; omega)
theorem ownsN_up {w : World} {B C : Nat} {v : Value} {xs : List Int} (h : OwnsN w C v xs) (hb : B ≤ C) : OwnsN w B v xs := by
  refine ⟨h.1, ?_⟩
  rcases h.2 with hn | ⟨g, cap, cur, e, hb', rest⟩
  · exact .inl hn
  · exact .inr ⟨g, cap, cur, e, Nat.le_trans hb hb', rest⟩
end Go.Proofs.YteelgogfpidcdabDoor
