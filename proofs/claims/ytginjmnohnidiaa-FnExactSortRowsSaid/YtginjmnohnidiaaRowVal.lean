/-
  Rows: a number and a list of numbers. A row by value, and the helpers of the laws on one row.
-/
import Derived.Test.YtginjmnohnidiaaLawInts
import Derived.Deep.RegionHeld3
import Derived.IntWalk
namespace Go.Proofs.Ytginjmnohnidiaa
open Go.RowKit
set_option linter.unusedVariables false
/-- A row: its number and its values. -/
abbrev RowD := Int × List Int
/-- The value of a row whose values lie in vv. -/
def rowVal (r : RowD) (vv : Value) : Value := .agg #[.int .i64 r.1, vv]
/-- The value v reads as the row r. -/
def RowV (w : World) (v : Value) (r : RowD) : Prop := ∃ vv, v = .agg #[.int .i64 r.1, vv] ∧ Ints w vv r.2
theorem rowV_below {W w : World} {v : Value} {r : RowD} (h : RowV W v r) (hb : Below W.heap.size W w) : RowV w v r := by
  obtain ⟨vv, e, hi⟩ := h
  exact ⟨vv, e, ints_below hi hb⟩
/-- A row in new memory is answered. -/
def FreshRow (w : World) (r : RowD) (e : Ending) (w' : World) : Prop := ∃ vv, e = .returned (.agg #[.int .i64 r.1, vv]) ∧ OwnsN w' w.heap.size vv r.2 ∧ Below w.heap.size w w'
theorem szInt_yes (a : Option Addr) (cap n : Nat) (k : Int) (w : World) (h : (n : Int) ≤ k) (hk : k ≤ 1048576) :
    Calls Try.prog 58 #[.slice a n cap, .int .i64 k] w fun e w' => e = .returned (.int .i64 (k - (n : Int))) ∧ w' = w := by
  have h0 : ¬ k - (n : Int) < 0 := by omega
  go_enter Try.func58, Try.ntmps58
  go_wp2
  go_ret
  exact ⟨rfl, rfl⟩
theorem szInt_no (a : Option Addr) (cap n : Nat) (k : Int) (w : World) (h : k < (n : Int)) (hk : 0 ≤ k) (hn : (n : Int) ≤ 9223372036854775807) :
    Calls Try.prog 58 #[.slice a n cap, .int .i64 k] w fun e w' => e = .returned (.int .i64 (-1)) ∧ w' = w := by
  have h0 : k - (n : Int) < 0 := by omega
  go_enter Try.func58, Try.ntmps58
  go_wp2
  go_ret
  exact ⟨rfl, rfl⟩
set_option maxRecDepth 100000 in
theorem szRow_yes (id : Int) (a : Option Addr) (cap n : Nat) (k : Int) (w : World) (h : (n : Int) ≤ k) (hk : k ≤ 1048576) :
    Calls Try.prog 47 #[.agg #[.int .i64 id, .slice a n cap], .int .i64 k] w fun e w' => e = .returned (.int .i64 (k - (n : Int))) ∧ Below w.heap.size w w' := by
  have H := Lib.hid (fun w => szInt_yes a cap n k w h hk)
  have h0 : ¬ k - (n : Int) < 0 := by omega
  go_enter Try.func47, Try.ntmps47
  go_wp2_with fail
  refine (H.out _).mono ?_
  rintro e w1 ⟨rfl, rfl⟩
  go_wp2
  go_ret
  exact ⟨rfl, (Below.refl _ _).alloc (Nat.le_refl _) _⟩
set_option maxRecDepth 100000 in
theorem szRow_no (id : Int) (a : Option Addr) (cap n : Nat) (k : Int) (w : World) (h : k < (n : Int)) (hk : 0 ≤ k) (hn : (n : Int) ≤ 9223372036854775807) :
    Calls Try.prog 47 #[.agg #[.int .i64 id, .slice a n cap], .int .i64 k] w fun e w' => e = .returned (.int .i64 (-1)) ∧ Below w.heap.size w w' := by
  have H := Lib.hid (fun w => szInt_no a cap n k w h hk hn)
  clear h hk hn
  go_enter Try.func47, Try.ntmps47
  go_wp2_with fail
  refine (H.out _).mono ?_
  rintro e w1 ⟨rfl, rfl⟩
  go_wp2
  go_ret
  exact ⟨rfl, (Below.refl _ _).alloc (Nat.le_refl _) _⟩
theorem grow_set (w : World) (c j : Nat) (u : Value) : w.grownBy (w.setCell ⟨c, j, none⟩ u) (some c) :=
  ⟨rfl, rfl, rfl, by simp [World.setCell], fun k _ hk => heap_setCell_other w ⟨c, j, none⟩ k u (fun e => hk (by simp [e]))⟩
/-- A store into a block below what is owned. -/
theorem ownsN_low {w : World} {C : Nat} {v : Value} {xs : List Int} (h : OwnsN w C v xs) {b : Nat} (hb : b < C) (j : Nat) (u : Value) : OwnsN (w.setCell ⟨b, j, none⟩ u) C v xs := by
  refine h.kept (grow_set w b j u) ?_
  cases hv : v.ownBlock with
  | none => exact Or.inl rfl
  | some k => exact Or.inr (by intro e; have := (h.lt k hv).1; simp at e; omega)
theorem ownsN_up {w : World} {B C : Nat} {v : Value} {xs : List Int} (h : OwnsN w C v xs) (hb : B ≤ C) : OwnsN w B v xs := by
  refine ⟨h.1, ?_⟩
  rcases h.2 with hn | ⟨g, cap, cur, e, hb', rest⟩
  · exact .inl hn
  · exact .inr ⟨g, cap, cur, e, Nat.le_trans hb hb', rest⟩
set_option maxHeartbeats 2000000 in
set_option maxRecDepth 100000 in
theorem toRow_any (id : Int) (vv : Value) (xs : List Int) (w : World) (h : Ints w vv xs) (hn : xs.length ≤ 1048576) :
    Calls Try.prog 50 #[.agg #[.int .i64 id, vv]] w (FreshRow w (id, xs)) := by
  have H := Lib.hid h
  have HN := Lib.hid hn
  clear h hn
  go_enter Try.func50, Try.ntmps50
  go_wp2_with fail
  have hh : Below w.heap.size w (((w.alloc (.cells #[.int .i64 id, vv] 74)).alloc (.cells #[.int .i64 0, .slice none 0 0] 76)).alloc (.cells #[.int .i64 id, .slice none 0 0] 76)) := (((Below.refl _ w).alloc (Nat.le_refl _) _).alloc (by simp) _).alloc (by simp; omega) _
  have g2 : (((w.alloc (.cells #[.int .i64 id, vv] 74)).alloc (.cells #[.int .i64 0, .slice none 0 0] 76)).alloc (.cells #[.int .i64 id, .slice none 0 0] 76)).heap[w.heap.size + 1 + 1]? = some (.cells #[.int .i64 id, .slice none 0 0] 76 (0, 0)) := by
    have := heap_alloc_new ((w.alloc (.cells #[.int .i64 id, vv] 74)).alloc (.cells #[.int .i64 0, .slice none 0 0] 76)) (.cells #[.int .i64 id, .slice none 0 0] 76)
    simpa only [World.size_alloc] using this
  have g1 : (((w.alloc (.cells #[.int .i64 id, vv] 74)).alloc (.cells #[.int .i64 0, .slice none 0 0] 76)).alloc (.cells #[.int .i64 id, .slice none 0 0] 76)).heap[w.heap.size + 1]? = some (.cells #[.int .i64 0, .slice none 0 0] 76 (0, 0)) := by
    have := heap_alloc_new (w.alloc (.cells #[.int .i64 id, vv] 74)) (.cells #[.int .i64 0, .slice none 0 0] 76)
    rw [Below.heap_alloc _ _ _ (by simp)]
    simpa only [World.size_alloc] using this
  have hs : (((w.alloc (.cells #[.int .i64 id, vv] 74)).alloc (.cells #[.int .i64 0, .slice none 0 0] 76)).alloc (.cells #[.int .i64 id, .slice none 0 0] 76)).heap.size = w.heap.size + 3 := by simp [World.size_alloc]
  generalize ((w.alloc (.cells #[.int .i64 id, vv] 74)).alloc (.cells #[.int .i64 0, .slice none 0 0] 76)).alloc (.cells #[.int .i64 id, .slice none 0 0] 76) = W at *
  refine (toIntS_any vv xs W (ints_below H.out hh) HN.out).mono ?_
  rintro e w1 ⟨u, rfl, o1, b1⟩
  obtain ⟨ua, ucap, rfl⟩ := ints_len (ownsN_ints o1)
  have k2 := (b1.block (w.heap.size + 1 + 1) (by omega)).trans g2
  have k1 := (b1.block (w.heap.size + 1) (by omega)).trans g1
  have B1 := hh.trans (b1.mono (by omega))
  clear g1 g2 hh b1
  have c20 := cell_of_row w1 _ 0 _ _ _ k2
  have c21 := cell_of_row w1 _ 1 _ _ _ k2
  have f21 := frozen_of_row w1 _ 1 _ _ k2
  have c10 := cell_of_row w1 _ 0 _ _ _ k1
  have c11 := cell_of_row w1 _ 1 _ _ _ k1
  have f10 := frozen_of_row w1 _ 0 _ _ k1
  have f11 := frozen_of_row w1 _ 1 _ _ k1
  simp at c20 c21 c10 c11
  go_wp2
  have m2 := heap_setCell_other w1 ⟨w.heap.size + 1 + 1, 1, none⟩ (w.heap.size + 1) (.slice ua xs.length ucap) (by simp)
  have r1 := heap_setCell_same (w1.setCell ⟨w.heap.size + 1 + 1, 1, none⟩ (.slice ua xs.length ucap)) (w.heap.size + 1) 0 _ _ (.int .i64 id) (m2.trans k1)
  have r2 := heap_setCell_same _ (w.heap.size + 1) 1 _ _ (.slice ua xs.length ucap) r1
  have o2 := ownsN_low (ownsN_low (ownsN_low o1 (b := w.heap.size + 1 + 1) (by omega) 1 (.slice ua xs.length ucap)) (b := w.heap.size + 1) (by omega) 0 (.int .i64 id)) (b := w.heap.size + 1) (by omega) 1 (.slice ua xs.length ucap)
  have B2 := ((B1.setCell (p := ⟨w.heap.size + 1 + 1, 1, none⟩) (by simp; omega) (.slice ua xs.length ucap)).setCell (p := ⟨w.heap.size + 1, 0, none⟩) (by simp) (.int .i64 id)).setCell (p := ⟨w.heap.size + 1, 1, none⟩) (by simp) (.slice ua xs.length ucap)
  have e0 := cell_of_row _ _ 0 _ _ _ r2
  have e1 := cell_of_row _ _ 1 _ _ _ r2
  simp at e0 e1
  clear m2 r1 r2 k1 k2 c20 c21 c10 c11 f21 f10 f11
  generalize ((w1.setCell ⟨w.heap.size + 1 + 1, 1, none⟩ (.slice ua xs.length ucap)).setCell ⟨w.heap.size + 1, 0, none⟩ (.int .i64 id)).setCell ⟨w.heap.size + 1, 1, none⟩ (.slice ua xs.length ucap) = W5 at *
  refine bodyPost_ret (v := .agg #[.int .i64 id, .slice ua xs.length ucap]) ?_ rfl ?_
  · simp [results, Try.f50, go_sem, e0, e1]
  · exact ⟨_, rfl, ownsN_up o2 (by omega), B2⟩
end Go.Proofs.Ytginjmnohnidiaa
