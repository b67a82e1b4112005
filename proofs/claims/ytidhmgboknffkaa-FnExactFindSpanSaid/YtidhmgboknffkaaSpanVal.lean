/-
  Spans: from, to, and a set of numbers. A span by value, and the helpers of the laws on one span.
-/
import Derived.Test.YtidhmgboknffkaaRowVal
namespace Go.Proofs.Ytidhmgboknffkaa
open Go.RowKit
set_option linter.unusedVariables false
/-- A span: from, to, and its set. -/
abbrev SpanD := Int × Int × List Int
abbrev p0D : SpanD := (0, 0, [])
/-- A span in new memory is answered. -/
def FreshSpan (w : World) (r : SpanD) (e : Ending) (w' : World) : Prop := ∃ vv, e = .returned (.agg #[.int .i64 r.1, .int .i64 r.2.1, vv]) ∧ OwnsN w' w.heap.size vv r.2.2 ∧ Below w.heap.size w w'
set_option maxRecDepth 100000 in
theorem szSpan_yes (f t : Int) (a : Option Addr) (cap n : Nat) (k : Int) (w : World) (h : (n : Int) ≤ k) (hk : k ≤ 1048576) :
    Calls Try.prog 78 #[.agg #[.int .i64 f, .int .i64 t, .slice a n cap], .int .i64 k] w fun e w' => e = .returned (.int .i64 (k - (n : Int))) ∧ Below w.heap.size w w' := by
  have H := Lib.hid (fun w => szInt_yes a cap n k w h hk)
  have h0 : ¬ k - (n : Int) < 0 := by omega
  go_enter Try.func78, Try.ntmps78
  go_wp2_with fail
  refine (H.out _).mono ?_
  rintro e w1 ⟨rfl, rfl⟩
  go_wp2
  go_ret
  exact ⟨rfl, (Below.refl _ _).alloc (Nat.le_refl _) _⟩
set_option maxRecDepth 100000 in
theorem szSpan_no (f t : Int) (a : Option Addr) (cap n : Nat) (k : Int) (w : World) (h : k < (n : Int)) (hk : 0 ≤ k) (hn : (n : Int) ≤ 9223372036854775807) :
    Calls Try.prog 78 #[.agg #[.int .i64 f, .int .i64 t, .slice a n cap], .int .i64 k] w fun e w' => e = .returned (.int .i64 (-1)) ∧ Below w.heap.size w w' := by
  have H := Lib.hid (fun w => szInt_no a cap n k w h hk hn)
  clear h hk hn
  go_enter Try.func78, Try.ntmps78
  go_wp2_with fail
  refine (H.out _).mono ?_
  rintro e w1 ⟨rfl, rfl⟩
  go_wp2
  go_ret
  exact ⟨rfl, (Below.refl _ _).alloc (Nat.le_refl _) _⟩
set_option maxHeartbeats 2000000 in
set_option maxRecDepth 100000 in
theorem toSpan_any (f t : Int) (vv : Value) (xs : List Int) (w : World) (h : Ints w vv xs) (hn : xs.length ≤ 1048576) :
    Calls Try.prog 79 #[.agg #[.int .i64 f, .int .i64 t, vv]] w (FreshSpan w (f, t, xs)) := by
  have H := Lib.hid h
  have HN := Lib.hid hn
  clear h hn
  go_enter Try.func79, Try.ntmps79
  go_wp2_with fail
  have hh : Below w.heap.size w (((w.alloc (.cells #[.int .i64 f, .int .i64 t, vv] 103)).alloc (.cells #[.int .i64 0, .int .i64 0, .slice none 0 0] 100)).alloc (.cells #[.int .i64 f, .int .i64 t, .slice none 0 0] 100)) := (((Below.refl _ w).alloc (Nat.le_refl _) _).alloc (by simp) _).alloc (by simp; omega) _
  have g2 : (((w.alloc (.cells #[.int .i64 f, .int .i64 t, vv] 103)).alloc (.cells #[.int .i64 0, .int .i64 0, .slice none 0 0] 100)).alloc (.cells #[.int .i64 f, .int .i64 t, .slice none 0 0] 100)).heap[w.heap.size + 1 + 1]? = some (.cells #[.int .i64 f, .int .i64 t, .slice none 0 0] 100 (0, 0)) := by
    have := heap_alloc_new ((w.alloc (.cells #[.int .i64 f, .int .i64 t, vv] 103)).alloc (.cells #[.int .i64 0, .int .i64 0, .slice none 0 0] 100)) (.cells #[.int .i64 f, .int .i64 t, .slice none 0 0] 100)
    simpa only [World.size_alloc] using this
  have g1 : (((w.alloc (.cells #[.int .i64 f, .int .i64 t, vv] 103)).alloc (.cells #[.int .i64 0, .int .i64 0, .slice none 0 0] 100)).alloc (.cells #[.int .i64 f, .int .i64 t, .slice none 0 0] 100)).heap[w.heap.size + 1]? = some (.cells #[.int .i64 0, .int .i64 0, .slice none 0 0] 100 (0, 0)) := by
    have := heap_alloc_new (w.alloc (.cells #[.int .i64 f, .int .i64 t, vv] 103)) (.cells #[.int .i64 0, .int .i64 0, .slice none 0 0] 100)
    rw [Below.heap_alloc _ _ _ (by simp)]
    simpa only [World.size_alloc] using this
  have hs : (((w.alloc (.cells #[.int .i64 f, .int .i64 t, vv] 103)).alloc (.cells #[.int .i64 0, .int .i64 0, .slice none 0 0] 100)).alloc (.cells #[.int .i64 f, .int .i64 t, .slice none 0 0] 100)).heap.size = w.heap.size + 3 := by simp [World.size_alloc]
  generalize ((w.alloc (.cells #[.int .i64 f, .int .i64 t, vv] 103)).alloc (.cells #[.int .i64 0, .int .i64 0, .slice none 0 0] 100)).alloc (.cells #[.int .i64 f, .int .i64 t, .slice none 0 0] 100) = W at *
  refine (toIntS_any vv xs W (ints_below H.out hh) HN.out).mono ?_
  rintro e w1 ⟨u, rfl, o1, b1⟩
  obtain ⟨ua, ucap, rfl⟩ := ints_len (ownsN_ints o1)
  have k2 := (b1.block (w.heap.size + 1 + 1) (by omega)).trans g2
  have k1 := (b1.block (w.heap.size + 1) (by omega)).trans g1
  have B1 := hh.trans (b1.mono (by omega))
  clear g1 g2 hh b1
  have c20 := (cell_of_row w1 _ 0 _ _ _ k2).trans (show _ = some (Value.int .i64 f) from rfl)
  have c21 := (cell_of_row w1 _ 1 _ _ _ k2).trans (show _ = some (Value.int .i64 t) from rfl)
  have c22 := (cell_of_row w1 _ 2 _ _ _ k2).trans (show _ = some (Value.slice none 0 0) from rfl)
  have f22 := frozen_of_row w1 _ 2 _ _ k2
  have c10 := (cell_of_row w1 _ 0 _ _ _ k1).trans (show _ = some (Value.int .i64 0) from rfl)
  have c11 := (cell_of_row w1 _ 1 _ _ _ k1).trans (show _ = some (Value.int .i64 0) from rfl)
  have c12 := (cell_of_row w1 _ 2 _ _ _ k1).trans (show _ = some (Value.slice none 0 0) from rfl)
  have f10 := frozen_of_row w1 _ 0 _ _ k1
  have f11 := frozen_of_row w1 _ 1 _ _ k1
  have f12 := frozen_of_row w1 _ 2 _ _ k1
  go_wp2
  have m2 := (heap_setCell_other w1 ⟨w.heap.size + 1 + 1, 2, none⟩ (w.heap.size + 1) (.slice ua xs.length ucap) (by simp)).trans k1
  have r0 := heap_setCell_same _ (w.heap.size + 1) 0 _ _ (.int .i64 f) m2
  have r1 := heap_setCell_same _ (w.heap.size + 1) 1 _ _ (.int .i64 t) r0
  have r2 := heap_setCell_same _ (w.heap.size + 1) 2 _ _ (.slice ua xs.length ucap) r1
  have o2 := ownsN_low (ownsN_low (ownsN_low (ownsN_low o1 (b := w.heap.size + 1 + 1) (by omega) 2 (.slice ua xs.length ucap)) (b := w.heap.size + 1) (by omega) 0 (.int .i64 f)) (b := w.heap.size + 1) (by omega) 1 (.int .i64 t)) (b := w.heap.size + 1) (by omega) 2 (.slice ua xs.length ucap)
  have B2 := (((B1.setCell (p := ⟨w.heap.size + 1 + 1, 2, none⟩) (by simp; omega) (.slice ua xs.length ucap)).setCell (p := ⟨w.heap.size + 1, 0, none⟩) (by simp) (.int .i64 f)).setCell (p := ⟨w.heap.size + 1, 1, none⟩) (by simp) (.int .i64 t)).setCell (p := ⟨w.heap.size + 1, 2, none⟩) (by simp) (.slice ua xs.length ucap)
  have e0 := cell_of_row _ _ 0 _ _ _ r2
  have e1 := cell_of_row _ _ 1 _ _ _ r2
  have e2 := cell_of_row _ _ 2 _ _ _ r2
  simp at e0 e1 e2
  refine bodyPost_ret (v := .agg #[.int .i64 f, .int .i64 t, .slice ua xs.length ucap]) ?_ rfl ?_
  · simp [results, Try.f79, go_sem, e0, e1, e2]
  · exact ⟨_, rfl, ownsN_up o2 (by omega), B2⟩
end Go.Proofs.Ytidhmgboknffkaa
