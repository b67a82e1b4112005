/-
  The walk of the exact law of FormatRow: if the program's function answers what the specification's does, the law returns true.
-/
import Derived.Test.YtjmiihgaaagojaaDoorRowFmt
namespace Go.Proofs.YtjmiihgaaagojaaDoor
open Go.RowKit
set_option linter.unusedVariables false
set_option linter.unusedSimpArgs false
set_option maxHeartbeats 4000000 in
set_option maxRecDepth 100000 in
theorem law_fnExactFormatRow (id : Int) (vv : Value) (xs : List Int) (w : World) (h : Ints w vv xs) (hs : (xs.length : Int) ≤ 9223372036854775807) (htab : Tab w)
    (himpl : ∀ (vv : Value) (w : World), Ints w vv xs → xs.length ≤ 1048576 → Tab w → Calls Tryd.prog 8 #[.agg #[.int .i64 id, vv]] w fun e w' => e = .returned (.string (strB (fmtRow (id, xs)))) ∧ Below w.heap.size w w') :
    Calls Tryd.prog 3 #[.agg #[.int .i64 id, vv]] w fun e w' => e = .returned (.bool true) ∧ Below w.heap.size w w' := by
  have H := Lib.hid h
  have HT := Lib.hid htab
  clear htab
  obtain ⟨a, cap, rfl⟩ := ints_len h
  clear h
  by_cases hl : xs.length ≤ 1048576
  · have HN := Lib.hid hl
    have HS := Lib.hid (fun v w h => specFormatRow id v xs w h hl)
    have HI := Lib.hid himpl
    have HZ := Lib.hid (fun w => szRow_yes id a cap xs.length 1048576 w (by omega) (by omega))
    have hl2 : (xs.length : Int) ≤ 1048576 := by omega
    have hneg : ¬ 1048576 - (xs.length : Int) < 0 := by omega
    clear hl hs himpl
    generalize strB (fmtRow (id, xs)) = r at *
    go_enter Tryd.func3, Tryd.ntmps3
    go_wp2_with fail
    have hb0 : Below w.heap.size w (w.alloc (.cells #[.int .i64 id, .slice a xs.length cap] 24)) := (Below.refl _ w).alloc (Nat.le_refl _) _
    have g0 : (w.alloc (.cells #[.int .i64 id, .slice a xs.length cap] 24)).heap[w.heap.size]? = some (.cells #[.int .i64 id, .slice a xs.length cap] 24 (0, 0)) := heap_alloc_new w _
    have hs0 : (w.alloc (.cells #[.int .i64 id, .slice a xs.length cap] 24)).heap.size = w.heap.size + 1 := by simp [World.size_alloc]
    have H0 := Lib.hid (ints_below H.out hb0)
    generalize w.alloc (.cells #[.int .i64 id, .slice a xs.length cap] 24) = W at *
    refine (HZ.out _).mono ?_
    rintro e w1 ⟨rfl, b1⟩
    obtain ⟨p0, p1⟩ := box_cells g0 b1
    go_wp2_with fail
    refine (toRow_any id _ xs _ (ints_below H0.out b1) HN.out).mono ?_
    rintro e w2 ⟨c1, rfl, o1, b2'⟩
    have b2 := b1.trans (b2'.mono b1.size)
    go_wp2_with fail
    refine (HS.out c1 _ (ownsN_ints o1)).mono ?_
    rintro e w3 ⟨rfl, b3'⟩
    have b3 := b2.trans (b3'.mono b2.size)
    clear p0 p1 b1 b2' b2 b3' o1
    obtain ⟨p0, p1⟩ := box_cells g0 b3
    go_wp2_with fail
    refine (toRow_any id _ xs _ (ints_below H0.out b3) HN.out).mono ?_
    rintro e w4 ⟨x0, rfl, ox, b4'⟩
    have b4 := b3.trans (b4'.mono b3.size)
    clear p0 p1 b3 b4'
    obtain ⟨p0, p1⟩ := box_cells g0 b4
    obtain ⟨xa, xc, rfl⟩ := ints_len (ownsN_ints ox)
    go_wp2_with fail
    have hb5 : Below w4.heap.size w4 (w4.alloc (.cells #[.int .i64 id, .slice xa xs.length xc] 27)) := (Below.refl _ w4).alloc (Nat.le_refl _) _
    have g5 : (w4.alloc (.cells #[.int .i64 id, .slice xa xs.length xc] 27)).heap[w4.heap.size]? = some (.cells #[.int .i64 id, .slice xa xs.length xc] 27 (0, 0)) := heap_alloc_new w4 _
    have I5 := ints_below (ownsN_ints ox) hb5
    have b5 := b4.trans (hb5.mono b4.size)
    generalize w4.alloc (.cells #[.int .i64 id, .slice xa xs.length xc] 27) = w5 at *
    clear p0 p1 hb5 ox
    refine (HI.out _ _ I5 HN.out (HT.out.on (hb0.trans (b5.mono hb0.size)))).mono ?_
    rintro e w6 ⟨rfl, b6'⟩
    have b6 := b5.trans (b6'.mono b5.size)
    have hrr : (!(r.toList == r.toList)) = false := by simp
    have k5 := (b6'.block w4.heap.size (Array.getElem?_eq_some_iff.1 g5).1).trans g5
    have I6 := ints_below I5 b6'
    have k0 := (b6.block w.heap.size (by omega)).trans g0
    have Ia := Lib.hid (ints_below H0.out b6)
    clear b4 b5 b6' g5 I5 HI HS HZ
    go_wp2
    have p0 := (cell_of_row w6 w.heap.size 0 _ _ _ k0).trans (show _ = some (Value.int .i64 id) from rfl)
    have p1 := (cell_of_row w6 w.heap.size 1 _ _ _ k0).trans (show _ = some (Value.slice a xs.length cap) from rfl)
    have q0 := (cell_of_row w6 w4.heap.size 0 _ _ _ k5).trans (show _ = some (Value.int .i64 id) from rfl)
    have q1 := (cell_of_row w6 w4.heap.size 1 _ _ _ k5).trans (show _ = some (Value.slice xa xs.length xc) from rfl)
    have l0 := (Array.getElem?_eq_some_iff.1 k0).1
    have l5 := (Array.getElem?_eq_some_iff.1 k5).1
    clear k0 k5 g0
    go_region_with (first | (go_at_call 7; refine (toRow_any id _ xs _ (by exact ints_heap Ia.out rfl) HN.out).mono ?_; rintro e w7 ⟨y, rfl, oy, b7⟩; have b8 : Below w6.heap.size w6 w7 := ⟨b7.os, b7.tape, b7.output, b7.size, b7.block⟩; have I7 := ints_below I6 b8; have y0 := (b8.cell (p := ⟨w4.heap.size, 0, none⟩) l5).trans q0; have y1 := (b8.cell (p := ⟨w4.heap.size, 1, none⟩) l5).trans q1) | (go_at_call 9; refine (eqRow_same id _ _ xs _ (by exact ints_heap I7 rfl) (by exact ints_heap (ownsN_ints oy) rfl) HN.out).mono ?_; rintro e w8 ⟨rfl, b9⟩; have b10 : Below w7.heap.size w7 w8 := ⟨b9.os, b9.tape, b9.output, b9.size, b9.block⟩))
    all_goals
      have b11 := hb0.trans ((b6.trans ((b8.trans (b10.mono b8.size)).mono b6.size)).mono hb0.size)
      go_wp2
      go_ret
      exact ⟨rfl, b11⟩
  · have HZ := Lib.hid (fun w => szRow_no id a cap xs.length 1048576 w (by omega) (by omega) (by omega))
    clear himpl hl hs
    generalize xs.length = n at *
    go_enter Tryd.func3, Tryd.ntmps3
    go_wp2_with fail
    have hb0 : Below w.heap.size w (w.alloc (.cells #[.int .i64 id, .slice a n cap] 24)) := (Below.refl _ w).alloc (Nat.le_refl _) _
    refine (HZ.out _).mono ?_
    rintro e w1 ⟨rfl, b1⟩
    have b2 := hb0.trans (b1.mono hb0.size)
    go_wp2
    go_ret
    exact ⟨rfl, b2⟩
end Go.Proofs.YtjmiihgaaagojaaDoor
