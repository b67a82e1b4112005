/-
  The program's check of a query.
-/
import Derived.Test.YteelgogfpidcdaaDoorQueryIsP
namespace Go.Proofs.YteelgogfpidcdaaDoor
open Go.RowKit
set_option linter.unusedVariables false
set_option linter.unusedSimpArgs false
set_option maxHeartbeats 4000000 in
set_option maxRecDepth 100000 in
theorem checkQuery_no (id tn : Int) (cv ov : Value) (cs : List CondD) (os : List Int) (w : World) (h : CondsR w cv cs) (hn : cs.length ≤ 1048576) (g : Ints w ov os) (hm : os.length ≤ 1048576) (hq : queryB id tn cs os = false) :
    Calls Tryd.prog 55 #[qV id tn cv ov] w fun e w' => e = .returned (.tuple #[.agg #[.slice none 0 0, .slice none 0 0], .bool false]) ∧ Below w.heap.size w w' := by
  obtain ⟨ca, ccap, rfl⟩ := condsR_len h
  obtain ⟨oa, ocap, rfl⟩ := ints_len g
  have hb0 : Below w.heap.size w ((w.alloc (.cells #[.int .i64 id, .int .i64 tn, .slice ca cs.length ccap, .slice oa os.length ocap] 46)).alloc (.cells #[.slice none 0 0, .slice none 0 0] 84)) := ((Below.refl _ w).alloc (Nat.le_refl _) _).alloc (by simp) _
  have HG1 : Hid (((w.alloc (.cells #[.int .i64 id, .int .i64 tn, .slice ca cs.length ccap, .slice oa os.length ocap] 46)).alloc (.cells #[.slice none 0 0, .slice none 0 0] 84)).heap[w.heap.size + 1]? = some (.cells #[.slice none 0 0, .slice none 0 0] 84 (0, 0))) := Lib.hid (by
    have := heap_alloc_new (w.alloc (.cells #[.int .i64 id, .int .i64 tn, .slice ca cs.length ccap, .slice oa os.length ocap] 46)) (.cells #[.slice none 0 0, .slice none 0 0] 84)
    simpa only [World.size_alloc] using this)
  have HZ : Hid (w.heap.size + 1 < ((w.alloc (.cells #[.int .i64 id, .int .i64 tn, .slice ca cs.length ccap, .slice oa os.length ocap] 46)).alloc (.cells #[.slice none 0 0, .slice none 0 0] 84)).heap.size) := Lib.hid (by simp)
  have HB0 := Lib.hid hb0
  have HC := Lib.hid (condsR_below h hb0)
  have HO := Lib.hid (ints_below g hb0)
  have HQ := Lib.hid (fun w h g => implIsQuery id tn (.slice ca cs.length ccap) (.slice oa os.length ocap) cs os w h hn g hm)
  rw [hq] at HQ
  clear h g hn hm hb0 hq
  go_enter Tryd.func55, Tryd.ntmps55
  go_wp2_with fail
  generalize ((w.alloc (.cells #[.int .i64 id, .int .i64 tn, .slice ca cs.length ccap, .slice oa os.length ocap] 46)).alloc (.cells #[.slice none 0 0, .slice none 0 0] 84)) = W at *
  refine (HQ.out _ HC.out HO.out).mono ?_
  rintro e w1 ⟨rfl, b1⟩
  have c1 := HB0.out.trans (b1.mono HB0.out.size)
  have g1 := (b1.block (w.heap.size + 1) HZ.out).trans HG1.out
  have d0 := (cell_of_row w1 _ 0 _ _ _ g1).trans (show _ = some (Value.slice none 0 0) from rfl)
  have d1 := (cell_of_row w1 _ 1 _ _ _ g1).trans (show _ = some (Value.slice none 0 0) from rfl)
  have f0 := frozen_of_row w1 _ 0 _ _ g1
  have f1 := frozen_of_row w1 _ 1 _ _ g1
  have HG := Lib.hid g1
  have HC1 := Lib.hid c1
  clear g1 c1 b1
  go_wp2
  have r1 := heap_setCell_same w1 (w.heap.size + 1) 0 _ _ (.slice none 0 0) HG.out
  have r2 := heap_setCell_same _ (w.heap.size + 1) 1 _ _ (.slice none 0 0) r1
  have B4 := (HC1.out.setCell (p := ⟨w.heap.size + 1, 0, none⟩) (by simp) (.slice none 0 0)).setCell (p := ⟨w.heap.size + 1, 1, none⟩) (by simp) (.slice none 0 0)
  have e0 := cell_of_row _ _ 0 _ _ _ r2
  have e1 := cell_of_row _ _ 1 _ _ _ r2
  simp at e0 e1
  refine bodyPost_ret (v := .tuple #[.agg #[.slice none 0 0, .slice none 0 0], .bool false]) ?_ rfl ?_
  · simp [results, Tryd.f55, go_sem, e0, e1]
  · exact ⟨rfl, B4⟩
set_option maxHeartbeats 4000000 in
set_option maxRecDepth 100000 in
theorem checkQuery_yes (id tn : Int) (cv ov : Value) (cs : List CondD) (os : List Int) (w : World) (h : CondsR w cv cs) (hn : cs.length ≤ 1048576) (g : Ints w ov os) (hm : os.length ≤ 1048576) (hq : queryB id tn cs os = true) :
    Calls Tryd.prog 55 #[qV id tn cv ov] w fun e w' => e = .returned (.tuple #[.agg #[cv, ov], .bool true]) ∧ Below w.heap.size w w' := by
  obtain ⟨ca, ccap, rfl⟩ := condsR_len h
  obtain ⟨oa, ocap, rfl⟩ := ints_len g
  have hb0 : Below w.heap.size w ((w.alloc (.cells #[.int .i64 id, .int .i64 tn, .slice ca cs.length ccap, .slice oa os.length ocap] 46)).alloc (.cells #[.slice none 0 0, .slice none 0 0] 84)) := ((Below.refl _ w).alloc (Nat.le_refl _) _).alloc (by simp) _
  have HG1 : Hid (((w.alloc (.cells #[.int .i64 id, .int .i64 tn, .slice ca cs.length ccap, .slice oa os.length ocap] 46)).alloc (.cells #[.slice none 0 0, .slice none 0 0] 84)).heap[w.heap.size + 1]? = some (.cells #[.slice none 0 0, .slice none 0 0] 84 (0, 0))) := Lib.hid (by
    have := heap_alloc_new (w.alloc (.cells #[.int .i64 id, .int .i64 tn, .slice ca cs.length ccap, .slice oa os.length ocap] 46)) (.cells #[.slice none 0 0, .slice none 0 0] 84)
    simpa only [World.size_alloc] using this)
  have HG0 : Hid (((w.alloc (.cells #[.int .i64 id, .int .i64 tn, .slice ca cs.length ccap, .slice oa os.length ocap] 46)).alloc (.cells #[.slice none 0 0, .slice none 0 0] 84)).heap[w.heap.size]? = some (.cells #[.int .i64 id, .int .i64 tn, .slice ca cs.length ccap, .slice oa os.length ocap] 46 (0, 0))) := Lib.hid (by
    rw [Below.heap_alloc _ _ _ (by simp)]
    exact heap_alloc_new w _)
  have HZ : Hid (w.heap.size + 1 < ((w.alloc (.cells #[.int .i64 id, .int .i64 tn, .slice ca cs.length ccap, .slice oa os.length ocap] 46)).alloc (.cells #[.slice none 0 0, .slice none 0 0] 84)).heap.size) := Lib.hid (by simp)
  have HB0 := Lib.hid hb0
  have HC := Lib.hid (condsR_below h hb0)
  have HO := Lib.hid (ints_below g hb0)
  have HQ := Lib.hid (fun w h g => implIsQuery id tn (.slice ca cs.length ccap) (.slice oa os.length ocap) cs os w h hn g hm)
  rw [hq] at HQ
  clear h g hn hm hb0 hq
  go_enter Tryd.func55, Tryd.ntmps55
  go_wp2_with fail
  generalize ((w.alloc (.cells #[.int .i64 id, .int .i64 tn, .slice ca cs.length ccap, .slice oa os.length ocap] 46)).alloc (.cells #[.slice none 0 0, .slice none 0 0] 84)) = W at *
  refine (HQ.out _ HC.out HO.out).mono ?_
  rintro e w1 ⟨rfl, b1⟩
  have c1 := HB0.out.trans (b1.mono HB0.out.size)
  have g1 := (b1.block (w.heap.size + 1) HZ.out).trans HG1.out
  obtain ⟨p0, p1, p2, p3⟩ := box_cells4 HG0.out b1
  have d0 := (cell_of_row w1 _ 0 _ _ _ g1).trans (show _ = some (Value.slice none 0 0) from rfl)
  have d1 := (cell_of_row w1 _ 1 _ _ _ g1).trans (show _ = some (Value.slice none 0 0) from rfl)
  have f0 := frozen_of_row w1 _ 0 _ _ g1
  have f1 := frozen_of_row w1 _ 1 _ _ g1
  have HG := Lib.hid g1
  have HC1 := Lib.hid c1
  clear g1 c1 b1
  go_wp2
  have r1 := heap_setCell_same w1 (w.heap.size + 1) 0 _ _ (.slice ca cs.length ccap) HG.out
  have r2 := heap_setCell_same _ (w.heap.size + 1) 1 _ _ (.slice oa os.length ocap) r1
  have B4 := (HC1.out.setCell (p := ⟨w.heap.size + 1, 0, none⟩) (by simp) (.slice ca cs.length ccap)).setCell (p := ⟨w.heap.size + 1, 1, none⟩) (by simp) (.slice oa os.length ocap)
  have e0 := cell_of_row _ _ 0 _ _ _ r2
  have e1 := cell_of_row _ _ 1 _ _ _ r2
  simp at e0 e1
  refine bodyPost_ret (v := .tuple #[.agg #[.slice ca cs.length ccap, .slice oa os.length ocap], .bool true]) ?_ rfl ?_
  · simp [results, Tryd.f55, go_sem, e0, e1]
  · exact ⟨rfl, B4⟩
end Go.Proofs.YteelgogfpidcdaaDoor
