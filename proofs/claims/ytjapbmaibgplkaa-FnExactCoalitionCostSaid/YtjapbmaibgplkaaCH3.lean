/-
  Texts of the proof, merged: ChgP3, LawCoalitionCost.
-/
import Derived.Test.YtjapbmaibgplkaaCH2
namespace Go.Proofs.Ytjapbmaibgplkaa
open Go.RowKit
set_option linter.unusedVariables false
set_option linter.unusedSimpArgs false
/-- Whom the array names. -/
def Nmd (ts : List Int) (k : Nat) (b0 b1 b2 b3 : Bool) : Prop := b0 = nmdTo ts k 0 ∧ b1 = nmdTo ts k 1 ∧ b2 = nmdTo ts k 2 ∧ b3 = nmdTo ts k 3
theorem nmd_zero (ts : List Int) : Nmd ts 0 false false false false := ⟨(nmdTo_zero ts 0).symm, (nmdTo_zero ts 1).symm, (nmdTo_zero ts 2).symm, (nmdTo_zero ts 3).symm⟩
theorem nmd_out {ts : List Int} {k : Nat} {b0 b1 b2 b3 : Bool} (h : Nmd ts k b0 b1 b2 b3) (hk : k < ts.length) (g : tenB (ts.getD k 0) = false) : Nmd ts (k + 1) b0 b1 b2 b3 := by
  have g' := of_decide_eq_false g
  have n : ∀ t : Int, 0 ≤ t → t ≤ 3 → nmdTo ts (k + 1) t = nmdTo ts k t := fun t h1 h2 => by
    rw [nmdTo_succ hk, decide_eq_false (fun e => g' (by omega)), Bool.or_false]
  obtain ⟨h0, h1, h2, h3⟩ := h
  exact ⟨by rw [h0, n 0 (by omega) (by omega)], by rw [h1, n 1 (by omega) (by omega)], by rw [h2, n 2 (by omega) (by omega)], by rw [h3, n 3 (by omega) (by omega)]⟩
theorem nmd_in {ts : List Int} {k : Nat} {b0 b1 b2 b3 : Bool} (h : Nmd ts k b0 b1 b2 b3) (hk : k < ts.length) {y : Int} (e : ts.getD k 0 = y) : Nmd ts (k + 1) (b0 || decide (y = 0)) (b1 || decide (y = 1)) (b2 || decide (y = 2)) (b3 || decide (y = 3)) := by
  obtain ⟨h0, h1, h2, h3⟩ := h
  exact ⟨by rw [h0, nmdTo_succ hk, e], by rw [h1, nmdTo_succ hk, e], by rw [h2, nmdTo_succ hk, e], by rw [h3, nmdTo_succ hk, e]⟩
theorem nmd_all {ts : List Int} {b0 b1 b2 b3 : Bool} (h : Nmd ts ts.length b0 b1 b2 b3) : b0 = memB ts 0 ∧ b1 = memB ts 1 ∧ b2 = memB ts 2 ∧ b3 = memB ts 3 := by
  obtain ⟨h0, h1, h2, h3⟩ := h
  exact ⟨by rw [h0, nmdTo_all]; rfl, by rw [h1, nmdTo_all]; rfl, by rw [h2, nmdTo_all]; rfl, by rw [h3, nmdTo_all]; rfl⟩
set_option maxHeartbeats 8000000 in
set_option maxRecDepth 100000 in
theorem coalitionOf_any (v : Value) (ts : List Int) (w : World) (h : SlR tInt w v ts) (hn : ts.length ≤ 1048576) :
    Calls Try.prog 37 #[v] w (fun e w' => e = .returned (.agg #[.bool (memB ts 0), .bool (memB ts 1), .bool (memB ts 2), .bool (memB ts 3)]) ∧ Below w.heap.size w w') := by
  obtain ⟨ta, tc, rfl⟩ := slR_len h
  have H := Lib.hid h
  clear h
  have d := Lib.hid (show Below w.heap.size w ((w.alloc (.cells #[.bool false, .bool false, .bool false, .bool false] 53)).alloc (.cells #[.bool false, .bool false, .bool false, .bool false] 53)) from (((Below.refl _ w).alloc (Nat.le_refl _) _).alloc (by simp) _))
  have BR : Hid (((w.alloc (.cells #[.bool false, .bool false, .bool false, .bool false] 53)).alloc (.cells #[.bool false, .bool false, .bool false, .bool false] 53)).heap[w.heap.size]? = some (.cells #[.bool false, .bool false, .bool false, .bool false] 53 (0, 0))) := Lib.hid (by
    rw [Below.heap_alloc _ _ _ (by simp)]
    exact heap_alloc_new w _)
  have BM : Hid (((w.alloc (.cells #[.bool false, .bool false, .bool false, .bool false] 53)).alloc (.cells #[.bool false, .bool false, .bool false, .bool false] 53)).heap[(w.heap.size + 1)]? = some (.cells #[.bool false, .bool false, .bool false, .bool false] 53 (0, 0))) := Lib.hid (by
    have := heap_alloc_new (w.alloc (.cells #[.bool false, .bool false, .bool false, .bool false] 53)) (.cells #[.bool false, .bool false, .bool false, .bool false] 53)
    simpa only [World.size_alloc] using this)
  have YW : Hid (w.heap.size + 2 ≤ ((w.alloc (.cells #[.bool false, .bool false, .bool false, .bool false] 53)).alloc (.cells #[.bool false, .bool false, .bool false, .bool false] 53)).heap.size) := Lib.hid (by simp [World.size_alloc])
  go_enter Try.func37, Try.ntmps37
  go_wp2
  generalize ((w.alloc (.cells #[.bool false, .bool false, .bool false, .bool false] 53)).alloc (.cells #[.bool false, .bool false, .bool false, .bool false] 53)) = W at *
  go_loopw [8] (fun i wr => ∃ (k : Nat) (b0 b1 b2 b3 : Bool), k ≤ ts.length ∧ i = .int .i64 k ∧ Hid (Nmd ts k b0 b1 b2 b3) ∧ Hid (wr.heap[w.heap.size + 1]? = some (.cells #[.bool b0, .bool b1, .bool b2, .bool b3] 53 (0, 0))) ∧ Hid (wr.heap[w.heap.size]? = some (.cells #[.bool false, .bool false, .bool false, .bool false] 53 (0, 0))) ∧ Below w.heap.size w wr) (fun i _ => ts.length - (intOf i).toNat)
  case atStart => exact ⟨0, false, false, false, false, Nat.zero_le _, rfl, Lib.hid (nmd_zero ts), BM, BR, d.out⟩
  case round =>
    clear d BM BR
    obtain ⟨k, b0, b1, b2, b3, hk, rfl, hno, BM, BR, c⟩ := hrel
    have d := Lib.hid c
    clear c
    by_cases hlt : k < ts.length
    · have i1 : (0 : Int) ≤ (k : Int) := by omega
      have i2 : (k : Int) < (ts.length : Int) := by omega
      obtain ⟨bu, offu, capu, hv, hbl, hc⟩ := ints_cell (slR_ints (slR_below tInt_law H.out d.out)) (by omega)
      simp only [Value.slice.injEq] at hv
      obtain ⟨rfl, _, rfl⟩ := hv
      have f0 := hc k (by omega)
      clear hc hbl
      have HNO := Lib.hid (fun g => nmd_out hno.out hlt g)
      have HIN := Lib.hid (fun (y : Int) e => nmd_in (y := y) hno.out hlt e)
      obtain ⟨y, hy⟩ : ∃ y, y = ts.getD k 0 := ⟨_, rfl⟩
      rw [← hy] at f0 HNO
      replace HIN := Lib.hid (HIN.out y hy.symm)
      clear hy hno
      have HC := Lib.hid (isTenant_ten y wr)
      go_wp2_with fail
      refine HC.out.mono ?_
      rintro e w2 ⟨rfl, c⟩
      replace BR := Lib.hid ((c.block w.heap.size (Array.getElem?_eq_some_iff.1 BR.out).1).trans BR.out)
      replace BM := Lib.hid ((c.block (w.heap.size + 1) (Array.getElem?_eq_some_iff.1 BM.out).1).trans BM.out)
      replace d := Lib.hid (d.out.trans (c.mono d.out.size))
      have Z_w2 := Lib.hid (show wr.heap.size ≤ w2.heap.size from c.size)
      clear c HC f0
      rcases Bool.eq_false_or_eq_true (tenB y) with ht | ht
      · rw [ht]
        have hy3 : 0 ≤ y ∧ y ≤ 3 := of_decide_eq_true ht
        clear ht
        have hy4 : y = 0 ∨ y = 1 ∨ y = 2 ∨ y = 3 := by omega
        clear hy3
        rcases hy4 with rfl | rfl | rfl | rfl
        · have HN : Hid (Nmd ts (k + 1) true b1 b2 b3) := Lib.hid (by have := HIN.out; simpa using this)
          clear HIN HNO
          have p_BM_0 := (cell_of_row w2 _ 0 _ _ _ BM.out).trans (show _ = some (Value.bool b0) from rfl)
          have p_BM_1 := (cell_of_row w2 _ 1 _ _ _ BM.out).trans (show _ = some (Value.bool b1) from rfl)
          have p_BM_2 := (cell_of_row w2 _ 2 _ _ _ BM.out).trans (show _ = some (Value.bool b2) from rfl)
          have p_BM_3 := (cell_of_row w2 _ 3 _ _ _ BM.out).trans (show _ = some (Value.bool b3) from rfl)
          have f_BM_0 := frozen_of_row w2 _ 0 _ _ BM.out
          have f_BM_1 := frozen_of_row w2 _ 1 _ _ BM.out
          have f_BM_2 := frozen_of_row w2 _ 2 _ _ BM.out
          have f_BM_3 := frozen_of_row w2 _ 3 _ _ BM.out
          have rr := heap_setCell_same w2 (w.heap.size + 1) 0 _ _ (.bool true) BM.out
          simp at rr
          have HM2 := Lib.hid rr
          have HR2 : Hid ((w2.setCell ⟨w.heap.size + 1, 0, none⟩ (.bool true)).heap[w.heap.size]? = some (.cells #[.bool false, .bool false, .bool false, .bool false] 53 (0, 0))) := Lib.hid ((Below.heap_setCell w2 ⟨w.heap.size + 1, 0, none⟩ _ w.heap.size (by simp)).trans BR.out)
          have d2 := Lib.hid (d.out.setCell (p := ⟨w.heap.size + 1, 0, none⟩) (Nat.le_succ _) (.bool true))
          clear rr BM BR d
          go_wp2
          go_roundw
          case rel => exact ⟨k + 1, true, b1, b2, b3, by omega, by go_num, HN, HM2, HR2, d2.out⟩
          case measure => simp [intOf]; omega
        · have HN : Hid (Nmd ts (k + 1) b0 true b2 b3) := Lib.hid (by have := HIN.out; simpa using this)
          clear HIN HNO
          have p_BM_0 := (cell_of_row w2 _ 0 _ _ _ BM.out).trans (show _ = some (Value.bool b0) from rfl)
          have p_BM_1 := (cell_of_row w2 _ 1 _ _ _ BM.out).trans (show _ = some (Value.bool b1) from rfl)
          have p_BM_2 := (cell_of_row w2 _ 2 _ _ _ BM.out).trans (show _ = some (Value.bool b2) from rfl)
          have p_BM_3 := (cell_of_row w2 _ 3 _ _ _ BM.out).trans (show _ = some (Value.bool b3) from rfl)
          have f_BM_0 := frozen_of_row w2 _ 0 _ _ BM.out
          have f_BM_1 := frozen_of_row w2 _ 1 _ _ BM.out
          have f_BM_2 := frozen_of_row w2 _ 2 _ _ BM.out
          have f_BM_3 := frozen_of_row w2 _ 3 _ _ BM.out
          have rr := heap_setCell_same w2 (w.heap.size + 1) 1 _ _ (.bool true) BM.out
          simp at rr
          have HM2 := Lib.hid rr
          have HR2 : Hid ((w2.setCell ⟨w.heap.size + 1, 1, none⟩ (.bool true)).heap[w.heap.size]? = some (.cells #[.bool false, .bool false, .bool false, .bool false] 53 (0, 0))) := Lib.hid ((Below.heap_setCell w2 ⟨w.heap.size + 1, 1, none⟩ _ w.heap.size (by simp)).trans BR.out)
          have d2 := Lib.hid (d.out.setCell (p := ⟨w.heap.size + 1, 1, none⟩) (Nat.le_succ _) (.bool true))
          clear rr BM BR d
          go_wp2
          go_roundw
          case rel => exact ⟨k + 1, b0, true, b2, b3, by omega, by go_num, HN, HM2, HR2, d2.out⟩
          case measure => simp [intOf]; omega
        · have HN : Hid (Nmd ts (k + 1) b0 b1 true b3) := Lib.hid (by have := HIN.out; simpa using this)
          clear HIN HNO
          have p_BM_0 := (cell_of_row w2 _ 0 _ _ _ BM.out).trans (show _ = some (Value.bool b0) from rfl)
          have p_BM_1 := (cell_of_row w2 _ 1 _ _ _ BM.out).trans (show _ = some (Value.bool b1) from rfl)
          have p_BM_2 := (cell_of_row w2 _ 2 _ _ _ BM.out).trans (show _ = some (Value.bool b2) from rfl)
          have p_BM_3 := (cell_of_row w2 _ 3 _ _ _ BM.out).trans (show _ = some (Value.bool b3) from rfl)
          have f_BM_0 := frozen_of_row w2 _ 0 _ _ BM.out
          have f_BM_1 := frozen_of_row w2 _ 1 _ _ BM.out
          have f_BM_2 := frozen_of_row w2 _ 2 _ _ BM.out
          have f_BM_3 := frozen_of_row w2 _ 3 _ _ BM.out
          have rr := heap_setCell_same w2 (w.heap.size + 1) 2 _ _ (.bool true) BM.out
          simp at rr
          have HM2 := Lib.hid rr
          have HR2 : Hid ((w2.setCell ⟨w.heap.size + 1, 2, none⟩ (.bool true)).heap[w.heap.size]? = some (.cells #[.bool false, .bool false, .bool false, .bool false] 53 (0, 0))) := Lib.hid ((Below.heap_setCell w2 ⟨w.heap.size + 1, 2, none⟩ _ w.heap.size (by simp)).trans BR.out)
          have d2 := Lib.hid (d.out.setCell (p := ⟨w.heap.size + 1, 2, none⟩) (Nat.le_succ _) (.bool true))
          clear rr BM BR d
          go_wp2
          go_roundw
          case rel => exact ⟨k + 1, b0, b1, true, b3, by omega, by go_num, HN, HM2, HR2, d2.out⟩
          case measure => simp [intOf]; omega
        · have HN : Hid (Nmd ts (k + 1) b0 b1 b2 true) := Lib.hid (by have := HIN.out; simpa using this)
          clear HIN HNO
          have p_BM_0 := (cell_of_row w2 _ 0 _ _ _ BM.out).trans (show _ = some (Value.bool b0) from rfl)
          have p_BM_1 := (cell_of_row w2 _ 1 _ _ _ BM.out).trans (show _ = some (Value.bool b1) from rfl)
          have p_BM_2 := (cell_of_row w2 _ 2 _ _ _ BM.out).trans (show _ = some (Value.bool b2) from rfl)
          have p_BM_3 := (cell_of_row w2 _ 3 _ _ _ BM.out).trans (show _ = some (Value.bool b3) from rfl)
          have f_BM_0 := frozen_of_row w2 _ 0 _ _ BM.out
          have f_BM_1 := frozen_of_row w2 _ 1 _ _ BM.out
          have f_BM_2 := frozen_of_row w2 _ 2 _ _ BM.out
          have f_BM_3 := frozen_of_row w2 _ 3 _ _ BM.out
          have rr := heap_setCell_same w2 (w.heap.size + 1) 3 _ _ (.bool true) BM.out
          simp at rr
          have HM2 := Lib.hid rr
          have HR2 : Hid ((w2.setCell ⟨w.heap.size + 1, 3, none⟩ (.bool true)).heap[w.heap.size]? = some (.cells #[.bool false, .bool false, .bool false, .bool false] 53 (0, 0))) := Lib.hid ((Below.heap_setCell w2 ⟨w.heap.size + 1, 3, none⟩ _ w.heap.size (by simp)).trans BR.out)
          have d2 := Lib.hid (d.out.setCell (p := ⟨w.heap.size + 1, 3, none⟩) (Nat.le_succ _) (.bool true))
          clear rr BM BR d
          go_wp2
          go_roundw
          case rel => exact ⟨k + 1, b0, b1, b2, true, by omega, by go_num, HN, HM2, HR2, d2.out⟩
          case measure => simp [intOf]; omega
      · rw [ht]
        have HN := Lib.hid (HNO.out ht)
        clear ht HNO HIN
        go_wp2
        go_roundw
        case rel => exact ⟨k + 1, b0, b1, b2, b3, by omega, by go_num, HN, BM, BR, d.out⟩
        case measure => simp [intOf]; omega
    · obtain rfl : k = ts.length := by omega
      obtain ⟨e0, e1, e2, e3⟩ := nmd_all hno.out
      have HA := Lib.hid (show (Value.agg #[.bool b0, .bool b1, .bool b2, .bool b3]) = .agg #[.bool (memB ts 0), .bool (memB ts 1), .bool (memB ts 2), .bool (memB ts 3)] by rw [e0, e1, e2, e3])
      clear e0 e1 e2 e3 hno
      have p_BM_0 := (cell_of_row wr _ 0 _ _ _ BM.out).trans (show _ = some (Value.bool b0) from rfl)
      have p_BM_1 := (cell_of_row wr _ 1 _ _ _ BM.out).trans (show _ = some (Value.bool b1) from rfl)
      have p_BM_2 := (cell_of_row wr _ 2 _ _ _ BM.out).trans (show _ = some (Value.bool b2) from rfl)
      have p_BM_3 := (cell_of_row wr _ 3 _ _ _ BM.out).trans (show _ = some (Value.bool b3) from rfl)
      have p_BR_0 := (cell_of_row wr _ 0 _ _ _ BR.out).trans (show _ = some (Value.bool false) from rfl)
      have p_BR_1 := (cell_of_row wr _ 1 _ _ _ BR.out).trans (show _ = some (Value.bool false) from rfl)
      have p_BR_2 := (cell_of_row wr _ 2 _ _ _ BR.out).trans (show _ = some (Value.bool false) from rfl)
      have p_BR_3 := (cell_of_row wr _ 3 _ _ _ BR.out).trans (show _ = some (Value.bool false) from rfl)
      have f_BR_0 := frozen_of_row wr _ 0 _ _ BR.out
      have f_BR_1 := frozen_of_row wr _ 1 _ _ BR.out
      have f_BR_2 := frozen_of_row wr _ 2 _ _ BR.out
      have f_BR_3 := frozen_of_row wr _ 3 _ _ BR.out
      go_wp2
      have r0 := heap_setCell_same wr (w.heap.size) 0 _ _ (.bool b0) BR.out
      have r1 := heap_setCell_same _ (w.heap.size) 1 _ _ (.bool b1) r0
      have r2 := heap_setCell_same _ (w.heap.size) 2 _ _ (.bool b2) r1
      have r3 := heap_setCell_same _ (w.heap.size) 3 _ _ (.bool b3) r2
      have D4 := (((d.out.setCell (p := ⟨w.heap.size, 0, none⟩) (Nat.le_refl _) (.bool b0)).setCell (p := ⟨w.heap.size, 1, none⟩) (Nat.le_refl _) (.bool b1)).setCell (p := ⟨w.heap.size, 2, none⟩) (Nat.le_refl _) (.bool b2)).setCell (p := ⟨w.heap.size, 3, none⟩) (Nat.le_refl _) (.bool b3)
      clear r0 r1 r2
      have e0 := cell_of_row _ _ 0 _ _ _ r3
      have e1 := cell_of_row _ _ 1 _ _ _ r3
      have e2 := cell_of_row _ _ 2 _ _ _ r3
      have e3 := cell_of_row _ _ 3 _ _ _ r3
      simp at e0 e1 e2 e3
      clear r3
      refine bodyPost_ret (v := .agg #[.bool b0, .bool b1, .bool b2, .bool b3]) ?_ rfl ?_
      · simp [results, Try.f37, go_sem, e0, e1, e2, e3]
      · exact ⟨by rw [HA.out], D4⟩
set_option maxHeartbeats 8000000 in
set_option maxRecDepth 100000 in
theorem costOf_any (m : Int → Bool) (sg ba : Int) (v2 v3 v4 : Value) (x2 x3 x4 : List Int) (w : World) (h2 : SlR tInt w v2 x2) (h3 : SlR tInt w v3 x3) (h4 : SlR tInt w v4 x4) (s2 : zL tInt x2 ≤ 1048576) (s3 : zL tInt x3 ≤ 1048576) (s4 : zL tInt x4 ≤ 1048576) :
    Calls Try.prog 38 #[.agg #[.bool (m 0), .bool (m 1), .bool (m 2), .bool (m 3)], .agg #[.int .i64 sg, .int .i64 ba, v2, v3, v4]] w (fun e w' => e = .returned (.int .i64 (coX m (sg, ba, x2, x3, x4))) ∧ Below w.heap.size w w') := by
  obtain ⟨p2, c2, rfl⟩ := slR_len h2
  have H2 := Lib.hid h2
  obtain ⟨p3, c3, rfl⟩ := slR_len h3
  have H3 := Lib.hid h3
  obtain ⟨p4, c4, rfl⟩ := slR_len h4
  have H4 := Lib.hid h4
  clear h2 h3 h4
  have S2 := Lib.hid s2; have S3 := Lib.hid s3; have S4 := Lib.hid s4
  have n2 := zL_len s2; have n3 := zL_len s3; have n4 := zL_len s4
  clear s2 s3 s4
  have HM := Lib.hid (show (m 0 = m 0 ∧ m 1 = m 1) ∧ (m 2 = m 2 ∧ m 3 = m 3) from ⟨⟨rfl, rfl⟩, ⟨rfl, rfl⟩⟩)
  clear HM
  have d := Lib.hid (show Below w.heap.size w ((w.alloc (.cells #[.bool (m 0), .bool (m 1), .bool (m 2), .bool (m 3)] 53)).alloc (.cells #[.int .i64 sg, .int .i64 ba, .slice p2 x2.length c2, .slice p3 x3.length c3, .slice p4 x4.length c4] 27)) from (((Below.refl _ w).alloc (Nat.le_refl _) _).alloc (by simp) _))
  have BM : Hid (((w.alloc (.cells #[.bool (m 0), .bool (m 1), .bool (m 2), .bool (m 3)] 53)).alloc (.cells #[.int .i64 sg, .int .i64 ba, .slice p2 x2.length c2, .slice p3 x3.length c3, .slice p4 x4.length c4] 27)).heap[w.heap.size]? = some (.cells #[.bool (m 0), .bool (m 1), .bool (m 2), .bool (m 3)] 53 (0, 0))) := Lib.hid (by
    rw [Below.heap_alloc _ _ _ (by simp)]
    exact heap_alloc_new w _)
  have B0 : Hid (((w.alloc (.cells #[.bool (m 0), .bool (m 1), .bool (m 2), .bool (m 3)] 53)).alloc (.cells #[.int .i64 sg, .int .i64 ba, .slice p2 x2.length c2, .slice p3 x3.length c3, .slice p4 x4.length c4] 27)).heap[(w.heap.size + 1)]? = some (.cells #[.int .i64 sg, .int .i64 ba, .slice p2 x2.length c2, .slice p3 x3.length c3, .slice p4 x4.length c4] 27 (0, 0))) := Lib.hid (by
    have := heap_alloc_new (w.alloc (.cells #[.bool (m 0), .bool (m 1), .bool (m 2), .bool (m 3)] 53)) (.cells #[.int .i64 sg, .int .i64 ba, .slice p2 x2.length c2, .slice p3 x3.length c3, .slice p4 x4.length c4] 27)
    simpa only [World.size_alloc] using this)
  have YW : Hid (w.heap.size + 2 ≤ ((w.alloc (.cells #[.bool (m 0), .bool (m 1), .bool (m 2), .bool (m 3)] 53)).alloc (.cells #[.int .i64 sg, .int .i64 ba, .slice p2 x2.length c2, .slice p3 x3.length c3, .slice p4 x4.length c4] 27)).heap.size) := Lib.hid (by simp [World.size_alloc])
  go_enter Try.func38, Try.ntmps38
  go_wp2_with fail
  generalize ((w.alloc (.cells #[.bool (m 0), .bool (m 1), .bool (m 2), .bool (m 3)] 53)).alloc (.cells #[.int .i64 sg, .int .i64 ba, .slice p2 x2.length c2, .slice p3 x3.length c3, .slice p4 x4.length c4] 27)) = W at *
  refine (implIsCharge sg ba (.slice p2 x2.length c2) (.slice p3 x3.length c3) (.slice p4 x4.length c4) x2 x3 x4 W (slR_below tInt_law H2.out d.out) (slR_below tInt_law H3.out d.out) (slR_below tInt_law H4.out d.out) S2.out S3.out S4.out).mono ?_
  rintro e W1 ⟨rfl, c⟩
  replace BM := Lib.hid ((c.block w.heap.size (Array.getElem?_eq_some_iff.1 BM.out).1).trans BM.out)
  replace B0 := Lib.hid ((c.block (w.heap.size + 1) (Array.getElem?_eq_some_iff.1 B0.out).1).trans B0.out)
  replace d := Lib.hid (d.out.trans (c.mono d.out.size))
  have Z_W1 := Lib.hid (show W.heap.size ≤ W1.heap.size from c.size)
  clear c
  rcases Bool.eq_false_or_eq_true (chargeB (sg, ba, x2, x3, x4)) with hch | hch
  rotate_left
  · rw [hch]
    have HF := Lib.hid (coX_no1 (m := m) hch)
    clear hch
    have p_B0_0 := (cell_of_row W1 _ 0 _ _ _ B0.out).trans (show _ = some (Value.int .i64 sg) from rfl)
    have p_B0_1 := (cell_of_row W1 _ 1 _ _ _ B0.out).trans (show _ = some (Value.int .i64 ba) from rfl)
    have p_B0_2 := (cell_of_row W1 _ 2 _ _ _ B0.out).trans (show _ = some (Value.slice p2 x2.length c2) from rfl)
    have p_B0_3 := (cell_of_row W1 _ 3 _ _ _ B0.out).trans (show _ = some (Value.slice p3 x3.length c3) from rfl)
    have p_B0_4 := (cell_of_row W1 _ 4 _ _ _ B0.out).trans (show _ = some (Value.slice p4 x4.length c4) from rfl)
    go_wp2
    clear p_B0_0 p_B0_1 p_B0_2 p_B0_3 p_B0_4
    go_ret
    exact ⟨ret_n HF.out.symm, d.out⟩
  rw [hch]
  have HCH := Lib.hid hch
  have HP := Lib.hid (charge_iff hch).2.1
  have HYES : Hid (anyTo m x3 x2.length = true → ba + coRows m (sg, ba, x2, x3, x4) x2.length = coX m (sg, ba, x2, x3, x4)) := Lib.hid (fun g => by rw [coX_yes hch g]; exact Int.add_comm _ _)
  have HNO : Hid (anyTo m x3 x2.length = false → coX m (sg, ba, x2, x3, x4) = 0) := Lib.hid (fun g => coX_no2 g)
  have hl8 : x2.length ≤ 8 := HP.out.1.2
  have hba : 0 ≤ ba ∧ ba ≤ 4 := HP.out.2.2.2
  obtain ⟨ba1, ba2⟩ := hba
  have HL3 : Hid (x3.length = x2.length) := Lib.hid HP.out.2.1.1
  have HL4 : Hid (x4.length = x2.length) := Lib.hid HP.out.2.1.2
  have hl3 : x3.length ≤ 8 := by have := HL3.out; omega
  clear hch
  have p_B0_0 := (cell_of_row W1 _ 0 _ _ _ B0.out).trans (show _ = some (Value.int .i64 sg) from rfl)
  have p_B0_1 := (cell_of_row W1 _ 1 _ _ _ B0.out).trans (show _ = some (Value.int .i64 ba) from rfl)
  have p_B0_2 := (cell_of_row W1 _ 2 _ _ _ B0.out).trans (show _ = some (Value.slice p2 x2.length c2) from rfl)
  have p_B0_3 := (cell_of_row W1 _ 3 _ _ _ B0.out).trans (show _ = some (Value.slice p3 x3.length c3) from rfl)
  have p_B0_4 := (cell_of_row W1 _ 4 _ _ _ B0.out).trans (show _ = some (Value.slice p4 x4.length c4) from rfl)
  go_wp2
  clear p_B0_0 p_B0_1 p_B0_2 p_B0_3 p_B0_4
  go_loop [5, 6, 17] (fun n th i => ∃ (j : Nat) (z : Int) (bb : Bool), j ≤ x3.length ∧ i = .int .i64 j ∧ n = .int .i64 z ∧ th = .bool bb ∧ Hid (z = ba + coRows m (sg, ba, x2, x3, x4) j) ∧ Hid (bb = anyTo m x3 j)) (fun _ _ i => x3.length - (intOf i).toNat)
  case atStart => exact ⟨0, ba, false, Nat.zero_le _, rfl, rfl, rfl, Lib.hid (Int.add_zero ba).symm, Lib.hid rfl⟩
  case round =>
    obtain ⟨j, z, bb, hj, rfl, rfl, rfl, hz, hbb⟩ := hrel
    have z1 := coRows_bd (m := m) HCH.out (show j ≤ x2.length by have := HL3.out; omega)
    have z3 := hz.out
    have z4 : 0 ≤ z ∧ z ≤ 200000000 := by omega
    obtain ⟨z5, z6⟩ := z4
    clear z1 z3
    by_cases hjl : j < x3.length
    · have j1 : (0 : Int) ≤ (j : Int) := by omega
      have j2 : (j : Int) < (x3.length : Int) := by omega
      have j5 : j < x4.length := by have := HL4.out; have := HL3.out; omega
      have j6 : (j : Int) < (x4.length : Int) := by omega
      obtain ⟨bt, offt, capt, hv, hbl, hc⟩ := ints_cell (slR_ints (slR_below tInt_law H3.out d.out)) (by omega)
      simp only [Value.slice.injEq] at hv
      obtain ⟨rfl, _, rfl⟩ := hv
      have f3 := hc j (by omega)
      clear hc hbl
      have HT3 := chg_ten (x := (sg, ba, x2, x3, x4)) HCH.out hjl
      have HR := chg_row (x := (sg, ba, x2, x3, x4)) HCH.out j5
      dsimp only at HR HT3
      have F3 := Lib.hid f3
      clear f3
      have HA1 : Hid (m (x3.getD j 0) = true → z + x4.getD j 0 = ba + coRows m (sg, ba, x2, x3, x4) (j + 1) ∧ true = anyTo m x3 (j + 1)) := Lib.hid (fun g => ⟨by rw [coRows_yes (x := (sg, ba, x2, x3, x4)) g]; have := hz.out; dsimp only; omega, (anyTo_yes g).symm⟩)
      have HA2 : Hid (m (x3.getD j 0) = false → z = ba + coRows m (sg, ba, x2, x3, x4) (j + 1) ∧ bb = anyTo m x3 (j + 1)) := Lib.hid (fun g => ⟨by rw [coRows_no (x := (sg, ba, x2, x3, x4)) g]; exact hz.out, by rw [anyTo_no g]; exact hbb.out⟩)
      clear hz hbb
      obtain ⟨br, offr, capr, hv, hbl, hc⟩ := ints_cell (slR_ints (slR_below tInt_law H4.out d.out)) (by omega)
      simp only [Value.slice.injEq] at hv
      obtain ⟨rfl, _, rfl⟩ := hv
      have f4 := hc j (by omega)
      clear hc hbl
      have F4 := Lib.hid f4
      clear f4
      generalize x3.getD j 0 = y at *
      generalize x4.getD j 0 = rv at *
      obtain ⟨rv1, rv2'⟩ := HR
      have rv2 : rv ≤ 4 := by omega
      clear rv2'
      have hy4 : y = 0 ∨ y = 1 ∨ y = 2 ∨ y = 3 := by omega
      clear HT3
      rcases hy4 with rfl | rfl | rfl | rfl
      · obtain ⟨mv, hmv⟩ : ∃ mv, mv = m 0 := ⟨_, rfl⟩
        rw [← hmv] at HA1 HA2
        have p_B0_0 := (cell_of_row W1 _ 0 _ _ _ B0.out).trans (show _ = some (Value.int .i64 sg) from rfl)
        have p_B0_1 := (cell_of_row W1 _ 1 _ _ _ B0.out).trans (show _ = some (Value.int .i64 ba) from rfl)
        have p_B0_2 := (cell_of_row W1 _ 2 _ _ _ B0.out).trans (show _ = some (Value.slice p2 x2.length c2) from rfl)
        have p_B0_3 := (cell_of_row W1 _ 3 _ _ _ B0.out).trans (show _ = some (Value.slice (some ⟨bt, offt, none⟩) x3.length c3) from rfl)
        have p_B0_4 := (cell_of_row W1 _ 4 _ _ _ B0.out).trans (show _ = some (Value.slice (some ⟨br, offr, none⟩) x4.length c4) from rfl)
        have p_BM_0 := (cell_of_row W1 _ 0 _ _ _ BM.out).trans (show _ = some (Value.bool (m 0)) from rfl)
        have p_BM_1 := (cell_of_row W1 _ 1 _ _ _ BM.out).trans (show _ = some (Value.bool (m 1)) from rfl)
        have p_BM_2 := (cell_of_row W1 _ 2 _ _ _ BM.out).trans (show _ = some (Value.bool (m 2)) from rfl)
        have p_BM_3 := (cell_of_row W1 _ 3 _ _ _ BM.out).trans (show _ = some (Value.bool (m 3)) from rfl)
        rw [← hmv] at p_BM_0
        clear hmv
        have f3 := F3.out; have f4 := F4.out
        cases mv with
        | true =>
          have HZ := Lib.hid (HA1.out rfl).1
          have HB := Lib.hid (HA1.out rfl).2
          clear HA1 HA2
          go_wp2
          go_round
          case rel => exact ⟨j + 1, z + rv, true, by omega, by go_num, rfl, rfl, HZ, HB⟩
          case measure => simp [intOf]; omega
        | false =>
          have HZ := Lib.hid (HA2.out rfl).1
          have HB := Lib.hid (HA2.out rfl).2
          clear HA1 HA2
          go_wp2
          go_round
          case rel => exact ⟨j + 1, z, bb, by omega, by go_num, rfl, rfl, HZ, HB⟩
          case measure => simp [intOf]; omega
      · obtain ⟨mv, hmv⟩ : ∃ mv, mv = m 1 := ⟨_, rfl⟩
        rw [← hmv] at HA1 HA2
        have p_B0_0 := (cell_of_row W1 _ 0 _ _ _ B0.out).trans (show _ = some (Value.int .i64 sg) from rfl)
        have p_B0_1 := (cell_of_row W1 _ 1 _ _ _ B0.out).trans (show _ = some (Value.int .i64 ba) from rfl)
        have p_B0_2 := (cell_of_row W1 _ 2 _ _ _ B0.out).trans (show _ = some (Value.slice p2 x2.length c2) from rfl)
        have p_B0_3 := (cell_of_row W1 _ 3 _ _ _ B0.out).trans (show _ = some (Value.slice (some ⟨bt, offt, none⟩) x3.length c3) from rfl)
        have p_B0_4 := (cell_of_row W1 _ 4 _ _ _ B0.out).trans (show _ = some (Value.slice (some ⟨br, offr, none⟩) x4.length c4) from rfl)
        have p_BM_0 := (cell_of_row W1 _ 0 _ _ _ BM.out).trans (show _ = some (Value.bool (m 0)) from rfl)
        have p_BM_1 := (cell_of_row W1 _ 1 _ _ _ BM.out).trans (show _ = some (Value.bool (m 1)) from rfl)
        have p_BM_2 := (cell_of_row W1 _ 2 _ _ _ BM.out).trans (show _ = some (Value.bool (m 2)) from rfl)
        have p_BM_3 := (cell_of_row W1 _ 3 _ _ _ BM.out).trans (show _ = some (Value.bool (m 3)) from rfl)
        rw [← hmv] at p_BM_1
        clear hmv
        have f3 := F3.out; have f4 := F4.out
        cases mv with
        | true =>
          have HZ := Lib.hid (HA1.out rfl).1
          have HB := Lib.hid (HA1.out rfl).2
          clear HA1 HA2
          go_wp2
          go_round
          case rel => exact ⟨j + 1, z + rv, true, by omega, by go_num, rfl, rfl, HZ, HB⟩
          case measure => simp [intOf]; omega
        | false =>
          have HZ := Lib.hid (HA2.out rfl).1
          have HB := Lib.hid (HA2.out rfl).2
          clear HA1 HA2
          go_wp2
          go_round
          case rel => exact ⟨j + 1, z, bb, by omega, by go_num, rfl, rfl, HZ, HB⟩
          case measure => simp [intOf]; omega
      · obtain ⟨mv, hmv⟩ : ∃ mv, mv = m 2 := ⟨_, rfl⟩
        rw [← hmv] at HA1 HA2
        have p_B0_0 := (cell_of_row W1 _ 0 _ _ _ B0.out).trans (show _ = some (Value.int .i64 sg) from rfl)
        have p_B0_1 := (cell_of_row W1 _ 1 _ _ _ B0.out).trans (show _ = some (Value.int .i64 ba) from rfl)
        have p_B0_2 := (cell_of_row W1 _ 2 _ _ _ B0.out).trans (show _ = some (Value.slice p2 x2.length c2) from rfl)
        have p_B0_3 := (cell_of_row W1 _ 3 _ _ _ B0.out).trans (show _ = some (Value.slice (some ⟨bt, offt, none⟩) x3.length c3) from rfl)
        have p_B0_4 := (cell_of_row W1 _ 4 _ _ _ B0.out).trans (show _ = some (Value.slice (some ⟨br, offr, none⟩) x4.length c4) from rfl)
        have p_BM_0 := (cell_of_row W1 _ 0 _ _ _ BM.out).trans (show _ = some (Value.bool (m 0)) from rfl)
        have p_BM_1 := (cell_of_row W1 _ 1 _ _ _ BM.out).trans (show _ = some (Value.bool (m 1)) from rfl)
        have p_BM_2 := (cell_of_row W1 _ 2 _ _ _ BM.out).trans (show _ = some (Value.bool (m 2)) from rfl)
        have p_BM_3 := (cell_of_row W1 _ 3 _ _ _ BM.out).trans (show _ = some (Value.bool (m 3)) from rfl)
        rw [← hmv] at p_BM_2
        clear hmv
        have f3 := F3.out; have f4 := F4.out
        cases mv with
        | true =>
          have HZ := Lib.hid (HA1.out rfl).1
          have HB := Lib.hid (HA1.out rfl).2
          clear HA1 HA2
          go_wp2
          go_round
          case rel => exact ⟨j + 1, z + rv, true, by omega, by go_num, rfl, rfl, HZ, HB⟩
          case measure => simp [intOf]; omega
        | false =>
          have HZ := Lib.hid (HA2.out rfl).1
          have HB := Lib.hid (HA2.out rfl).2
          clear HA1 HA2
          go_wp2
          go_round
          case rel => exact ⟨j + 1, z, bb, by omega, by go_num, rfl, rfl, HZ, HB⟩
          case measure => simp [intOf]; omega
      · obtain ⟨mv, hmv⟩ : ∃ mv, mv = m 3 := ⟨_, rfl⟩
        rw [← hmv] at HA1 HA2
        have p_B0_0 := (cell_of_row W1 _ 0 _ _ _ B0.out).trans (show _ = some (Value.int .i64 sg) from rfl)
        have p_B0_1 := (cell_of_row W1 _ 1 _ _ _ B0.out).trans (show _ = some (Value.int .i64 ba) from rfl)
        have p_B0_2 := (cell_of_row W1 _ 2 _ _ _ B0.out).trans (show _ = some (Value.slice p2 x2.length c2) from rfl)
        have p_B0_3 := (cell_of_row W1 _ 3 _ _ _ B0.out).trans (show _ = some (Value.slice (some ⟨bt, offt, none⟩) x3.length c3) from rfl)
        have p_B0_4 := (cell_of_row W1 _ 4 _ _ _ B0.out).trans (show _ = some (Value.slice (some ⟨br, offr, none⟩) x4.length c4) from rfl)
        have p_BM_0 := (cell_of_row W1 _ 0 _ _ _ BM.out).trans (show _ = some (Value.bool (m 0)) from rfl)
        have p_BM_1 := (cell_of_row W1 _ 1 _ _ _ BM.out).trans (show _ = some (Value.bool (m 1)) from rfl)
        have p_BM_2 := (cell_of_row W1 _ 2 _ _ _ BM.out).trans (show _ = some (Value.bool (m 2)) from rfl)
        have p_BM_3 := (cell_of_row W1 _ 3 _ _ _ BM.out).trans (show _ = some (Value.bool (m 3)) from rfl)
        rw [← hmv] at p_BM_3
        clear hmv
        have f3 := F3.out; have f4 := F4.out
        cases mv with
        | true =>
          have HZ := Lib.hid (HA1.out rfl).1
          have HB := Lib.hid (HA1.out rfl).2
          clear HA1 HA2
          go_wp2
          go_round
          case rel => exact ⟨j + 1, z + rv, true, by omega, by go_num, rfl, rfl, HZ, HB⟩
          case measure => simp [intOf]; omega
        | false =>
          have HZ := Lib.hid (HA2.out rfl).1
          have HB := Lib.hid (HA2.out rfl).2
          clear HA1 HA2
          go_wp2
          go_round
          case rel => exact ⟨j + 1, z, bb, by omega, by go_num, rfl, rfl, HZ, HB⟩
          case measure => simp [intOf]; omega
    · obtain rfl : j = x3.length := by omega
      rw [HL3.out] at hz hbb
      cases bb with
      | true =>
        have HZ := Lib.hid (hz.out.trans (HYES.out hbb.out.symm))
        clear hz hbb HYES HNO
        go_wp2
        go_ret
        exact ⟨ret_n HZ.out, d.out⟩
      | false =>
        have HZ := Lib.hid (HNO.out hbb.out.symm)
        clear hz hbb HYES HNO
        go_wp2
        go_ret
        exact ⟨ret_n HZ.out.symm, d.out⟩
set_option maxHeartbeats 8000000 in
set_option maxRecDepth 100000 in
theorem sumCo (m : Int → Bool) (v : Value) (l : List ChargeD) (w : World) (h : SlR tCharge w v l) (hs : zL tCharge l ≤ 1048576) :
    Calls Try.prog 33 #[v, .func (.func 38) #[.agg #[.bool (m 0), .bool (m 1), .bool (m 2), .bool (m 3)]] #[]] w (fun e w' => e = .returned (.int .i64 (totalL (coX m) l)) ∧ Below w.heap.size w w') := by
  have hlen := zL_len hs
  have HS := Lib.hid hs
  have H := Lib.hid h
  obtain ⟨a, cap, rfl⟩ := slR_len h
  clear h hs
  go_enter Try.func33, Try.ntmps33
  go_wp2
  go_loopw [5, 10] (fun n i wr => ∃ (k : Nat) (s : Int), k ≤ l.length ∧ i = .int .i64 k ∧ n = .int .i64 s ∧ Hid (s = totalTo (coX m) l k) ∧ Below w.heap.size w wr) (fun _ i _ => l.length - (intOf i).toNat)
  case atStart => exact ⟨0, 0, Nat.zero_le _, rfl, rfl, Lib.hid rfl, Below.refl _ _⟩
  case round =>
    obtain ⟨k, s, hk, rfl, rfl, hsum, c⟩ := hrel
    have cw := Lib.hid c
    have s1 := totalTo_bd (f := (coX m)) (coX_bd m) l k
    rw [← hsum.out] at s1
    obtain ⟨s1, s2'⟩ := s1
    have s2 : s ≤ 100000000 := by omega
    clear s2'
    by_cases hlt : k < l.length
    · have i1 : (0 : Int) ≤ (k : Int) := by omega
      have i2 : (k : Int) < (l.length : Int) := by omega
      have hz := zL_at HS.out hlt
      change tCharge.sz (l.getD k x0D) ≤ 1048576 at hz
      have HN : Hid (s + (coX m) (l.getD k x0D) = totalTo (coX m) l (k + 1)) := Lib.hid (by rw [totalTo_succ, hsum.out])
      obtain ⟨b, off, cap', p2, c2, p3, c3, p4, c4, hv, hbl, e0, e1, e2, e3, e4, s2, s3, s4⟩ := chg_at (slR_below tCharge_law H.out c) hlt
      simp only [Value.slice.injEq] at hv
      obtain ⟨rfl, _, rfl⟩ := hv
      have HBL := Lib.hid (show b < wr.heap.size from hbl)
      generalize l.getD k x0D = x at *
      obtain ⟨sg, ba, x2, x3, x4⟩ := x
      rw [tCharge_sz] at hz
      dsimp only at *
      clear hbl
      have hal : Below wr.heap.size wr (wr.alloc (.cells #[.int .i64 sg, .int .i64 ba, .slice p2 x2.length c2, .slice p3 x3.length c3, .slice p4 x4.length c4] 27)) := (Below.refl _ _).alloc (Nat.le_refl _) _
      have HC0 := costOf_any m sg ba (.slice p2 x2.length c2) (.slice p3 x3.length c3) (.slice p4 x4.length c4) x2 x3 x4 _ (slR_below tInt_law s2 hal) (slR_below tInt_law s3 hal) (slR_below tInt_law s4 hal) (by omega) (by omega) (by omega)
      have HC := Lib.hid (HC0.mono (fun e w' hh => (⟨hh.1, hal.trans (hh.2.mono hal.size)⟩ : e = .returned (.int .i64 ((coX m) (sg, ba, x2, x3, x4))) ∧ Below wr.heap.size wr w')))
      have hy := (coX_bd m) (sg, ba, x2, x3, x4)
      clear HC0 hal s2 s3 s4 hz hsum c
      generalize (coX m) (sg, ba, x2, x3, x4) = y at *
      obtain ⟨y1, y2⟩ := hy
      go_wp2_with fail
      refine HC.out.mono ?_
      rintro e w2 ⟨rfl, c2⟩
      have cw2 := Lib.hid (cw.out.trans (c2.mono cw.out.size))
      clear c2 HC e0 e1 e2 e3 e4
      go_wp2
      go_roundw
      case rel => exact ⟨k + 1, s + y, by omega, by go_num, rfl, HN, cw2.out⟩
      case measure => simp [intOf]; omega
    · obtain rfl : k = l.length := by omega
      have HT : Hid (s = totalL (coX m) l) := Lib.hid hsum.out
      clear hsum c
      go_wp2
      go_ret
      exact ⟨ret_n HT.out, cw.out⟩
set_option maxHeartbeats 8000000 in
set_option maxRecDepth 100000 in
theorem implCoalitionCost (v tv : Value) (l : List ChargeD) (ts : List Int) (w : World) (h : SlR tCharge w v l) (hs : zL tCharge l ≤ 1048576) (ht : SlR tInt w tv ts) (hnt : ts.length ≤ 1048576) :
    Calls Try.prog 26 #[v, tv] w (fun e w' => e = .returned (.int .i64 (totalL (coX (memB ts)) l)) ∧ Below w.heap.size w w') := by
  have HC0 := Lib.hid (coalitionOf_any tv ts w ht hnt)
  have HC1 := Lib.hid (fun u (c : Below w.heap.size w u) => sumCo (memB ts) v l u (slR_below tCharge_law h c) hs)
  have hmf : ∀ (fn : Fn) (first cap : Array Value) (w : World), (Instr.makeFunc fn first cap).run Try.prog w = .ok (.func fn first cap) w := fun _ _ _ _ => rfl
  clear h hs ht
  go_enter Try.func26, Try.ntmps26
  go_wp2_with fail
  refine HC0.out.mono ?_
  rintro e w1 ⟨rfl, c⟩
  have HC := Lib.hid (HC1.out w1 c)
  have C1 := Lib.hid c
  clear c HC0 HC1
  go_wp2_with fail
  refine HC.out.mono ?_
  rintro e w2 ⟨rfl, c⟩
  have C2 := Lib.hid (C1.out.trans (c.mono C1.out.size))
  clear c HC
  go_wp2
  go_ret
  exact ⟨rfl, C2.out⟩
end Go.Proofs.Ytjapbmaibgplkaa
namespace Go.Proofs.Ytjapbmaibgplkaa
open Go.RowKit
set_option linter.unusedVariables false
set_option linter.unusedSimpArgs false
set_option maxHeartbeats 32000000 in
set_option maxRecDepth 100000 in
theorem law_fnExactCoalitionCost (v0_0 : Value) (x0_0 : List (Int × Int × List Int × List Int × List Int)) (v1_0 : Value) (x1_0 : List Int) (r0 : Int) (w : World) (h0_0 : SlR tCharge w v0_0 x0_0) (h1_0 : SlR tInt w v1_0 x1_0) (o0_0 : tChargeS.ok x0_0) (o1_0 : tIntS.ok x1_0) 
    (hspec : ∀ (v0_0 v1_0 : Value) (w : World), SlR tCharge w v0_0 x0_0 → SlR tInt w v1_0 x1_0 → zL tCharge x0_0 ≤ 1048576 → x1_0.length ≤ 1048576 → Calls Try.prog 24 #[v0_0, v1_0] w (fun e w' => e = .returned (.int .i64 r0) ∧ Below w.heap.size w w'))
    (himpl : ∀ (v0_0 v1_0 : Value) (w : World), SlR tCharge w v0_0 x0_0 → SlR tInt w v1_0 x1_0 → zL tCharge x0_0 ≤ 1048576 → x1_0.length ≤ 1048576 → Calls Try.prog 26 #[v0_0, v1_0] w (fun e w' => e = .returned (.int .i64 r0) ∧ Below w.heap.size w w')) :
    Calls Try.prog 6 #[v0_0, v1_0] w fun e w' => e = .returned (.bool true) ∧ Below w.heap.size w w' := by
  obtain ⟨c0_0, k0_0, rfl⟩ := slR_len h0_0
  obtain ⟨c1_0, k1_0, rfl⟩ := slR_len h1_0
  have A0_0 := Lib.hid h0_0
  have A1_0 := Lib.hid h1_0
  have O0_0 := Lib.hid o0_0
  have O1_0 := Lib.hid o1_0
  clear h0_0 o0_0 h1_0 o1_0
  have HSP := Lib.hid hspec
  have HIM := Lib.hid himpl
  clear hspec himpl
  by_cases c0 : x1_0.length ≤ 1048576
  ·
    by_cases c1 : ((zL tCharge x0_0 : Nat) : Int) ≤ (1048576 : Int)
    ·
      have HZ0 : Hid (((zL tCharge x0_0 : Nat) : Int) ≤ (1048576 : Int)) := Lib.hid c1
      have HK0 : Hid ((1048576 : Int) ≤ 1048576) := Lib.hid (by omega)
      have hn0 : ¬ (1048576 : Int) - ((zL tCharge x0_0 : Nat) : Int) < 0 := by omega
      have hl1 : ¬ (1048576 : Int) < (x1_0.length : Int) := by omega
      have HL1 := Lib.hid c0
      have HT : Hid (zL tCharge x0_0 ≤ 1048576) := Lib.hid (by omega)
      have S0_0 : Hid (zL tCharge x0_0 ≤ 1048576) := Lib.hid (by omega)
      have S1_0 : Hid (zL tInt x1_0 ≤ 1048576) := Lib.hid (by rw [zL_ints]; exact HL1.out)
      have N0_0 := ndL_le tCharge_law (by decide) x0_0
      have N1_0 := ndL_le tInt_law (by decide) x1_0
      clear N0_0 N1_0
      have e0 : (r0 != r0) = false := by simp
      clear c0 c1
      go_enter Try.func6, Try.ntmps6
      go_wp2_with fail
      have d := Lib.hid (Below.refl w.heap.size w)
      refine (szChargeS_Y (.slice c0_0 x0_0.length k0_0) x0_0 ((1048576 : Int)) w (slR_below tCharge_law A0_0.out d.out) HZ0.out HK0.out).mono ?_
      rintro e v1 ⟨rfl, c1⟩
      replace d := Lib.hid (d.out.trans (c1.mono d.out.size))
      have Z_v1 := Lib.hid (show w.heap.size ≤ v1.heap.size from c1.size)
      clear c1
      go_wp2_with fail
      refine (toChargeS_S (.slice c0_0 x0_0.length k0_0) x0_0 v1 (slR_below tCharge_law A0_0.out d.out) S0_0.out).mono ?_
      rintro e v2 ⟨y, rfl, o, c2⟩
      replace d := Lib.hid (d.out.trans (c2.mono d.out.size))
      have Z_v2 := Lib.hid (show v1.heap.size ≤ v2.heap.size from c2.size)
      clear c2
      obtain ⟨ya2, yc2, rfl⟩ := slO_len o
      have P2 := Lib.hid (slO_lt tCharge_law o)
      have Q2 := Lib.hid (fun b (h : since v1 b ∧ b < v2.heap.size) => (show v1.heap.size ≤ b ∧ b < v2.heap.size from h))
      clear o
      go_wp2_with fail
      refine (toIntS_S (.slice c1_0 x1_0.length k1_0) x1_0 v2 (slR_below tInt_law A1_0.out d.out) S1_0.out).mono ?_
      rintro e v3 ⟨y, rfl, o, c3⟩
      replace P2 := Lib.hid (slO_fresh tCharge_law P2.out c3)
      replace d := Lib.hid (d.out.trans (c3.mono d.out.size))
      have Z_v3 := Lib.hid (show v2.heap.size ≤ v3.heap.size from c3.size)
      clear c3
      obtain ⟨ya3, yc3, rfl⟩ := slO_len o
      have P3 := Lib.hid (slO_lt tInt_law o)
      have Q3 := Lib.hid (fun b (h : since v2 b ∧ b < v3.heap.size) => (show v2.heap.size ≤ b ∧ b < v3.heap.size from h))
      clear o
      go_wp2_with fail
      refine (HSP.out (.slice ya2 x0_0.length yc2) (.slice ya3 x1_0.length yc3) v3 (slO_reads tCharge_law P2.out) (slO_reads tInt_law P3.out) HT.out HL1.out).mono ?_
      rintro e v4 ⟨rfl, c4⟩
      replace P2 := Lib.hid (slO_fresh tCharge_law P2.out c4)
      replace P3 := Lib.hid (slO_fresh tInt_law P3.out c4)
      replace d := Lib.hid (d.out.trans (c4.mono d.out.size))
      have Z_v4 := Lib.hid (show v3.heap.size ≤ v4.heap.size from c4.size)
      clear c4
      go_wp2_with fail
      refine (toChargeS_S (.slice c0_0 x0_0.length k0_0) x0_0 v4 (slR_below tCharge_law A0_0.out d.out) S0_0.out).mono ?_
      rintro e v5 ⟨y, rfl, o, c5⟩
      replace P2 := Lib.hid (slO_fresh tCharge_law P2.out c5)
      replace P3 := Lib.hid (slO_fresh tInt_law P3.out c5)
      replace d := Lib.hid (d.out.trans (c5.mono d.out.size))
      have Z_v5 := Lib.hid (show v4.heap.size ≤ v5.heap.size from c5.size)
      clear c5
      obtain ⟨ya5, yc5, rfl⟩ := slO_len o
      have P5 := Lib.hid (slO_lt tCharge_law o)
      have Q5 := Lib.hid (fun b (h : since v4 b ∧ b < v5.heap.size) => (show v4.heap.size ≤ b ∧ b < v5.heap.size from h))
      clear o
      go_wp2_with fail
      refine (toIntS_S (.slice c1_0 x1_0.length k1_0) x1_0 v5 (slR_below tInt_law A1_0.out d.out) S1_0.out).mono ?_
      rintro e v6 ⟨y, rfl, o, c6⟩
      replace P2 := Lib.hid (slO_fresh tCharge_law P2.out c6)
      replace P3 := Lib.hid (slO_fresh tInt_law P3.out c6)
      replace P5 := Lib.hid (slO_fresh tCharge_law P5.out c6)
      replace d := Lib.hid (d.out.trans (c6.mono d.out.size))
      have Z_v6 := Lib.hid (show v5.heap.size ≤ v6.heap.size from c6.size)
      clear c6
      obtain ⟨ya6, yc6, rfl⟩ := slO_len o
      have P6 := Lib.hid (slO_lt tInt_law o)
      have Q6 := Lib.hid (fun b (h : since v5 b ∧ b < v6.heap.size) => (show v5.heap.size ≤ b ∧ b < v6.heap.size from h))
      clear o
      go_wp2_with fail
      refine (HIM.out (.slice ya5 x0_0.length yc5) (.slice ya6 x1_0.length yc6) v6 (slO_reads tCharge_law P5.out) (slO_reads tInt_law P6.out) HT.out HL1.out).mono ?_
      rintro e v7 ⟨rfl, c7⟩
      replace P2 := Lib.hid (slO_fresh tCharge_law P2.out c7)
      replace P3 := Lib.hid (slO_fresh tInt_law P3.out c7)
      replace P5 := Lib.hid (slO_fresh tCharge_law P5.out c7)
      replace P6 := Lib.hid (slO_fresh tInt_law P6.out c7)
      replace d := Lib.hid (d.out.trans (c7.mono d.out.size))
      have Z_v7 := Lib.hid (show v6.heap.size ≤ v7.heap.size from c7.size)
      clear c7
      go_wp2_with fail
      refine (toChargeS_S (.slice c0_0 x0_0.length k0_0) x0_0 v7 (slR_below tCharge_law A0_0.out d.out) S0_0.out).mono ?_
      rintro e v8 ⟨y, rfl, o, c8⟩
      replace P2 := Lib.hid (slO_fresh tCharge_law P2.out c8)
      replace P3 := Lib.hid (slO_fresh tInt_law P3.out c8)
      replace P5 := Lib.hid (slO_fresh tCharge_law P5.out c8)
      replace P6 := Lib.hid (slO_fresh tInt_law P6.out c8)
      replace d := Lib.hid (d.out.trans (c8.mono d.out.size))
      have Z_v8 := Lib.hid (show v7.heap.size ≤ v8.heap.size from c8.size)
      clear c8
      obtain ⟨ya8, yc8, rfl⟩ := slO_len o
      have P8 := Lib.hid (slO_lt tCharge_law o)
      have Q8 := Lib.hid (fun b (h : since v7 b ∧ b < v8.heap.size) => (show v7.heap.size ≤ b ∧ b < v8.heap.size from h))
      clear o
      go_wp2_with fail
      refine (eqChargeS_S (.slice ya5 x0_0.length yc5) (.slice ya8 x0_0.length yc8) x0_0 v8 (slO_reads tCharge_law P5.out) (slO_reads tCharge_law P8.out) S0_0.out).mono ?_
      rintro e v9 ⟨rfl, c9⟩
      replace P2 := Lib.hid (slO_fresh tCharge_law P2.out c9)
      replace P3 := Lib.hid (slO_fresh tInt_law P3.out c9)
      replace P5 := Lib.hid (slO_fresh tCharge_law P5.out c9)
      replace P6 := Lib.hid (slO_fresh tInt_law P6.out c9)
      replace P8 := Lib.hid (slO_fresh tCharge_law P8.out c9)
      replace d := Lib.hid (d.out.trans (c9.mono d.out.size))
      have Z_v9 := Lib.hid (show v8.heap.size ≤ v9.heap.size from c9.size)
      clear c9
      clear P8
      go_wp2_with fail
      refine (toIntS_S (.slice c1_0 x1_0.length k1_0) x1_0 v9 (slR_below tInt_law A1_0.out d.out) S1_0.out).mono ?_
      rintro e v10 ⟨y, rfl, o, c10⟩
      replace P2 := Lib.hid (slO_fresh tCharge_law P2.out c10)
      replace P3 := Lib.hid (slO_fresh tInt_law P3.out c10)
      replace P5 := Lib.hid (slO_fresh tCharge_law P5.out c10)
      replace P6 := Lib.hid (slO_fresh tInt_law P6.out c10)
      replace d := Lib.hid (d.out.trans (c10.mono d.out.size))
      have Z_v10 := Lib.hid (show v9.heap.size ≤ v10.heap.size from c10.size)
      clear c10
      obtain ⟨ya10, yc10, rfl⟩ := slO_len o
      have P10 := Lib.hid (slO_lt tInt_law o)
      have Q10 := Lib.hid (fun b (h : since v9 b ∧ b < v10.heap.size) => (show v9.heap.size ≤ b ∧ b < v10.heap.size from h))
      clear o
      go_wp2_with fail
      refine (eqIntS_S (.slice ya6 x1_0.length yc6) (.slice ya10 x1_0.length yc10) x1_0 v10 (slO_reads tInt_law P6.out) (slO_reads tInt_law P10.out) S1_0.out).mono ?_
      rintro e v11 ⟨rfl, c11⟩
      replace P2 := Lib.hid (slO_fresh tCharge_law P2.out c11)
      replace P3 := Lib.hid (slO_fresh tInt_law P3.out c11)
      replace P5 := Lib.hid (slO_fresh tCharge_law P5.out c11)
      replace P6 := Lib.hid (slO_fresh tInt_law P6.out c11)
      replace P10 := Lib.hid (slO_fresh tInt_law P10.out c11)
      replace d := Lib.hid (d.out.trans (c11.mono d.out.size))
      have Z_v11 := Lib.hid (show v10.heap.size ≤ v11.heap.size from c11.size)
      clear c11
      clear P10
      go_wp2
      go_ret
      exact ⟨rfl, d.out⟩
    ·
      have hl1 : ¬ (1048576 : Int) < (x1_0.length : Int) := by omega
      have HL1 := Lib.hid c0
      have HZ0 : Hid ((1048576 : Int) < ((zL tCharge x0_0 : Nat) : Int)) := Lib.hid (by omega)
      have HP0 : Hid (0 ≤ (1048576 : Int)) := Lib.hid (by omega)
      have HK0 : Hid ((1048576 : Int) ≤ 1048576) := Lib.hid (by omega)
      clear c1
      go_enter Try.func6, Try.ntmps6
      go_wp2_with fail
      have d := Lib.hid (Below.refl w.heap.size w)
      refine (szChargeS_N (.slice c0_0 x0_0.length k0_0) x0_0 ((1048576 : Int)) w (slR_below tCharge_law A0_0.out d.out) HZ0.out HK0.out HP0.out O0_0.out).mono ?_
      rintro e v1 ⟨rfl, c1⟩
      replace d := Lib.hid (d.out.trans (c1.mono d.out.size))
      have Z_v1 := Lib.hid (show w.heap.size ≤ v1.heap.size from c1.size)
      clear c1
      go_wp2
      go_ret
      exact ⟨rfl, d.out⟩
  ·
    have hl1 : (1048576 : Int) < (x1_0.length : Int) := by omega
    have hm1 : (x1_0.length : Int) ≤ 9223372036854775807 := O1_0.out.1
    clear c0
    go_enter Try.func6, Try.ntmps6
    go_wp2
    go_ret
    exact ⟨rfl, Below.refl _ _⟩
end Go.Proofs.Ytjapbmaibgplkaa
