/-
  Texts of the proof, merged: QueryParL.
-/
import Derived.Test.YteelgogfpidcdaaDoorG9
namespace Go.Proofs.YteelgogfpidcdaaDoor
open Go.RowKit
set_option linter.unusedVariables false
set_option linter.unusedSimpArgs false
theorem nums_step {Q : List (List UInt8)} {k : Nat} (hk : k < Q.length) : (Q.take k).map numL ++ [numL (Q.getD k [])] = (Q.take (k + 1)).map numL := by
  rw [List.take_succ_eq_append_getElem hk, List.map_append]; simp [List.getD, hk]
theorem ints_one {w : World} {h : Nat} {x : Int} (hc : w.cell? ⟨h, 0, none⟩ = some (.int .i64 x)) (hl : h < w.heap.size) : Ints w (.slice (some ⟨h, 0, none⟩) 1 1) [x] :=
  Or.inr ⟨h, 0, 1, rfl, by simp, hl, fun j hj => by
    have : j = 0 := by simp at hj; omega
    subst this
    simpa using hc⟩
theorem ownsC_rowed {w w' : World} {R B C : Nat} {v : Value} {cs : List CondD} (h : OwnsC w B v cs) (hr : Rowed R C w w') (hR : R < B) (hC : ∀ b, v.ownBlock = some b → b < C) : OwnsC w' B v cs := by
  refine ⟨h.1, ?_⟩
  rcases h.2 with hn | ⟨g, cap, cur, rfl, hb', hg, rest⟩
  · exact .inl hn
  · refine .inr ⟨g, cap, cur, rfl, hb', ?_, rest⟩
    rw [hr.block g (hC g rfl) (by omega)]
    exact hg
set_option maxHeartbeats 16000000 in
set_option maxRecDepth 100000 in
theorem specQuery_long (l : List UInt8) (w : World) (hl : l.length ≤ 1048576) (h4 : ¬ (cutL 32 l).length < 4) :
    Calls Tryd.prog 25 #[.string (strB l)] w (ParAnsQ w (parQ l)) := by
  have HLL := Lib.hid hl
  have H4 := Lib.hid h4
  have i4 : ¬ ((cutL 32 l).length : Int) < 4 := by omega
  have d4 : decide (((cutL 32 l).length : Int) < 4) = false := decide_eq_false i4
  have HPQ : Hid (∀ k, ((cutL 32 l).getD k []).length ≤ 1048576) := Lib.hid (fun k => Nat.le_trans (cut_piece 32 l k) hl)
  have HPL := Lib.hid (cut_len 32 l)
  have HC := Lib.hid (fun w => specCut (strB l) 32 32 w rfl (by rw [strB_size]; exact hl))
  have HP0 := Lib.hid (cut_pos 32 l)
  go_enter Tryd.func25, Tryd.ntmps25
  go_wp2_with fail
  have hb0 : Below w.heap.size w (w.alloc (.cells #[.int .i64 0, .int .i64 0, .slice none 0 0, .slice none 0 0] 46)) := (Below.refl _ w).alloc (Nat.le_refl _) _
  have g0 := heap_alloc_new w (.cells #[.int .i64 0, .int .i64 0, .slice none 0 0, .slice none 0 0] 46)
  have hlt : w.heap.size < (w.alloc (.cells #[.int .i64 0, .int .i64 0, .slice none 0 0, .slice none 0 0] 46)).heap.size := by simp
  generalize w.alloc (.cells #[.int .i64 0, .int .i64 0, .slice none 0 0, .slice none 0 0] 46) = W at *
  refine (HC.out _).mono ?_
  rintro e w1 ⟨vp, rfl, op, b1⟩
  have c1 := hb0.trans (b1.mono hb0.size)
  have g1 := (b1.block w.heap.size hlt).trans g0
  have l1 := Nat.lt_of_lt_of_le hlt b1.size
  clear hb0 g0 hlt b1
  have ep : (strB l).data.toList = l := rfl
  rw [ep] at op
  clear ep
  obtain ⟨g, gcap, rfl⟩ := strs_head op HP0.out
  have hc0 := strs_at op 0 (by have := H4.out; omega)
  have hc1 := strs_at op 1 (by have := H4.out; omega)
  have i0 : (0 : Int) < ((cutL 32 l).length : Int) := by omega
  have i1 : (1 : Int) < ((cutL 32 l).length : Int) := by omega
  have j0 : 0 < (cutL 32 l).length := by omega
  have j1 : 1 < (cutL 32 l).length := by omega
  have HA0 := Lib.hid (fun w => specAfter (strB ((cutL 32 l).getD 0 [])) 113 113 w rfl (by rw [strB_size]; exact HPQ.out 0))
  have HA1 := Lib.hid (fun w => specAfter (strB ((cutL 32 l).getD 1 [])) 116 116 w rfl (by rw [strB_size]; exact HPQ.out 1))
  have HGE := Lib.hid (ownsS_ge op)
  have hgl := (ownsS_ge op).2
  have HO := Lib.hid op
  have G1 := Lib.hid g1
  have C1 := Lib.hid c1
  have L1 := Lib.hid l1
  clear op g1 c1 l1 hl h4
  have eb0 : (strB ((cutL 32 l).getD 0 [])).data.toList = (cutL 32 l).getD 0 [] := rfl
  have eb1 : (strB ((cutL 32 l).getD 1 [])).data.toList = (cutL 32 l).getD 1 [] := rfl
  rw [eb0] at HA0
  rw [eb1] at HA1
  clear eb0 eb1
  generalize hid : aftL 113 ((cutL 32 l).getD 0 []) = id at *
  generalize htn : aftL 116 ((cutL 32 l).getD 1 []) = tn at *
  have HID := Lib.hid hid
  have HTN := Lib.hid htn
  clear hid htn
  generalize hPP : cutL 32 l = P at *
  have HPP := Lib.hid hPP
  clear hPP
  have HP0t : Hid (∃ p0, P.getD 0 [] = p0) := Lib.hid ⟨_, rfl⟩
  obtain ⟨p0, hp0⟩ := HP0t.out
  obtain ⟨p1, hp1⟩ : ∃ p1, P.getD 1 [] = p1 := ⟨_, rfl⟩
  rw [hp0] at hc0 HA0
  rw [hp1] at hc1 HA1
  have HP0e := Lib.hid hp0
  have HP1e := Lib.hid hp1
  clear hp0 hp1 HP0t
  go_wp2
  go_cut [5] from 18 to 26 (fun q wx => ∃ R, q = .pointer (some ⟨R, 0, none⟩) ∧ w1.heap.size ≤ R ∧ wx.heap[R]? = some (.cells #[.int .i64 id, .int .i64 tn, .slice none 0 0, .slice none 0 0] 46 (0, 0)) ∧ Below w1.heap.size w1 wx)
  case first =>
    refine wp_region_held_drew (S := fun w' => w'.cell? ⟨g, 0, none⟩ = some (.string (strB p0)) ∧ w'.cell? ⟨g, 1, none⟩ = some (.string (strB p1))) (by kernel_rfl) ⟨hc0, hc1⟩ (fun hHeld => ?_)
    have e0 := below_drew (Below.refl w1.heap.size w1)
    refine take_runs (i := 0) (v := ?_) (by simp only [List.getElem?_toArray, List.getElem?_cons_succ, List.getElem?_cons_zero]; rfl) (by kernel_rfl) (by kernel_rfl) (by kernel_rfl) rfl (by exact fun _ _ _ h => h) (by rfl) ?_ (by assumption) ?_
    rotate_left
    · intro w hSw; (try dsimp only at hSw); go_simp; try (with_reducible rfl)
    try simp only [Act.put, List.setIfInBounds_toArray, List.set_cons_zero, List.set_cons_succ]
    refine take_runs (i := 1) (v := ?_) (by simp only [List.getElem?_toArray, List.getElem?_cons_succ, List.getElem?_cons_zero]; rfl) (by kernel_rfl) (by kernel_rfl) (by kernel_rfl) rfl (by exact fun _ _ _ h => h) (by rfl) ?_ (by assumption) ?_
    rotate_left
    · intro w hSw; (try dsimp only at hSw); go_simp; try (with_reducible rfl)
    try simp only [Act.put, List.setIfInBounds_toArray, List.set_cons_zero, List.set_cons_succ]
    refine take_runs (i := 2) (v := ?_) (by simp only [List.getElem?_toArray, List.getElem?_cons_succ, List.getElem?_cons_zero]; rfl) (by kernel_rfl) (by kernel_rfl) (by kernel_rfl) rfl (by exact fun _ _ _ h => h) (by rfl) ?_ (by assumption) ?_
    rotate_left
    · intro w hSw; (try dsimp only at hSw); go_simp; try (with_reducible rfl)
    try simp only [Act.put, List.setIfInBounds_toArray, List.set_cons_zero, List.set_cons_succ]
    refine take_runs (i := 4) (v := ?_) (by simp only [List.getElem?_toArray, List.getElem?_cons_succ, List.getElem?_cons_zero]; rfl) (by kernel_rfl) (by kernel_rfl) (by kernel_rfl) rfl (by exact fun _ _ _ h => h) (by rfl) ?_ (by assumption) ?_
    rotate_left
    · intro w hSw; (try dsimp only at hSw); go_simp; try (with_reducible rfl)
    try simp only [Act.put, List.setIfInBounds_toArray, List.set_cons_zero, List.set_cons_succ]
    refine take_runs (i := 5) (v := ?_) (by simp only [List.getElem?_toArray, List.getElem?_cons_succ, List.getElem?_cons_zero]; rfl) (by kernel_rfl) (by kernel_rfl) (by kernel_rfl) rfl (by exact fun _ _ _ h => h) (by rfl) ?_ (by assumption) ?_
    rotate_left
    · intro w hSw; (try dsimp only at hSw); go_simp; try (with_reducible rfl)
    try simp only [Act.put, List.setIfInBounds_toArray, List.set_cons_zero, List.set_cons_succ]
    refine take_runs (i := 6) (v := ?_) (by simp only [List.getElem?_toArray, List.getElem?_cons_succ, List.getElem?_cons_zero]; rfl) (by kernel_rfl) (by kernel_rfl) (by kernel_rfl) rfl (by exact fun _ _ _ h => h) (by rfl) ?_ (by assumption) ?_
    rotate_left
    · intro w hSw; (try dsimp only at hSw); go_simp; try (with_reducible rfl)
    try simp only [Act.put, List.setIfInBounds_toArray, List.set_cons_zero, List.set_cons_succ]
    refine wpAnyH_ready (rs := [3, 9]) (by kernel_rfl) (by simp) ?_
    refine (AllReadyH.cons (o := _) (by simp only [List.getElem?_toArray, List.getElem?_cons_succ, List.getElem?_cons_zero]; rfl) (fun K hK => ?_) (AllReadyH.cons (o := _) (by simp only [List.getElem?_toArray, List.getElem?_cons_succ, List.getElem?_cons_zero]; rfl) (fun K hK => ?_) AllReadyH.nil))
    · go_simp
      refine (HA0.out _).mono ?_
      rintro e x1 ⟨rfl, k1⟩
      have e1 : Below w1.heap.size w1 x1 := e0.trans (k1.mono e0.size)
      refine hK.out _ _ ⟨(e1.cell (p := ⟨g, 0, none⟩) hgl).trans hc0, (e1.cell (p := ⟨g, 1, none⟩) hgl).trans hc1⟩ (fun hHeld => ?_)
      clear hK K
      try simp only [Act.put, List.setIfInBounds_toArray, List.set_cons_zero, List.set_cons_succ]
      refine wpAnyH_ready (rs := [7, 9]) (by kernel_rfl) (by simp) ?_
      refine (AllReadyH.cons (o := _) (by simp only [List.getElem?_toArray, List.getElem?_cons_succ, List.getElem?_cons_zero]; rfl) (fun K hK => ?_) (AllReadyH.cons (o := _) (by simp only [List.getElem?_toArray, List.getElem?_cons_succ, List.getElem?_cons_zero]; rfl) (fun K hK => ?_) AllReadyH.nil))
      · go_simp
        refine (HA1.out _).mono ?_
        rintro e x2 ⟨rfl, k2⟩
        have e2 : Below w1.heap.size w1 x2 := e1.trans (k2.mono e1.size)
        refine hK.out _ _ ⟨(e2.cell (p := ⟨g, 0, none⟩) hgl).trans hc0, (e2.cell (p := ⟨g, 1, none⟩) hgl).trans hc1⟩ (fun hHeld => ?_)
        clear hK K
        try simp only [Act.put, List.setIfInBounds_toArray, List.set_cons_zero, List.set_cons_succ]
        refine take_runs (i := 8) (v := ?_) (by simp only [List.getElem?_toArray, List.getElem?_cons_succ, List.getElem?_cons_zero]; rfl) (by kernel_rfl) (by kernel_rfl) (by kernel_rfl) rfl (by exact fun _ _ _ h => h) (by rfl) ?_ (by assumption) ?_
        rotate_left
        · intro w hSw; (try dsimp only at hSw); go_simp; try (with_reducible rfl)
        try simp only [Act.put, List.setIfInBounds_toArray, List.set_cons_zero, List.set_cons_succ]
        refine wpAnyH_ready (rs := [9]) (by kernel_rfl) (by simp) ?_
        refine (AllReadyH.cons (o := _) (by simp only [List.getElem?_toArray, List.getElem?_cons_succ, List.getElem?_cons_zero]; rfl) (fun K hK => ?_) AllReadyH.nil)
        go_simp
        have gz : (x2.alloc (.cells #[.int .i64 0, .int .i64 0, .slice none 0 0, .slice none 0 0] 46)).heap[x2.heap.size]? = some (.cells #[.int .i64 0, .int .i64 0, .slice none 0 0, .slice none 0 0] 46 (0, 0)) := heap_alloc_new x2 (.cells #[.int .i64 0, .int .i64 0, .slice none 0 0, .slice none 0 0] 46)
        have hR : w1.heap.size ≤ x2.heap.size := e2.size
        have e3 := e2.trans (((Below.refl _ _).alloc (Nat.le_refl _) (.cells #[.int .i64 0, .int .i64 0, .slice none 0 0, .slice none 0 0] 46)).mono e2.size)
        obtain ⟨W4, hW4⟩ : ∃ W4, x2.alloc (.cells #[.int .i64 0, .int .i64 0, .slice none 0 0, .slice none 0 0] 46) = W4 := ⟨_, rfl⟩
        rw [hW4] at gz e3 ⊢
        clear hW4
        refine hK.out _ _ ⟨(e3.cell (p := ⟨g, 0, none⟩) hgl).trans hc0, (e3.cell (p := ⟨g, 1, none⟩) hgl).trans hc1⟩ (fun hHeld => ?_)
        clear hK K
        try simp only [Act.put, List.setIfInBounds_toArray, List.set_cons_zero, List.set_cons_succ]
        have z0 := (cell_of_row W4 _ 0 _ _ _ gz).trans (show _ = some (Value.int .i64 0) from rfl)
        have f0 := frozen_of_row W4 _ 0 _ _ gz
        have z1 := (cell_of_row W4 _ 1 _ _ _ gz).trans (show _ = some (Value.int .i64 0) from rfl)
        have f1 := frozen_of_row W4 _ 1 _ _ gz
        have z2 := (cell_of_row W4 _ 2 _ _ _ gz).trans (show _ = some (Value.slice none 0 0) from rfl)
        have f2 := frozen_of_row W4 _ 2 _ _ gz
        have z3 := (cell_of_row W4 _ 3 _ _ _ gz).trans (show _ = some (Value.slice none 0 0) from rfl)
        have f3 := frozen_of_row W4 _ 3 _ _ gz
        have r0 := heap_setCell_same W4 (x2.heap.size) 0 _ _ (.int .i64 id) gz
        have r1 := heap_setCell_same _ (x2.heap.size) 1 _ _ (.int .i64 tn) r0
        have r2 := heap_setCell_same _ (x2.heap.size) 2 _ _ (.slice none 0 0) r1
        have r3 := heap_setCell_same _ (x2.heap.size) 3 _ _ (.slice none 0 0) r2
        have eS := ((((e3.setCell (p := ⟨x2.heap.size, 0, none⟩) hR (.int .i64 id)).setCell (p := ⟨x2.heap.size, 1, none⟩) hR (.int .i64 tn)).setCell (p := ⟨x2.heap.size, 2, none⟩) hR (.slice none 0 0)).setCell (p := ⟨x2.heap.size, 3, none⟩) hR (.slice none 0 0))
        refine wpAnyH_ready (rs := [10]) (by kernel_rfl) (by simp) ?_
        refine (AllReadyH.cons (o := _) (by simp only [List.getElem?_toArray, List.getElem?_cons_succ, List.getElem?_cons_zero]; rfl) (fun K hK => ?_) AllReadyH.nil)
        go_simp
        refine hK.out _ _ ⟨(eS.cell (p := ⟨g, 0, none⟩) hgl).trans hc0, (eS.cell (p := ⟨g, 1, none⟩) hgl).trans hc1⟩ (fun hHeld => ?_)
        clear hK K
        try simp only [Act.put, List.setIfInBounds_toArray, List.set_cons_zero, List.set_cons_succ]
        refine wpAnyH_done (by kernel_rfl) ?_ _
        try go_wp2_with fail
        go_meet
        exact ⟨x2.heap.size, rfl, hR, r3, eS⟩
      · go_simp
        have gz : (x1.alloc (.cells #[.int .i64 0, .int .i64 0, .slice none 0 0, .slice none 0 0] 46)).heap[x1.heap.size]? = some (.cells #[.int .i64 0, .int .i64 0, .slice none 0 0, .slice none 0 0] 46 (0, 0)) := heap_alloc_new x1 (.cells #[.int .i64 0, .int .i64 0, .slice none 0 0, .slice none 0 0] 46)
        have hR : w1.heap.size ≤ x1.heap.size := e1.size
        have e2 := e1.trans (((Below.refl _ _).alloc (Nat.le_refl _) (.cells #[.int .i64 0, .int .i64 0, .slice none 0 0, .slice none 0 0] 46)).mono e1.size)
        obtain ⟨W4, hW4⟩ : ∃ W4, x1.alloc (.cells #[.int .i64 0, .int .i64 0, .slice none 0 0, .slice none 0 0] 46) = W4 := ⟨_, rfl⟩
        rw [hW4] at gz e2 ⊢
        clear hW4
        refine hK.out _ _ ⟨(e2.cell (p := ⟨g, 0, none⟩) hgl).trans hc0, (e2.cell (p := ⟨g, 1, none⟩) hgl).trans hc1⟩ (fun hHeld => ?_)
        clear hK K
        try simp only [Act.put, List.setIfInBounds_toArray, List.set_cons_zero, List.set_cons_succ]
        refine wpAnyH_ready (rs := [7]) (by kernel_rfl) (by simp) ?_
        refine (AllReadyH.cons (o := _) (by simp only [List.getElem?_toArray, List.getElem?_cons_succ, List.getElem?_cons_zero]; rfl) (fun K hK => ?_) AllReadyH.nil)
        go_simp
        refine (HA1.out _).mono ?_
        rintro e x3 ⟨rfl, k3⟩
        have e3 : Below w1.heap.size w1 x3 := e2.trans (k3.mono e2.size)
        replace gz := (k3.block _ (Array.getElem?_eq_some_iff.1 gz).1).trans gz
        refine hK.out _ _ ⟨(e3.cell (p := ⟨g, 0, none⟩) hgl).trans hc0, (e3.cell (p := ⟨g, 1, none⟩) hgl).trans hc1⟩ (fun hHeld => ?_)
        clear hK K
        try simp only [Act.put, List.setIfInBounds_toArray, List.set_cons_zero, List.set_cons_succ]
        refine take_runs (i := 8) (v := ?_) (by simp only [List.getElem?_toArray, List.getElem?_cons_succ, List.getElem?_cons_zero]; rfl) (by kernel_rfl) (by kernel_rfl) (by kernel_rfl) rfl (by exact fun _ _ _ h => h) (by rfl) ?_ (by assumption) ?_
        rotate_left
        · intro w hSw; (try dsimp only at hSw); go_simp; try (with_reducible rfl)
        try simp only [Act.put, List.setIfInBounds_toArray, List.set_cons_zero, List.set_cons_succ]
        have z0 := (cell_of_row x3 _ 0 _ _ _ gz).trans (show _ = some (Value.int .i64 0) from rfl)
        have f0 := frozen_of_row x3 _ 0 _ _ gz
        have z1 := (cell_of_row x3 _ 1 _ _ _ gz).trans (show _ = some (Value.int .i64 0) from rfl)
        have f1 := frozen_of_row x3 _ 1 _ _ gz
        have z2 := (cell_of_row x3 _ 2 _ _ _ gz).trans (show _ = some (Value.slice none 0 0) from rfl)
        have f2 := frozen_of_row x3 _ 2 _ _ gz
        have z3 := (cell_of_row x3 _ 3 _ _ _ gz).trans (show _ = some (Value.slice none 0 0) from rfl)
        have f3 := frozen_of_row x3 _ 3 _ _ gz
        have r0 := heap_setCell_same x3 (x1.heap.size) 0 _ _ (.int .i64 id) gz
        have r1 := heap_setCell_same _ (x1.heap.size) 1 _ _ (.int .i64 tn) r0
        have r2 := heap_setCell_same _ (x1.heap.size) 2 _ _ (.slice none 0 0) r1
        have r3 := heap_setCell_same _ (x1.heap.size) 3 _ _ (.slice none 0 0) r2
        have eS := ((((e3.setCell (p := ⟨x1.heap.size, 0, none⟩) hR (.int .i64 id)).setCell (p := ⟨x1.heap.size, 1, none⟩) hR (.int .i64 tn)).setCell (p := ⟨x1.heap.size, 2, none⟩) hR (.slice none 0 0)).setCell (p := ⟨x1.heap.size, 3, none⟩) hR (.slice none 0 0))
        refine wpAnyH_ready (rs := [10]) (by kernel_rfl) (by simp) ?_
        refine (AllReadyH.cons (o := _) (by simp only [List.getElem?_toArray, List.getElem?_cons_succ, List.getElem?_cons_zero]; rfl) (fun K hK => ?_) AllReadyH.nil)
        go_simp
        refine hK.out _ _ ⟨(eS.cell (p := ⟨g, 0, none⟩) hgl).trans hc0, (eS.cell (p := ⟨g, 1, none⟩) hgl).trans hc1⟩ (fun hHeld => ?_)
        clear hK K
        try simp only [Act.put, List.setIfInBounds_toArray, List.set_cons_zero, List.set_cons_succ]
        refine wpAnyH_done (by kernel_rfl) ?_ _
        try go_wp2_with fail
        go_meet
        exact ⟨x1.heap.size, rfl, hR, r3, eS⟩
    · go_simp
      have gz : ((w1.alloc (.cells #[.int .i64 0, .int .i64 0, .slice none 0 0, .slice none 0 0] 46)).drew).heap[w1.heap.size]? = some (.cells #[.int .i64 0, .int .i64 0, .slice none 0 0, .slice none 0 0] 46 (0, 0)) := heap_alloc_new w1 (.cells #[.int .i64 0, .int .i64 0, .slice none 0 0, .slice none 0 0] 46)
      have hR : w1.heap.size ≤ w1.heap.size := Nat.le_refl _
      have e1 : Below w1.heap.size w1 ((w1.alloc (.cells #[.int .i64 0, .int .i64 0, .slice none 0 0, .slice none 0 0] 46)).drew) := below_drew ((Below.refl _ _).alloc (Nat.le_refl _) _)
      obtain ⟨W4, hW4⟩ : ∃ W4, (w1.alloc (.cells #[.int .i64 0, .int .i64 0, .slice none 0 0, .slice none 0 0] 46)).drew = W4 := ⟨_, rfl⟩
      rw [hW4] at gz e1 ⊢
      clear hW4
      refine hK.out _ _ ⟨(e1.cell (p := ⟨g, 0, none⟩) hgl).trans hc0, (e1.cell (p := ⟨g, 1, none⟩) hgl).trans hc1⟩ (fun hHeld => ?_)
      clear hK K
      try simp only [Act.put, List.setIfInBounds_toArray, List.set_cons_zero, List.set_cons_succ]
      refine wpAnyH_ready (rs := [3]) (by kernel_rfl) (by simp) ?_
      refine (AllReadyH.cons (o := _) (by simp only [List.getElem?_toArray, List.getElem?_cons_succ, List.getElem?_cons_zero]; rfl) (fun K hK => ?_) AllReadyH.nil)
      go_simp
      refine (HA0.out _).mono ?_
      rintro e x2 ⟨rfl, k2⟩
      have e2 : Below w1.heap.size w1 x2 := e1.trans (k2.mono e1.size)
      replace gz := (k2.block _ (Array.getElem?_eq_some_iff.1 gz).1).trans gz
      refine hK.out _ _ ⟨(e2.cell (p := ⟨g, 0, none⟩) hgl).trans hc0, (e2.cell (p := ⟨g, 1, none⟩) hgl).trans hc1⟩ (fun hHeld => ?_)
      clear hK K
      try simp only [Act.put, List.setIfInBounds_toArray, List.set_cons_zero, List.set_cons_succ]
      refine wpAnyH_ready (rs := [7]) (by kernel_rfl) (by simp) ?_
      refine (AllReadyH.cons (o := _) (by simp only [List.getElem?_toArray, List.getElem?_cons_succ, List.getElem?_cons_zero]; rfl) (fun K hK => ?_) AllReadyH.nil)
      go_simp
      refine (HA1.out _).mono ?_
      rintro e x3 ⟨rfl, k3⟩
      have e3 : Below w1.heap.size w1 x3 := e2.trans (k3.mono e2.size)
      replace gz := (k3.block _ (Array.getElem?_eq_some_iff.1 gz).1).trans gz
      refine hK.out _ _ ⟨(e3.cell (p := ⟨g, 0, none⟩) hgl).trans hc0, (e3.cell (p := ⟨g, 1, none⟩) hgl).trans hc1⟩ (fun hHeld => ?_)
      clear hK K
      try simp only [Act.put, List.setIfInBounds_toArray, List.set_cons_zero, List.set_cons_succ]
      refine take_runs (i := 8) (v := ?_) (by simp only [List.getElem?_toArray, List.getElem?_cons_succ, List.getElem?_cons_zero]; rfl) (by kernel_rfl) (by kernel_rfl) (by kernel_rfl) rfl (by exact fun _ _ _ h => h) (by rfl) ?_ (by assumption) ?_
      rotate_left
      · intro w hSw; (try dsimp only at hSw); go_simp; try (with_reducible rfl)
      try simp only [Act.put, List.setIfInBounds_toArray, List.set_cons_zero, List.set_cons_succ]
      have z0 := (cell_of_row x3 _ 0 _ _ _ gz).trans (show _ = some (Value.int .i64 0) from rfl)
      have f0 := frozen_of_row x3 _ 0 _ _ gz
      have z1 := (cell_of_row x3 _ 1 _ _ _ gz).trans (show _ = some (Value.int .i64 0) from rfl)
      have f1 := frozen_of_row x3 _ 1 _ _ gz
      have z2 := (cell_of_row x3 _ 2 _ _ _ gz).trans (show _ = some (Value.slice none 0 0) from rfl)
      have f2 := frozen_of_row x3 _ 2 _ _ gz
      have z3 := (cell_of_row x3 _ 3 _ _ _ gz).trans (show _ = some (Value.slice none 0 0) from rfl)
      have f3 := frozen_of_row x3 _ 3 _ _ gz
      have r0 := heap_setCell_same x3 (w1.heap.size) 0 _ _ (.int .i64 id) gz
      have r1 := heap_setCell_same _ (w1.heap.size) 1 _ _ (.int .i64 tn) r0
      have r2 := heap_setCell_same _ (w1.heap.size) 2 _ _ (.slice none 0 0) r1
      have r3 := heap_setCell_same _ (w1.heap.size) 3 _ _ (.slice none 0 0) r2
      have eS := ((((e3.setCell (p := ⟨w1.heap.size, 0, none⟩) hR (.int .i64 id)).setCell (p := ⟨w1.heap.size, 1, none⟩) hR (.int .i64 tn)).setCell (p := ⟨w1.heap.size, 2, none⟩) hR (.slice none 0 0)).setCell (p := ⟨w1.heap.size, 3, none⟩) hR (.slice none 0 0))
      refine wpAnyH_ready (rs := [10]) (by kernel_rfl) (by simp) ?_
      refine (AllReadyH.cons (o := _) (by simp only [List.getElem?_toArray, List.getElem?_cons_succ, List.getElem?_cons_zero]; rfl) (fun K hK => ?_) AllReadyH.nil)
      go_simp
      refine hK.out _ _ ⟨(eS.cell (p := ⟨g, 0, none⟩) hgl).trans hc0, (eS.cell (p := ⟨g, 1, none⟩) hgl).trans hc1⟩ (fun hHeld => ?_)
      clear hK K
      try simp only [Act.put, List.setIfInBounds_toArray, List.set_cons_zero, List.set_cons_succ]
      refine wpAnyH_done (by kernel_rfl) ?_ _
      try go_wp2_with fail
      go_meet
      exact ⟨w1.heap.size, rfl, hR, r3, eS⟩
  case rest =>
    obtain ⟨R, rfl, hR, hbx4, hbel4⟩ := hcut
    have O4 := Lib.hid (ownsS_below HO.out hbel4)
    have HBX := Lib.hid hbx4
    have HB4 := Lib.hid hbel4
    have HR4 := Lib.hid (Array.getElem?_eq_some_iff.1 hbx4).1
    have HGQ0 : Hid (g < wc.heap.size ∧ g ≠ R) := Lib.hid ⟨Nat.lt_of_lt_of_le hgl hbel4.size, by omega⟩
    have HNQ : Hid (P.length ≤ 1048577) := Lib.hid (by have := HPL.out; have := HLL.out; omega)
    clear hbx4 hbel4 hc0 hc1 HA0 HA1
    go_wp2
    go_loopw [7] (fun i wr => ∃ (j m : Nat) (cv : Value), j ≤ (P.length - 4) / 2 ∧ Hid (m = 2 + 2 * j) ∧ i = .int .i64 m ∧ wr.heap[R]? = some (.cells #[.int .i64 id, .int .i64 tn, cv, .slice none 0 0] 46 (0, 0)) ∧ OwnsC wr wc.heap.size cv ((List.range j).map (condOf P)) ∧ Rowed R wc.heap.size wc wr) (fun i _ => P.length - (intOf i).toNat)
    case atStart => exact ⟨0, 2, .slice none 0 0, Nat.zero_le _, Lib.hid rfl, rfl, HBX.out, ownsC_nil _ _, Rowed.refl _ _ _⟩
    case round =>
      obtain ⟨j, m, cv, hj, hmj, rfl, hbx, hown, hrw⟩ := hrel
      have hm0 := hmj.out
      by_cases hlt : j < (P.length - 4) / 2
      · obtain ⟨va, vcap, rfl⟩ := ownsC_len hown
        have hcell : wr.cell? ⟨g, m, none⟩ = some (.string (strB (P.getD m []))) := by
          have h1 := strs_at O4.out m (by omega)
          unfold World.cell? at h1 ⊢
          rw [hrw.block g HGQ0.out.1 HGQ0.out.2]; exact h1
        have hcelb : wr.cell? ⟨g, m + 1, none⟩ = some (.string (strB (P.getD (m + 1) []))) := by
          have h1 := strs_at O4.out (m + 1) (by omega)
          unfold World.cell? at h1 ⊢
          rw [hrw.block g HGQ0.out.1 HGQ0.out.2]; exact h1
        have HS := Lib.hid (conds_next P j)
        have hco : condOf P j = (aftL 102 (P.getD m []), rngL (P.getD (m + 1) [])) := by unfold condOf; rw [hm0, show 2 + 2 * j + 1 = 3 + 2 * j by omega]
        rw [hco] at HS
        have HN := Lib.hid (fun w => specAfter (strB (P.getD m [])) 102 102 w rfl (by rw [strB_size]; exact HPQ.out m))
        have HRG := Lib.hid (fun w => specRange (strB (P.getD (m + 1) [])) w (by rw [strB_size]; exact HPQ.out (m + 1)))
        have ea : (strB (P.getD m [])).data.toList = P.getD m [] := rfl
        have eb : (strB (P.getD (m + 1) [])).data.toList = P.getD (m + 1) [] := rfl
        rw [ea] at HN
        rw [eb] at HRG
        clear ea eb hco
        have i2 : (m : Int) + 1 < (P.length : Int) - 2 := by omega
        have i3 : m < P.length := by omega
        have i5 : m + 1 < P.length := by omega
        have i6 : (m : Int) < (P.length : Int) := by omega
        have i7 : (m : Int) + 1 < (P.length : Int) := by omega
        have i8 : (0 : Int) ≤ (m : Int) := by omega
        have i9 : (0 : Int) ≤ (m : Int) + 1 := by omega
        have e9 : ((m : Int) + 1).toNat = m + 1 := by omega
        have im : m ≤ 1048576 := by have := HNQ.out; omega
        have iP : P.length ≤ 1048577 := HNQ.out
        have w1 : IntKind.i64.wrap ((m : Int) + 1) = (m : Int) + 1 := IntWalk.i64_in _ (by omega)
        have w2 : IntKind.i64.wrap ((P.length : Int) - 2) = (P.length : Int) - 2 := IntWalk.i64_in _ (by omega)
        have hbl := (Array.getElem?_eq_some_iff.1 hbx).1
        have hgl2 : g < wr.heap.size := Nat.lt_of_lt_of_le HGQ0.out.1 hrw.size
        generalize P.getD m [] = qk at *
        generalize P.getD (m + 1) [] = qm at *
        have HJ := Lib.hid hj
        have HLT := Lib.hid hlt
        clear hm0 hj hlt
        go_wp2_with fail
        refine (HRG.out _).mono ?_
        rintro e wn ⟨rfl, bn⟩
        replace hcell := (bn.cell (p := ⟨g, m, none⟩) hgl2).trans hcell
        replace hbx := (bn.block R hbl).trans hbx
        replace hown := ownsC_below hown bn
        replace hrw := hrw.below bn hrw.size
        replace hgl2 := Nat.lt_of_lt_of_le hgl2 bn.size
        replace hbl := (Array.getElem?_eq_some_iff.1 hbx).1
        clear bn hcelb
        have q2 := (cell_of_row wn _ 2 _ _ _ hbx).trans (show _ = some (Value.slice va ((List.range j).map (condOf P)).length vcap) from rfl)
        have hxl : ((List.range j).map (condOf P)).length = j := by simp
        have HKL : Hid (((List.range j).map (condOf P)).length ≤ 1048576) := Lib.hid (by rw [hxl]; have := HJ.out; have := HNQ.out; omega)
        generalize aftL 102 qk = fa at *
        obtain ⟨lo, hlo⟩ : ∃ lo, (rngL qm).1 = lo := ⟨_, rfl⟩
        obtain ⟨hi, hhi⟩ : ∃ hi, (rngL qm).2 = hi := ⟨_, rfl⟩
        rw [show rngL qm = (lo, hi) by rw [← hlo, ← hhi]] at HS
        rw [hlo, hhi]
        clear hlo hhi hxl
        generalize (List.range j).map (condOf P) = cs at *
        have HW := Lib.hid (And.intro hbx (And.intro hown hrw))
        clear hbx hown hrw
        have HR5 : Hid (R < wc.heap.size) := HR4
        have HGQ := HGQ0
        go_wp2
        refine wp_region_held_drew (S := fun w' => w'.cell? ⟨g, m, none⟩ = some (.string (strB qk))) (by kernel_rfl) hcell (fun hHeld => ?_)
        refine take_runs (i := 0) (v := ?_) (by simp only [List.getElem?_toArray, List.getElem?_cons_succ, List.getElem?_cons_zero]; rfl) (by kernel_rfl) (by kernel_rfl) (by kernel_rfl) rfl (by exact fun _ _ _ h => h) (by rfl) ?_ (by assumption) ?_
        rotate_left
        · intro w hSw; (try dsimp only at hSw); go_simp; try (with_reducible rfl)
        try simp only [Act.put, List.setIfInBounds_toArray, List.set_cons_zero, List.set_cons_succ]
        refine take_runs (i := 2) (v := ?_) (by simp only [List.getElem?_toArray, List.getElem?_cons_succ, List.getElem?_cons_zero]; rfl) (by kernel_rfl) (by kernel_rfl) (by kernel_rfl) rfl (by exact fun _ _ _ h => h) (by rfl) ?_ (by assumption) ?_
        rotate_left
        · intro w hSw; (try dsimp only at hSw); go_simp; try (with_reducible rfl)
        try simp only [Act.put, List.setIfInBounds_toArray, List.set_cons_zero, List.set_cons_succ]
        refine take_runs (i := 3) (v := ?_) (by simp only [List.getElem?_toArray, List.getElem?_cons_succ, List.getElem?_cons_zero]; rfl) (by kernel_rfl) (by kernel_rfl) (by kernel_rfl) rfl (by exact fun _ _ _ h => h) (by rfl) ?_ (by assumption) ?_
        rotate_left
        · intro w hSw; (try dsimp only at hSw); go_simp; try (with_reducible rfl)
        try simp only [Act.put, List.setIfInBounds_toArray, List.set_cons_zero, List.set_cons_succ]
        refine take_runs (i := 4) (v := ?_) (by simp only [List.getElem?_toArray, List.getElem?_cons_succ, List.getElem?_cons_zero]; rfl) (by kernel_rfl) (by kernel_rfl) (by kernel_rfl) rfl (by exact fun _ _ _ h => h) (by rfl) ?_ (by assumption) ?_
        rotate_left
        · intro w hSw; (try dsimp only at hSw); go_simp; try (with_reducible rfl)
        try simp only [Act.put, List.setIfInBounds_toArray, List.set_cons_zero, List.set_cons_succ]
        refine take_runs (i := 5) (v := ?_) (by simp only [List.getElem?_toArray, List.getElem?_cons_succ, List.getElem?_cons_zero]; rfl) (by kernel_rfl) (by kernel_rfl) (by kernel_rfl) rfl (by exact fun _ _ _ h => h) (by rfl) ?_ (by assumption) ?_
        rotate_left
        · intro w hSw; (try dsimp only at hSw); go_simp; try (with_reducible rfl)
        try simp only [Act.put, List.setIfInBounds_toArray, List.set_cons_zero, List.set_cons_succ]
        refine take_runs (i := 7) (v := ?_) (by simp only [List.getElem?_toArray, List.getElem?_cons_succ, List.getElem?_cons_zero]; rfl) (by kernel_rfl) (by kernel_rfl) (by kernel_rfl) rfl (by exact fun _ _ _ h => h) (by rfl) ?_ (by assumption) ?_
        rotate_left
        · intro w hSw; (try dsimp only at hSw); go_simp; try (with_reducible rfl)
        try simp only [Act.put, List.setIfInBounds_toArray, List.set_cons_zero, List.set_cons_succ]
        refine take_runs (i := 8) (v := ?_) (by simp only [List.getElem?_toArray, List.getElem?_cons_succ, List.getElem?_cons_zero]; rfl) (by kernel_rfl) (by kernel_rfl) (by kernel_rfl) rfl (by exact fun _ _ _ h => h) (by rfl) ?_ (by assumption) ?_
        rotate_left
        · intro w hSw; (try dsimp only at hSw); go_simp; try (with_reducible rfl)
        try simp only [Act.put, List.setIfInBounds_toArray, List.set_cons_zero, List.set_cons_succ]
        refine wpAnyH_ready (rs := [1, 6]) (by kernel_rfl) (by simp) ?_
        refine (AllReadyH.cons (o := _) (by simp only [List.getElem?_toArray, List.getElem?_cons_succ, List.getElem?_cons_zero]; rfl) (fun K hK => ?_) (AllReadyH.cons (o := _) (by simp only [List.getElem?_toArray, List.getElem?_cons_succ, List.getElem?_cons_zero]; rfl) (fun K hK => ?_) AllReadyH.nil))
        · go_simp
          refine hK.out _ _ hcell (fun hHeld => ?_)
          clear hK K
          try simp only [Act.put, List.setIfInBounds_toArray, List.set_cons_zero, List.set_cons_succ]
          refine wpAnyH_ready (rs := [6]) (by kernel_rfl) (by simp) ?_
          refine (AllReadyH.cons (o := _) (by simp only [List.getElem?_toArray, List.getElem?_cons_succ, List.getElem?_cons_zero]; rfl) (fun K hK => ?_) AllReadyH.nil)
          go_simp
          refine (HN.out _).mono ?_
          rintro e w6 ⟨rfl, b6'⟩
          have b6 : Below wn.heap.size wn w6 := ⟨b6'.os, b6'.tape, b6'.output, b6'.size, b6'.block⟩
          have s6 := (b6.cell (p := ⟨g, m, none⟩) hgl2).trans hcell
          have p6 := (b6.cell (p := ⟨R, 2, none⟩) hbl).trans q2
          refine hK.out _ _ s6 (fun hHeld => ?_)
          clear hK K
          try simp only [Act.put, List.setIfInBounds_toArray, List.set_cons_zero, List.set_cons_succ]
          refine take_runs (i := 9) (v := ?_) (by simp only [List.getElem?_toArray, List.getElem?_cons_succ, List.getElem?_cons_zero]; rfl) (by kernel_rfl) (by kernel_rfl) (by kernel_rfl) rfl (by exact fun _ _ _ h => h) (by rfl) ?_ (by assumption) ?_
          rotate_left
          · intro w hSw; (try dsimp only at hSw); go_simp; try (with_reducible rfl)
          try simp only [Act.put, List.setIfInBounds_toArray, List.set_cons_zero, List.set_cons_succ]
          refine wpAnyH_ready (rs := [10]) (by kernel_rfl) (by simp) ?_
          refine (AllReadyH.cons (o := _) (by simp only [List.getElem?_toArray, List.getElem?_cons_succ, List.getElem?_cons_zero]; rfl) (fun K hK => ?_) AllReadyH.nil)
          go_simp
          have hA : Below w6.heap.size w6 (w6.alloc (.cells #[.int .i64 fa, .int .i64 lo, .int .i64 hi] 79)) := (Below.refl _ w6).alloc (Nat.le_refl _) _
          have q7 : (w6.alloc (.cells #[.int .i64 fa, .int .i64 lo, .int .i64 hi] 79)).cell? ⟨w6.heap.size, 0, none⟩ = some (.int .i64 fa) ∧ (w6.alloc (.cells #[.int .i64 fa, .int .i64 lo, .int .i64 hi] 79)).cell? ⟨w6.heap.size, 1, none⟩ = some (.int .i64 lo) ∧ (w6.alloc (.cells #[.int .i64 fa, .int .i64 lo, .int .i64 hi] 79)).cell? ⟨w6.heap.size, 2, none⟩ = some (.int .i64 hi) := ⟨(cell_lit w6 #[.int .i64 fa, .int .i64 lo, .int .i64 hi] 79 0).trans rfl, (cell_lit w6 #[.int .i64 fa, .int .i64 lo, .int .i64 hi] 79 1).trans rfl, (cell_lit w6 #[.int .i64 fa, .int .i64 lo, .int .i64 hi] 79 2).trans rfl⟩
          have l7 : w6.heap.size < (w6.alloc (.cells #[.int .i64 fa, .int .i64 lo, .int .i64 hi] 79)).heap.size := by simp
          obtain ⟨W7, hW7⟩ : ∃ W7, w6.alloc (.cells #[.int .i64 fa, .int .i64 lo, .int .i64 hi] 79) = W7 := ⟨_, rfl⟩
          rw [hW7] at hA q7 l7 ⊢
          clear hW7
          have s7 := (hA.cell (p := ⟨g, m, none⟩) (Nat.lt_of_lt_of_le hgl2 b6.size)).trans s6
          have p7 := (hA.cell (p := ⟨R, 2, none⟩) (Nat.lt_of_lt_of_le hbl b6.size)).trans p6
          refine hK.out _ _ s7 (fun hHeld => ?_)
          clear hK K
          try simp only [Act.put, List.setIfInBounds_toArray, List.set_cons_zero, List.set_cons_succ]
          have o7 := ownsC_below (ownsC_below HW.out.2.1 b6) hA
          have rw7 := (HW.out.2.2.below b6 HW.out.2.2.size).below hA (Nat.le_trans HW.out.2.2.size b6.size)
          have k7 := (hA.block R (Nat.lt_of_lt_of_le hbl b6.size)).trans ((b6.block R hbl).trans HW.out.1)
          refine wpAnyH_ready (rs := [11]) (by kernel_rfl) (by simp) ?_
          refine (AllReadyH.cons (o := _) (by simp only [List.getElem?_toArray, List.getElem?_cons_succ, List.getElem?_cons_zero]; rfl) (fun K hK => ?_) AllReadyH.nil)
          refine step_append_conds rfl (.tmp 46) (.tmp 55) rfl wc.heap.size _ _ cs [(fa, lo, hi)] rfl rfl o7 (conds_one q7 l7) (Nat.le_trans HW.out.2.2.size (Nat.le_trans b6.size hA.size)) (by have := HKL.out; simp; omega) ?_
          intro u W8 oB bB
          obtain ⟨ua, ucap, rfl⟩ := ownsC_len oB
          have k8 := (bB.block R HR5.out).trans k7
          have s8 := (bB.cell (p := ⟨g, m, none⟩) HGQ.out.1).trans s7
          have rw8 := rw7.below bB (Nat.le_refl _)
          refine hK.out _ _ s8 (fun hHeld => ?_)
          clear hK K
          try simp only [Act.put, List.setIfInBounds_toArray, List.set_cons_zero, List.set_cons_succ]
          refine take_runs (i := 12) (v := ?_) (by simp only [List.getElem?_toArray, List.getElem?_cons_succ, List.getElem?_cons_zero]; rfl) (by kernel_rfl) (by kernel_rfl) (by kernel_rfl) rfl (by exact fun _ _ _ h => h) (by rfl) ?_ (by assumption) ?_
          rotate_left
          · intro w hSw; (try dsimp only at hSw); go_simp; try (with_reducible rfl)
          try simp only [Act.put, List.setIfInBounds_toArray, List.set_cons_zero, List.set_cons_succ]
          have d1 := cell_of_row W8 _ 2 _ _ _ k8
          have f1 := frozen_of_row W8 _ 2 _ _ k8
          simp at d1
          refine wpAnyH_ready (rs := [13]) (by kernel_rfl) (by simp) ?_
          refine (AllReadyH.cons (o := _) (by simp only [List.getElem?_toArray, List.getElem?_cons_succ, List.getElem?_cons_zero]; rfl) (fun K hK => ?_) AllReadyH.nil)
          go_simp
          have r9 := heap_setCell_same W8 R 2 _ _ (.slice ua (cs ++ [(fa, lo, hi)]).length ucap) k8
          have o9 := ownsC_low oB (b := R) HR5.out 2 (.slice ua (cs ++ [(fa, lo, hi)]).length ucap)
          have rw9 := rw8.set 2 (.slice ua (cs ++ [(fa, lo, hi)]).length ucap)
          have s9 : (W8.setCell ⟨R, 2, none⟩ (.slice ua (cs ++ [(fa, lo, hi)]).length ucap)).cell? ⟨g, m, none⟩ = some (.string (strB qk)) := by
            unfold World.cell? at s8 ⊢
            rw [Below.heap_setCell _ _ _ _ (by simpa using HGQ.out.2)]; exact s8
          simp only [List.length_append, List.length_cons, List.length_nil, Nat.zero_add] at r9 o9 rw9 s9
          generalize W8.setCell ⟨R, 2, none⟩ (.slice ua (cs.length + 1) ucap) = W9 at *
          refine hK.out _ _ s9 (fun hHeld => ?_)
          clear hK K
          try simp only [Act.put, List.setIfInBounds_toArray, List.set_cons_zero, List.set_cons_succ]
          refine wpAnyH_done (by kernel_rfl) ?_ _
          rw [HS.out] at o9
          clear s6 p6 s7 p7 hA q7 l7 o7 rw7 k7 oB bB k8 s8 rw8 d1 f1 s9 b6 hHeld hcell q2
          try clear b6'
          go_wp2
          go_roundw
          case rel => exact ⟨j + 1, m + 2, .slice ua (cs.length + 1) ucap, by have := HLT.out; omega, Lib.hid (by rw [hmj.out]; omega), by go_num, by simpa using r9, o9, rw9⟩
          case measure => simp [intOf]; omega
        · go_simp
          refine (HN.out _).mono ?_
          rintro e w6 ⟨rfl, b6'⟩
          have b6 : Below wn.heap.size wn w6 := ⟨b6'.os, b6'.tape, b6'.output, b6'.size, b6'.block⟩
          have s6 := (b6.cell (p := ⟨g, m, none⟩) hgl2).trans hcell
          have p6 := (b6.cell (p := ⟨R, 2, none⟩) hbl).trans q2
          refine hK.out _ _ s6 (fun hHeld => ?_)
          clear hK K
          try simp only [Act.put, List.setIfInBounds_toArray, List.set_cons_zero, List.set_cons_succ]
          refine take_runs (i := 9) (v := ?_) (by simp only [List.getElem?_toArray, List.getElem?_cons_succ, List.getElem?_cons_zero]; rfl) (by kernel_rfl) (by kernel_rfl) (by kernel_rfl) rfl (by exact fun _ _ _ h => h) (by rfl) ?_ (by assumption) ?_
          rotate_left
          · intro w hSw; (try dsimp only at hSw); go_simp; try (with_reducible rfl)
          try simp only [Act.put, List.setIfInBounds_toArray, List.set_cons_zero, List.set_cons_succ]
          refine wpAnyH_ready (rs := [1, 10]) (by kernel_rfl) (by simp) ?_
          refine (AllReadyH.cons (o := _) (by simp only [List.getElem?_toArray, List.getElem?_cons_succ, List.getElem?_cons_zero]; rfl) (fun K hK => ?_) (AllReadyH.cons (o := _) (by simp only [List.getElem?_toArray, List.getElem?_cons_succ, List.getElem?_cons_zero]; rfl) (fun K hK => ?_) AllReadyH.nil))
          · go_simp
            refine hK.out _ _ s6 (fun hHeld => ?_)
            clear hK K
            try simp only [Act.put, List.setIfInBounds_toArray, List.set_cons_zero, List.set_cons_succ]
            refine wpAnyH_ready (rs := [10]) (by kernel_rfl) (by simp) ?_
            refine (AllReadyH.cons (o := _) (by simp only [List.getElem?_toArray, List.getElem?_cons_succ, List.getElem?_cons_zero]; rfl) (fun K hK => ?_) AllReadyH.nil)
            go_simp
            have hA : Below w6.heap.size w6 (w6.alloc (.cells #[.int .i64 fa, .int .i64 lo, .int .i64 hi] 79)) := (Below.refl _ w6).alloc (Nat.le_refl _) _
            have q7 : (w6.alloc (.cells #[.int .i64 fa, .int .i64 lo, .int .i64 hi] 79)).cell? ⟨w6.heap.size, 0, none⟩ = some (.int .i64 fa) ∧ (w6.alloc (.cells #[.int .i64 fa, .int .i64 lo, .int .i64 hi] 79)).cell? ⟨w6.heap.size, 1, none⟩ = some (.int .i64 lo) ∧ (w6.alloc (.cells #[.int .i64 fa, .int .i64 lo, .int .i64 hi] 79)).cell? ⟨w6.heap.size, 2, none⟩ = some (.int .i64 hi) := ⟨(cell_lit w6 #[.int .i64 fa, .int .i64 lo, .int .i64 hi] 79 0).trans rfl, (cell_lit w6 #[.int .i64 fa, .int .i64 lo, .int .i64 hi] 79 1).trans rfl, (cell_lit w6 #[.int .i64 fa, .int .i64 lo, .int .i64 hi] 79 2).trans rfl⟩
            have l7 : w6.heap.size < (w6.alloc (.cells #[.int .i64 fa, .int .i64 lo, .int .i64 hi] 79)).heap.size := by simp
            obtain ⟨W7, hW7⟩ : ∃ W7, w6.alloc (.cells #[.int .i64 fa, .int .i64 lo, .int .i64 hi] 79) = W7 := ⟨_, rfl⟩
            rw [hW7] at hA q7 l7 ⊢
            clear hW7
            have s7 := (hA.cell (p := ⟨g, m, none⟩) (Nat.lt_of_lt_of_le hgl2 b6.size)).trans s6
            have p7 := (hA.cell (p := ⟨R, 2, none⟩) (Nat.lt_of_lt_of_le hbl b6.size)).trans p6
            refine hK.out _ _ s7 (fun hHeld => ?_)
            clear hK K
            try simp only [Act.put, List.setIfInBounds_toArray, List.set_cons_zero, List.set_cons_succ]
            have o7 := ownsC_below (ownsC_below HW.out.2.1 b6) hA
            have rw7 := (HW.out.2.2.below b6 HW.out.2.2.size).below hA (Nat.le_trans HW.out.2.2.size b6.size)
            have k7 := (hA.block R (Nat.lt_of_lt_of_le hbl b6.size)).trans ((b6.block R hbl).trans HW.out.1)
            refine wpAnyH_ready (rs := [11]) (by kernel_rfl) (by simp) ?_
            refine (AllReadyH.cons (o := _) (by simp only [List.getElem?_toArray, List.getElem?_cons_succ, List.getElem?_cons_zero]; rfl) (fun K hK => ?_) AllReadyH.nil)
            refine step_append_conds rfl (.tmp 46) (.tmp 55) rfl wc.heap.size _ _ cs [(fa, lo, hi)] rfl rfl o7 (conds_one q7 l7) (Nat.le_trans HW.out.2.2.size (Nat.le_trans b6.size hA.size)) (by have := HKL.out; simp; omega) ?_
            intro u W8 oB bB
            obtain ⟨ua, ucap, rfl⟩ := ownsC_len oB
            have k8 := (bB.block R HR5.out).trans k7
            have s8 := (bB.cell (p := ⟨g, m, none⟩) HGQ.out.1).trans s7
            have rw8 := rw7.below bB (Nat.le_refl _)
            refine hK.out _ _ s8 (fun hHeld => ?_)
            clear hK K
            try simp only [Act.put, List.setIfInBounds_toArray, List.set_cons_zero, List.set_cons_succ]
            refine take_runs (i := 12) (v := ?_) (by simp only [List.getElem?_toArray, List.getElem?_cons_succ, List.getElem?_cons_zero]; rfl) (by kernel_rfl) (by kernel_rfl) (by kernel_rfl) rfl (by exact fun _ _ _ h => h) (by rfl) ?_ (by assumption) ?_
            rotate_left
            · intro w hSw; (try dsimp only at hSw); go_simp; try (with_reducible rfl)
            try simp only [Act.put, List.setIfInBounds_toArray, List.set_cons_zero, List.set_cons_succ]
            have d1 := cell_of_row W8 _ 2 _ _ _ k8
            have f1 := frozen_of_row W8 _ 2 _ _ k8
            simp at d1
            refine wpAnyH_ready (rs := [13]) (by kernel_rfl) (by simp) ?_
            refine (AllReadyH.cons (o := _) (by simp only [List.getElem?_toArray, List.getElem?_cons_succ, List.getElem?_cons_zero]; rfl) (fun K hK => ?_) AllReadyH.nil)
            go_simp
            have r9 := heap_setCell_same W8 R 2 _ _ (.slice ua (cs ++ [(fa, lo, hi)]).length ucap) k8
            have o9 := ownsC_low oB (b := R) HR5.out 2 (.slice ua (cs ++ [(fa, lo, hi)]).length ucap)
            have rw9 := rw8.set 2 (.slice ua (cs ++ [(fa, lo, hi)]).length ucap)
            have s9 : (W8.setCell ⟨R, 2, none⟩ (.slice ua (cs ++ [(fa, lo, hi)]).length ucap)).cell? ⟨g, m, none⟩ = some (.string (strB qk)) := by
              unfold World.cell? at s8 ⊢
              rw [Below.heap_setCell _ _ _ _ (by simpa using HGQ.out.2)]; exact s8
            simp only [List.length_append, List.length_cons, List.length_nil, Nat.zero_add] at r9 o9 rw9 s9
            generalize W8.setCell ⟨R, 2, none⟩ (.slice ua (cs.length + 1) ucap) = W9 at *
            refine hK.out _ _ s9 (fun hHeld => ?_)
            clear hK K
            try simp only [Act.put, List.setIfInBounds_toArray, List.set_cons_zero, List.set_cons_succ]
            refine wpAnyH_done (by kernel_rfl) ?_ _
            rw [HS.out] at o9
            clear s6 p6 s7 p7 hA q7 l7 o7 rw7 k7 oB bB k8 s8 rw8 d1 f1 s9 b6 hHeld hcell q2
            try clear b6'
            go_wp2
            go_roundw
            case rel => exact ⟨j + 1, m + 2, .slice ua (cs.length + 1) ucap, by have := HLT.out; omega, Lib.hid (by rw [hmj.out]; omega), by go_num, by simpa using r9, o9, rw9⟩
            case measure => simp [intOf]; omega
          · go_simp
            have hA : Below w6.heap.size w6 (w6.alloc (.cells #[.int .i64 fa, .int .i64 lo, .int .i64 hi] 79)) := (Below.refl _ w6).alloc (Nat.le_refl _) _
            have q7 : (w6.alloc (.cells #[.int .i64 fa, .int .i64 lo, .int .i64 hi] 79)).cell? ⟨w6.heap.size, 0, none⟩ = some (.int .i64 fa) ∧ (w6.alloc (.cells #[.int .i64 fa, .int .i64 lo, .int .i64 hi] 79)).cell? ⟨w6.heap.size, 1, none⟩ = some (.int .i64 lo) ∧ (w6.alloc (.cells #[.int .i64 fa, .int .i64 lo, .int .i64 hi] 79)).cell? ⟨w6.heap.size, 2, none⟩ = some (.int .i64 hi) := ⟨(cell_lit w6 #[.int .i64 fa, .int .i64 lo, .int .i64 hi] 79 0).trans rfl, (cell_lit w6 #[.int .i64 fa, .int .i64 lo, .int .i64 hi] 79 1).trans rfl, (cell_lit w6 #[.int .i64 fa, .int .i64 lo, .int .i64 hi] 79 2).trans rfl⟩
            have l7 : w6.heap.size < (w6.alloc (.cells #[.int .i64 fa, .int .i64 lo, .int .i64 hi] 79)).heap.size := by simp
            obtain ⟨W7, hW7⟩ : ∃ W7, w6.alloc (.cells #[.int .i64 fa, .int .i64 lo, .int .i64 hi] 79) = W7 := ⟨_, rfl⟩
            rw [hW7] at hA q7 l7 ⊢
            clear hW7
            have s7 := (hA.cell (p := ⟨g, m, none⟩) (Nat.lt_of_lt_of_le hgl2 b6.size)).trans s6
            have p7 := (hA.cell (p := ⟨R, 2, none⟩) (Nat.lt_of_lt_of_le hbl b6.size)).trans p6
            refine hK.out _ _ s7 (fun hHeld => ?_)
            clear hK K
            try simp only [Act.put, List.setIfInBounds_toArray, List.set_cons_zero, List.set_cons_succ]
            refine wpAnyH_ready (rs := [1]) (by kernel_rfl) (by simp) ?_
            refine (AllReadyH.cons (o := _) (by simp only [List.getElem?_toArray, List.getElem?_cons_succ, List.getElem?_cons_zero]; rfl) (fun K hK => ?_) AllReadyH.nil)
            go_simp
            refine hK.out _ _ s7 (fun hHeld => ?_)
            clear hK K
            try simp only [Act.put, List.setIfInBounds_toArray, List.set_cons_zero, List.set_cons_succ]
            have o7 := ownsC_below (ownsC_below HW.out.2.1 b6) hA
            have rw7 := (HW.out.2.2.below b6 HW.out.2.2.size).below hA (Nat.le_trans HW.out.2.2.size b6.size)
            have k7 := (hA.block R (Nat.lt_of_lt_of_le hbl b6.size)).trans ((b6.block R hbl).trans HW.out.1)
            refine wpAnyH_ready (rs := [11]) (by kernel_rfl) (by simp) ?_
            refine (AllReadyH.cons (o := _) (by simp only [List.getElem?_toArray, List.getElem?_cons_succ, List.getElem?_cons_zero]; rfl) (fun K hK => ?_) AllReadyH.nil)
            refine step_append_conds rfl (.tmp 46) (.tmp 55) rfl wc.heap.size _ _ cs [(fa, lo, hi)] rfl rfl o7 (conds_one q7 l7) (Nat.le_trans HW.out.2.2.size (Nat.le_trans b6.size hA.size)) (by have := HKL.out; simp; omega) ?_
            intro u W8 oB bB
            obtain ⟨ua, ucap, rfl⟩ := ownsC_len oB
            have k8 := (bB.block R HR5.out).trans k7
            have s8 := (bB.cell (p := ⟨g, m, none⟩) HGQ.out.1).trans s7
            have rw8 := rw7.below bB (Nat.le_refl _)
            refine hK.out _ _ s8 (fun hHeld => ?_)
            clear hK K
            try simp only [Act.put, List.setIfInBounds_toArray, List.set_cons_zero, List.set_cons_succ]
            refine take_runs (i := 12) (v := ?_) (by simp only [List.getElem?_toArray, List.getElem?_cons_succ, List.getElem?_cons_zero]; rfl) (by kernel_rfl) (by kernel_rfl) (by kernel_rfl) rfl (by exact fun _ _ _ h => h) (by rfl) ?_ (by assumption) ?_
            rotate_left
            · intro w hSw; (try dsimp only at hSw); go_simp; try (with_reducible rfl)
            try simp only [Act.put, List.setIfInBounds_toArray, List.set_cons_zero, List.set_cons_succ]
            have d1 := cell_of_row W8 _ 2 _ _ _ k8
            have f1 := frozen_of_row W8 _ 2 _ _ k8
            simp at d1
            refine wpAnyH_ready (rs := [13]) (by kernel_rfl) (by simp) ?_
            refine (AllReadyH.cons (o := _) (by simp only [List.getElem?_toArray, List.getElem?_cons_succ, List.getElem?_cons_zero]; rfl) (fun K hK => ?_) AllReadyH.nil)
            go_simp
            have r9 := heap_setCell_same W8 R 2 _ _ (.slice ua (cs ++ [(fa, lo, hi)]).length ucap) k8
            have o9 := ownsC_low oB (b := R) HR5.out 2 (.slice ua (cs ++ [(fa, lo, hi)]).length ucap)
            have rw9 := rw8.set 2 (.slice ua (cs ++ [(fa, lo, hi)]).length ucap)
            have s9 : (W8.setCell ⟨R, 2, none⟩ (.slice ua (cs ++ [(fa, lo, hi)]).length ucap)).cell? ⟨g, m, none⟩ = some (.string (strB qk)) := by
              unfold World.cell? at s8 ⊢
              rw [Below.heap_setCell _ _ _ _ (by simpa using HGQ.out.2)]; exact s8
            simp only [List.length_append, List.length_cons, List.length_nil, Nat.zero_add] at r9 o9 rw9 s9
            generalize W8.setCell ⟨R, 2, none⟩ (.slice ua (cs.length + 1) ucap) = W9 at *
            refine hK.out _ _ s9 (fun hHeld => ?_)
            clear hK K
            try simp only [Act.put, List.setIfInBounds_toArray, List.set_cons_zero, List.set_cons_succ]
            refine wpAnyH_done (by kernel_rfl) ?_ _
            rw [HS.out] at o9
            clear s6 p6 s7 p7 hA q7 l7 o7 rw7 k7 oB bB k8 s8 rw8 d1 f1 s9 b6 hHeld hcell q2
            try clear b6'
            go_wp2
            go_roundw
            case rel => exact ⟨j + 1, m + 2, .slice ua (cs.length + 1) ucap, by have := HLT.out; omega, Lib.hid (by rw [hmj.out]; omega), by go_num, by simpa using r9, o9, rw9⟩
            case measure => simp [intOf]; omega
      · have hje : j = (P.length - 4) / 2 := by omega
        have HQS : Hid (queryOfP P = (id, tn, (List.range j).map (condOf P), (cutL 44 (P.getD (P.length - 1) [])).map numL)) := Lib.hid (by unfold queryOfP; rw [HID.out, HTN.out, hje])
        obtain ⟨ca, ccap, rfl⟩ := ownsC_len hown
        have hxl : ((List.range j).map (condOf P)).length = j := by simp
        have HCL : Hid (((List.range j).map (condOf P)).length ≤ 1048576) := Lib.hid (by rw [hxl]; have := HNQ.out; omega)
        generalize (List.range j).map (condOf P) = cs at *
        obtain ⟨n1, hn1⟩ : ∃ n1, P.length - 1 = n1 := ⟨_, rfl⟩
        have hn2 : n1 < P.length := by omega
        have w3 : IntKind.i64.wrap ((P.length : Int) - 1) = (n1 : Int) := by rw [IntWalk.i64_in _ (by have := HNQ.out; omega)]; omega
        have w1 : IntKind.i64.wrap ((m : Int) + 1) = (m : Int) + 1 := IntWalk.i64_in _ (by have := HNQ.out; omega)
        have w2 : IntKind.i64.wrap ((P.length : Int) - 2) = (P.length : Int) - 2 := IntWalk.i64_in _ (by have := HNQ.out; omega)
        have i2 : ¬ ((m : Int) + 1 < (P.length : Int) - 2) := by omega
        have i3 : (0 : Int) ≤ (n1 : Int) := by omega
        have i5 : (n1 : Int) < (P.length : Int) := by omega
        have hcell : wr.cell? ⟨g, n1, none⟩ = some (.string (strB (P.getD n1 []))) := by
          have h1 := strs_at O4.out n1 hn2
          unfold World.cell? at h1 ⊢
          rw [hrw.block g HGQ0.out.1 HGQ0.out.2]; exact h1
        have hq1 : (P.getD n1 []).length + 1 ≤ 1048576 := by have h2 := cut_short (b := 32) (l := l) (by rw [HPP.out]; omega) n1; rw [HPP.out] at h2; have := HLL.out; omega
        have HQ1 := Lib.hid hq1
        have HC2 := Lib.hid (fun w => specCut (strB (P.getD n1 [])) 44 44 w rfl (by rw [strB_size]; omega))
        rw [hn1] at HQS
        have cz1 := hrw.all HB4.out hR HB4.out.size
        have cW := C1.out.trans (cz1.mono C1.out.size)
        have kz := (cz1.block w.heap.size L1.out).trans G1.out
        have HRC := Lib.hid (Nat.lt_of_lt_of_le HR4.out hrw.size)
        have HRW : Hid (w.heap.size < R) := Lib.hid (Nat.lt_of_lt_of_le L1.out hR)
        generalize P.getD n1 [] = q1t at *
        have HJ := Lib.hid hj
        have HKB := Lib.hid hbx
        have HOC := Lib.hid hown
        have HCW := Lib.hid cW
        have HKZ := Lib.hid kz
        have HN1 := Lib.hid hn1
        have HMM := Lib.hid hm0
        have HJE := Lib.hid hje
        have HLT := Lib.hid hlt
        clear hj hbx hown cW kz cz1 hrw hq1 hxl hn1 hm0 hje hlt hn2
        go_wp2_with fail
        refine (HC2.out _).mono ?_
        rintro e w5 ⟨vq, rfl, oq, b5⟩
        have eq1 : (strB q1t).data.toList = q1t := rfl
        rw [eq1] at oq
        clear eq1
        have HQP := Lib.hid (cut_pos 44 q1t)
        have HQLEN : Hid ((cutL 44 q1t).length ≤ 1048576) := Lib.hid (by have := cut_len 44 q1t; have := HQ1.out; omega)
        have HQQ : Hid (∀ k, ((cutL 44 q1t).getD k []).length ≤ 1048576) := Lib.hid (fun k => by have := cut_piece 44 q1t k; have := HQ1.out; omega)
        generalize cutL 44 q1t = Q at *
        obtain ⟨gq, qcap, rfl⟩ := strs_head oq HQP.out
        have HC5 := Lib.hid (HCW.out.trans (b5.mono HCW.out.size))
        have HK5 := Lib.hid ((b5.block w.heap.size (Array.getElem?_eq_some_iff.1 HKZ.out).1).trans HKZ.out)
        have HB5 := Lib.hid ((b5.block R HRC.out).trans HKB.out)
        have HOC5 := Lib.hid (ownsC_below HOC.out b5)
        have HOQ := Lib.hid oq
        have HR6 := Lib.hid (Nat.lt_of_lt_of_le HRC.out b5.size)
        have HGK : Hid (gq < w5.heap.size ∧ gq ≠ R) := Lib.hid ⟨(ownsS_ge oq).2, by have := (ownsS_ge oq).1; have := HRC.out; omega⟩
        clear b5 oq hcell i2 i3 i5 w1 w2 w3
        go_wp2
        go_loopw [11] (fun i wq => ∃ (k : Nat) (v : Value), k ≤ Q.length ∧ i = .int .i64 k ∧ wq.heap[R]? = some (.cells #[.int .i64 id, .int .i64 tn, .slice ca cs.length ccap, v] 46 (0, 0)) ∧ OwnsN wq w5.heap.size v ((Q.take k).map numL) ∧ Rowed R w5.heap.size w5 wq) (fun i _ => Q.length - (intOf i).toNat)
        case atStart => exact ⟨0, .slice none 0 0, Nat.zero_le _, rfl, HB5.out, ownsN_nil _ _, Rowed.refl _ _ _⟩
        case round =>
          obtain ⟨k, v, hk, rfl, hbx, hown, hrw⟩ := hrel
          by_cases hlt : k < Q.length
          · obtain ⟨va, vcap, rfl⟩ := ints_len (ownsN_ints hown)
            have hcell : wr.cell? ⟨gq, k, none⟩ = some (.string (strB (Q.getD k []))) := by
              have h1 := strs_at HOQ.out k hlt
              unfold World.cell? at h1 ⊢
              rw [hrw.block gq HGK.out.1 HGK.out.2]; exact h1
            have hql := HQQ.out k
            have HS2 := Lib.hid (nums_step hlt)
            have HN := Lib.hid (fun w => specNum (Q.getD k []) w hql)
            have hxl : ((Q.take k).map numL).length = k := by rw [List.length_map, List.length_take]; omega
            have HKL := Lib.hid hxl
            have i1 : (0 : Int) ≤ (k : Int) := by omega
            have i2 : (k : Int) < (Q.length : Int) := by omega
            have i5 : k ≤ 1048576 := by have := HQLEN.out; omega
            have hbl := (Array.getElem?_eq_some_iff.1 hbx).1
            have hql2 : gq < wr.heap.size := Nat.lt_of_lt_of_le HGK.out.1 hrw.size
            have q3 := (cell_of_row wr _ 3 _ _ _ hbx).trans (show _ = some (Value.slice va ((Q.take k).map numL).length vcap) from rfl)
            generalize numL (Q.getD k []) = pn at *
            generalize Q.getD k [] = qk at *
            generalize (Q.take k).map numL = xs at *
            have HW := Lib.hid (And.intro hbx (And.intro hown hrw))
            clear hbx hown hrw hxl
            go_wp2
            refine wp_region_held_drew (S := fun w' => w'.cell? ⟨gq, k, none⟩ = some (.string (strB qk))) (by kernel_rfl) hcell (fun hHeld => ?_)
            refine take_runs (i := 0) (v := ?_) (by simp only [List.getElem?_toArray, List.getElem?_cons_succ, List.getElem?_cons_zero]; rfl) (by kernel_rfl) (by kernel_rfl) (by kernel_rfl) rfl (by exact fun _ _ _ h => h) (by rfl) ?_ (by assumption) ?_
            rotate_left
            · intro w hSw; (try dsimp only at hSw); go_simp; try (with_reducible rfl)
            try simp only [Act.put, List.setIfInBounds_toArray, List.set_cons_zero, List.set_cons_succ]
            refine take_runs (i := 2) (v := ?_) (by simp only [List.getElem?_toArray, List.getElem?_cons_succ, List.getElem?_cons_zero]; rfl) (by kernel_rfl) (by kernel_rfl) (by kernel_rfl) rfl (by exact fun _ _ _ h => h) (by rfl) ?_ (by assumption) ?_
            rotate_left
            · intro w hSw; (try dsimp only at hSw); go_simp; try (with_reducible rfl)
            try simp only [Act.put, List.setIfInBounds_toArray, List.set_cons_zero, List.set_cons_succ]
            refine take_runs (i := 3) (v := ?_) (by simp only [List.getElem?_toArray, List.getElem?_cons_succ, List.getElem?_cons_zero]; rfl) (by kernel_rfl) (by kernel_rfl) (by kernel_rfl) rfl (by exact fun _ _ _ h => h) (by rfl) ?_ (by assumption) ?_
            rotate_left
            · intro w hSw; (try dsimp only at hSw); go_simp; try (with_reducible rfl)
            try simp only [Act.put, List.setIfInBounds_toArray, List.set_cons_zero, List.set_cons_succ]
            refine take_runs (i := 4) (v := ?_) (by simp only [List.getElem?_toArray, List.getElem?_cons_succ, List.getElem?_cons_zero]; rfl) (by kernel_rfl) (by kernel_rfl) (by kernel_rfl) rfl (by exact fun _ _ _ h => h) (by rfl) ?_ (by assumption) ?_
            rotate_left
            · intro w hSw; (try dsimp only at hSw); go_simp; try (with_reducible rfl)
            try simp only [Act.put, List.setIfInBounds_toArray, List.set_cons_zero, List.set_cons_succ]
            refine take_runs (i := 5) (v := ?_) (by simp only [List.getElem?_toArray, List.getElem?_cons_succ, List.getElem?_cons_zero]; rfl) (by kernel_rfl) (by kernel_rfl) (by kernel_rfl) rfl (by exact fun _ _ _ h => h) (by rfl) ?_ (by assumption) ?_
            rotate_left
            · intro w hSw; (try dsimp only at hSw); go_simp; try (with_reducible rfl)
            try simp only [Act.put, List.setIfInBounds_toArray, List.set_cons_zero, List.set_cons_succ]
            refine wpAnyH_ready (rs := [1, 6]) (by kernel_rfl) (by simp) ?_
            refine (AllReadyH.cons (o := _) (by simp only [List.getElem?_toArray, List.getElem?_cons_succ, List.getElem?_cons_zero]; rfl) (fun K hK => ?_) (AllReadyH.cons (o := _) (by simp only [List.getElem?_toArray, List.getElem?_cons_succ, List.getElem?_cons_zero]; rfl) (fun K hK => ?_) AllReadyH.nil))
            · go_simp
              refine hK.out _ _ hcell (fun hHeld => ?_)
              clear hK K
              try simp only [Act.put, List.setIfInBounds_toArray, List.set_cons_zero, List.set_cons_succ]
              refine wpAnyH_ready (rs := [6]) (by kernel_rfl) (by simp) ?_
              refine (AllReadyH.cons (o := _) (by simp only [List.getElem?_toArray, List.getElem?_cons_succ, List.getElem?_cons_zero]; rfl) (fun K hK => ?_) AllReadyH.nil)
              go_simp
              refine (HN.out _).mono ?_
              rintro e w6 ⟨rfl, b6'⟩
              have b6 : Below wr.heap.size wr w6 := ⟨b6'.os, b6'.tape, b6'.output, b6'.size, b6'.block⟩
              have s6 := (b6.cell (p := ⟨gq, k, none⟩) hql2).trans hcell
              have p6 := (b6.cell (p := ⟨R, 3, none⟩) hbl).trans q3
              refine hK.out _ _ s6 (fun hHeld => ?_)
              clear hK K
              try simp only [Act.put, List.setIfInBounds_toArray, List.set_cons_zero, List.set_cons_succ]
              refine wpAnyH_ready (rs := [7]) (by kernel_rfl) (by simp) ?_
              refine (AllReadyH.cons (o := _) (by simp only [List.getElem?_toArray, List.getElem?_cons_succ, List.getElem?_cons_zero]; rfl) (fun K hK => ?_) AllReadyH.nil)
              go_simp
              have hA : Below w6.heap.size w6 (w6.alloc (.cells #[.int .i64 pn] 3)) := (Below.refl _ w6).alloc (Nat.le_refl _) _
              have q7 := cell_lit w6 #[.int .i64 pn] 3 0
              have l7 : w6.heap.size < (w6.alloc (.cells #[.int .i64 pn] 3)).heap.size := by simp
              obtain ⟨W7, hW7⟩ : ∃ W7, w6.alloc (.cells #[.int .i64 pn] 3) = W7 := ⟨_, rfl⟩
              rw [hW7] at hA q7 l7 ⊢
              clear hW7
              replace q7 := q7.trans (show _ = some (Value.int .i64 pn) from rfl)
              have s7 := (hA.cell (p := ⟨gq, k, none⟩) (Nat.lt_of_lt_of_le hql2 b6.size)).trans s6
              have p7 := (hA.cell (p := ⟨R, 3, none⟩) (Nat.lt_of_lt_of_le hbl b6.size)).trans p6
              refine hK.out _ _ s7 (fun hHeld => ?_)
              clear hK K
              try simp only [Act.put, List.setIfInBounds_toArray, List.set_cons_zero, List.set_cons_succ]
              have o7 := ownsN_below (ownsN_below HW.out.2.1 b6) hA
              have rw7 := (HW.out.2.2.below b6 HW.out.2.2.size).below hA (Nat.le_trans HW.out.2.2.size b6.size)
              have k7 := (hA.block R (Nat.lt_of_lt_of_le hbl b6.size)).trans ((b6.block R hbl).trans HW.out.1)
              refine wpAnyH_ready (rs := [8]) (by kernel_rfl) (by simp) ?_
              refine (AllReadyH.cons (o := _) (by simp only [List.getElem?_toArray, List.getElem?_cons_succ, List.getElem?_cons_zero]; rfl) (fun K hK => ?_) AllReadyH.nil)
              refine step_append_ints rfl (.tmp 71) (.tmp 77) rfl w5.heap.size _ _ xs [pn] rfl rfl o7 (ints_one q7 l7) (Nat.le_trans HW.out.2.2.size (Nat.le_trans b6.size hA.size)) (by have := HKL.out; simp; omega) ?_
              intro u W8 oB bB
              obtain ⟨ua, ucap, rfl⟩ := ints_len (ownsN_ints oB)
              have k8 := (bB.block R HR6.out).trans k7
              have s8 := (bB.cell (p := ⟨gq, k, none⟩) HGK.out.1).trans s7
              have rw8 := rw7.below bB (Nat.le_refl _)
              refine hK.out _ _ s8 (fun hHeld => ?_)
              clear hK K
              try simp only [Act.put, List.setIfInBounds_toArray, List.set_cons_zero, List.set_cons_succ]
              refine take_runs (i := 9) (v := ?_) (by simp only [List.getElem?_toArray, List.getElem?_cons_succ, List.getElem?_cons_zero]; rfl) (by kernel_rfl) (by kernel_rfl) (by kernel_rfl) rfl (by exact fun _ _ _ h => h) (by rfl) ?_ (by assumption) ?_
              rotate_left
              · intro w hSw; (try dsimp only at hSw); go_simp; try (with_reducible rfl)
              try simp only [Act.put, List.setIfInBounds_toArray, List.set_cons_zero, List.set_cons_succ]
              have d1 := cell_of_row W8 _ 3 _ _ _ k8
              have f1 := frozen_of_row W8 _ 3 _ _ k8
              simp at d1
              refine wpAnyH_ready (rs := [10]) (by kernel_rfl) (by simp) ?_
              refine (AllReadyH.cons (o := _) (by simp only [List.getElem?_toArray, List.getElem?_cons_succ, List.getElem?_cons_zero]; rfl) (fun K hK => ?_) AllReadyH.nil)
              go_simp
              have r9 := heap_setCell_same W8 R 3 _ _ (.slice ua (xs ++ [pn]).length ucap) k8
              have o9 := ownsN_low oB (b := R) HR6.out 3 (.slice ua (xs ++ [pn]).length ucap)
              have rw9 := rw8.set 3 (.slice ua (xs ++ [pn]).length ucap)
              have s9 : (W8.setCell ⟨R, 3, none⟩ (.slice ua (xs ++ [pn]).length ucap)).cell? ⟨gq, k, none⟩ = some (.string (strB qk)) := by
                unfold World.cell? at s8 ⊢
                rw [Below.heap_setCell _ _ _ _ (by simpa using HGK.out.2)]; exact s8
              simp only [List.length_append, List.length_cons, List.length_nil, Nat.zero_add] at r9 o9 rw9 s9
              generalize W8.setCell ⟨R, 3, none⟩ (.slice ua (xs.length + 1) ucap) = W9 at *
              refine hK.out _ _ s9 (fun hHeld => ?_)
              clear hK K
              try simp only [Act.put, List.setIfInBounds_toArray, List.set_cons_zero, List.set_cons_succ]
              refine wpAnyH_done (by kernel_rfl) ?_ _
              rw [HS2.out] at o9
              clear s6 p6 s7 p7 hA q7 l7 o7 rw7 k7 oB bB k8 s8 rw8 d1 f1 s9 b6 hHeld hcell q3
              try clear b6'
              go_wp2
              go_roundw
              case rel => exact ⟨k + 1, .slice ua (xs.length + 1) ucap, by omega, by go_num, by simpa using r9, o9, rw9⟩
              case measure => simp [intOf]; omega
            · go_simp
              refine (HN.out _).mono ?_
              rintro e w6 ⟨rfl, b6'⟩
              have b6 : Below wr.heap.size wr w6 := ⟨b6'.os, b6'.tape, b6'.output, b6'.size, b6'.block⟩
              have s6 := (b6.cell (p := ⟨gq, k, none⟩) hql2).trans hcell
              have p6 := (b6.cell (p := ⟨R, 3, none⟩) hbl).trans q3
              refine hK.out _ _ s6 (fun hHeld => ?_)
              clear hK K
              try simp only [Act.put, List.setIfInBounds_toArray, List.set_cons_zero, List.set_cons_succ]
              refine wpAnyH_ready (rs := [1, 7]) (by kernel_rfl) (by simp) ?_
              refine (AllReadyH.cons (o := _) (by simp only [List.getElem?_toArray, List.getElem?_cons_succ, List.getElem?_cons_zero]; rfl) (fun K hK => ?_) (AllReadyH.cons (o := _) (by simp only [List.getElem?_toArray, List.getElem?_cons_succ, List.getElem?_cons_zero]; rfl) (fun K hK => ?_) AllReadyH.nil))
              · go_simp
                refine hK.out _ _ s6 (fun hHeld => ?_)
                clear hK K
                try simp only [Act.put, List.setIfInBounds_toArray, List.set_cons_zero, List.set_cons_succ]
                refine wpAnyH_ready (rs := [7]) (by kernel_rfl) (by simp) ?_
                refine (AllReadyH.cons (o := _) (by simp only [List.getElem?_toArray, List.getElem?_cons_succ, List.getElem?_cons_zero]; rfl) (fun K hK => ?_) AllReadyH.nil)
                go_simp
                have hA : Below w6.heap.size w6 (w6.alloc (.cells #[.int .i64 pn] 3)) := (Below.refl _ w6).alloc (Nat.le_refl _) _
                have q7 := cell_lit w6 #[.int .i64 pn] 3 0
                have l7 : w6.heap.size < (w6.alloc (.cells #[.int .i64 pn] 3)).heap.size := by simp
                obtain ⟨W7, hW7⟩ : ∃ W7, w6.alloc (.cells #[.int .i64 pn] 3) = W7 := ⟨_, rfl⟩
                rw [hW7] at hA q7 l7 ⊢
                clear hW7
                replace q7 := q7.trans (show _ = some (Value.int .i64 pn) from rfl)
                have s7 := (hA.cell (p := ⟨gq, k, none⟩) (Nat.lt_of_lt_of_le hql2 b6.size)).trans s6
                have p7 := (hA.cell (p := ⟨R, 3, none⟩) (Nat.lt_of_lt_of_le hbl b6.size)).trans p6
                refine hK.out _ _ s7 (fun hHeld => ?_)
                clear hK K
                try simp only [Act.put, List.setIfInBounds_toArray, List.set_cons_zero, List.set_cons_succ]
                have o7 := ownsN_below (ownsN_below HW.out.2.1 b6) hA
                have rw7 := (HW.out.2.2.below b6 HW.out.2.2.size).below hA (Nat.le_trans HW.out.2.2.size b6.size)
                have k7 := (hA.block R (Nat.lt_of_lt_of_le hbl b6.size)).trans ((b6.block R hbl).trans HW.out.1)
                refine wpAnyH_ready (rs := [8]) (by kernel_rfl) (by simp) ?_
                refine (AllReadyH.cons (o := _) (by simp only [List.getElem?_toArray, List.getElem?_cons_succ, List.getElem?_cons_zero]; rfl) (fun K hK => ?_) AllReadyH.nil)
                refine step_append_ints rfl (.tmp 71) (.tmp 77) rfl w5.heap.size _ _ xs [pn] rfl rfl o7 (ints_one q7 l7) (Nat.le_trans HW.out.2.2.size (Nat.le_trans b6.size hA.size)) (by have := HKL.out; simp; omega) ?_
                intro u W8 oB bB
                obtain ⟨ua, ucap, rfl⟩ := ints_len (ownsN_ints oB)
                have k8 := (bB.block R HR6.out).trans k7
                have s8 := (bB.cell (p := ⟨gq, k, none⟩) HGK.out.1).trans s7
                have rw8 := rw7.below bB (Nat.le_refl _)
                refine hK.out _ _ s8 (fun hHeld => ?_)
                clear hK K
                try simp only [Act.put, List.setIfInBounds_toArray, List.set_cons_zero, List.set_cons_succ]
                refine take_runs (i := 9) (v := ?_) (by simp only [List.getElem?_toArray, List.getElem?_cons_succ, List.getElem?_cons_zero]; rfl) (by kernel_rfl) (by kernel_rfl) (by kernel_rfl) rfl (by exact fun _ _ _ h => h) (by rfl) ?_ (by assumption) ?_
                rotate_left
                · intro w hSw; (try dsimp only at hSw); go_simp; try (with_reducible rfl)
                try simp only [Act.put, List.setIfInBounds_toArray, List.set_cons_zero, List.set_cons_succ]
                have d1 := cell_of_row W8 _ 3 _ _ _ k8
                have f1 := frozen_of_row W8 _ 3 _ _ k8
                simp at d1
                refine wpAnyH_ready (rs := [10]) (by kernel_rfl) (by simp) ?_
                refine (AllReadyH.cons (o := _) (by simp only [List.getElem?_toArray, List.getElem?_cons_succ, List.getElem?_cons_zero]; rfl) (fun K hK => ?_) AllReadyH.nil)
                go_simp
                have r9 := heap_setCell_same W8 R 3 _ _ (.slice ua (xs ++ [pn]).length ucap) k8
                have o9 := ownsN_low oB (b := R) HR6.out 3 (.slice ua (xs ++ [pn]).length ucap)
                have rw9 := rw8.set 3 (.slice ua (xs ++ [pn]).length ucap)
                have s9 : (W8.setCell ⟨R, 3, none⟩ (.slice ua (xs ++ [pn]).length ucap)).cell? ⟨gq, k, none⟩ = some (.string (strB qk)) := by
                  unfold World.cell? at s8 ⊢
                  rw [Below.heap_setCell _ _ _ _ (by simpa using HGK.out.2)]; exact s8
                simp only [List.length_append, List.length_cons, List.length_nil, Nat.zero_add] at r9 o9 rw9 s9
                generalize W8.setCell ⟨R, 3, none⟩ (.slice ua (xs.length + 1) ucap) = W9 at *
                refine hK.out _ _ s9 (fun hHeld => ?_)
                clear hK K
                try simp only [Act.put, List.setIfInBounds_toArray, List.set_cons_zero, List.set_cons_succ]
                refine wpAnyH_done (by kernel_rfl) ?_ _
                rw [HS2.out] at o9
                clear s6 p6 s7 p7 hA q7 l7 o7 rw7 k7 oB bB k8 s8 rw8 d1 f1 s9 b6 hHeld hcell q3
                try clear b6'
                go_wp2
                go_roundw
                case rel => exact ⟨k + 1, .slice ua (xs.length + 1) ucap, by omega, by go_num, by simpa using r9, o9, rw9⟩
                case measure => simp [intOf]; omega
              · go_simp
                have hA : Below w6.heap.size w6 (w6.alloc (.cells #[.int .i64 pn] 3)) := (Below.refl _ w6).alloc (Nat.le_refl _) _
                have q7 := cell_lit w6 #[.int .i64 pn] 3 0
                have l7 : w6.heap.size < (w6.alloc (.cells #[.int .i64 pn] 3)).heap.size := by simp
                obtain ⟨W7, hW7⟩ : ∃ W7, w6.alloc (.cells #[.int .i64 pn] 3) = W7 := ⟨_, rfl⟩
                rw [hW7] at hA q7 l7 ⊢
                clear hW7
                replace q7 := q7.trans (show _ = some (Value.int .i64 pn) from rfl)
                have s7 := (hA.cell (p := ⟨gq, k, none⟩) (Nat.lt_of_lt_of_le hql2 b6.size)).trans s6
                have p7 := (hA.cell (p := ⟨R, 3, none⟩) (Nat.lt_of_lt_of_le hbl b6.size)).trans p6
                refine hK.out _ _ s7 (fun hHeld => ?_)
                clear hK K
                try simp only [Act.put, List.setIfInBounds_toArray, List.set_cons_zero, List.set_cons_succ]
                refine wpAnyH_ready (rs := [1]) (by kernel_rfl) (by simp) ?_
                refine (AllReadyH.cons (o := _) (by simp only [List.getElem?_toArray, List.getElem?_cons_succ, List.getElem?_cons_zero]; rfl) (fun K hK => ?_) AllReadyH.nil)
                go_simp
                refine hK.out _ _ s7 (fun hHeld => ?_)
                clear hK K
                try simp only [Act.put, List.setIfInBounds_toArray, List.set_cons_zero, List.set_cons_succ]
                have o7 := ownsN_below (ownsN_below HW.out.2.1 b6) hA
                have rw7 := (HW.out.2.2.below b6 HW.out.2.2.size).below hA (Nat.le_trans HW.out.2.2.size b6.size)
                have k7 := (hA.block R (Nat.lt_of_lt_of_le hbl b6.size)).trans ((b6.block R hbl).trans HW.out.1)
                refine wpAnyH_ready (rs := [8]) (by kernel_rfl) (by simp) ?_
                refine (AllReadyH.cons (o := _) (by simp only [List.getElem?_toArray, List.getElem?_cons_succ, List.getElem?_cons_zero]; rfl) (fun K hK => ?_) AllReadyH.nil)
                refine step_append_ints rfl (.tmp 71) (.tmp 77) rfl w5.heap.size _ _ xs [pn] rfl rfl o7 (ints_one q7 l7) (Nat.le_trans HW.out.2.2.size (Nat.le_trans b6.size hA.size)) (by have := HKL.out; simp; omega) ?_
                intro u W8 oB bB
                obtain ⟨ua, ucap, rfl⟩ := ints_len (ownsN_ints oB)
                have k8 := (bB.block R HR6.out).trans k7
                have s8 := (bB.cell (p := ⟨gq, k, none⟩) HGK.out.1).trans s7
                have rw8 := rw7.below bB (Nat.le_refl _)
                refine hK.out _ _ s8 (fun hHeld => ?_)
                clear hK K
                try simp only [Act.put, List.setIfInBounds_toArray, List.set_cons_zero, List.set_cons_succ]
                refine take_runs (i := 9) (v := ?_) (by simp only [List.getElem?_toArray, List.getElem?_cons_succ, List.getElem?_cons_zero]; rfl) (by kernel_rfl) (by kernel_rfl) (by kernel_rfl) rfl (by exact fun _ _ _ h => h) (by rfl) ?_ (by assumption) ?_
                rotate_left
                · intro w hSw; (try dsimp only at hSw); go_simp; try (with_reducible rfl)
                try simp only [Act.put, List.setIfInBounds_toArray, List.set_cons_zero, List.set_cons_succ]
                have d1 := cell_of_row W8 _ 3 _ _ _ k8
                have f1 := frozen_of_row W8 _ 3 _ _ k8
                simp at d1
                refine wpAnyH_ready (rs := [10]) (by kernel_rfl) (by simp) ?_
                refine (AllReadyH.cons (o := _) (by simp only [List.getElem?_toArray, List.getElem?_cons_succ, List.getElem?_cons_zero]; rfl) (fun K hK => ?_) AllReadyH.nil)
                go_simp
                have r9 := heap_setCell_same W8 R 3 _ _ (.slice ua (xs ++ [pn]).length ucap) k8
                have o9 := ownsN_low oB (b := R) HR6.out 3 (.slice ua (xs ++ [pn]).length ucap)
                have rw9 := rw8.set 3 (.slice ua (xs ++ [pn]).length ucap)
                have s9 : (W8.setCell ⟨R, 3, none⟩ (.slice ua (xs ++ [pn]).length ucap)).cell? ⟨gq, k, none⟩ = some (.string (strB qk)) := by
                  unfold World.cell? at s8 ⊢
                  rw [Below.heap_setCell _ _ _ _ (by simpa using HGK.out.2)]; exact s8
                simp only [List.length_append, List.length_cons, List.length_nil, Nat.zero_add] at r9 o9 rw9 s9
                generalize W8.setCell ⟨R, 3, none⟩ (.slice ua (xs.length + 1) ucap) = W9 at *
                refine hK.out _ _ s9 (fun hHeld => ?_)
                clear hK K
                try simp only [Act.put, List.setIfInBounds_toArray, List.set_cons_zero, List.set_cons_succ]
                refine wpAnyH_done (by kernel_rfl) ?_ _
                rw [HS2.out] at o9
                clear s6 p6 s7 p7 hA q7 l7 o7 rw7 k7 oB bB k8 s8 rw8 d1 f1 s9 b6 hHeld hcell q3
                try clear b6'
                go_wp2
                go_roundw
                case rel => exact ⟨k + 1, .slice ua (xs.length + 1) ucap, by omega, by go_num, by simpa using r9, o9, rw9⟩
                case measure => simp [intOf]; omega
          · obtain rfl : k = Q.length := by omega
            rw [List.take_length] at hown
            have HXL : Hid ((Q.map numL).length ≤ 1048576) := Lib.hid (by rw [List.length_map]; exact HQLEN.out)
            generalize Q.map numL = os at *
            obtain ⟨oa, ocap, rfl⟩ := ints_len (ownsN_ints hown)
            have hoc := ownsC_rowed HOC5.out hrw (Nat.lt_of_lt_of_le HR4.out (Nat.le_refl _)) (fun b hb => (HOC5.out.lt b hb).2)
            have HFR := Lib.hid (fun w h g => specFormatQuery id tn (.slice ca cs.length ccap) (.slice oa os.length ocap) cs os w h HCL.out g HXL.out)
            have q0 := (cell_of_row wr _ 0 _ _ _ hbx).trans (show _ = some (Value.int .i64 id) from rfl)
            have q1 := (cell_of_row wr _ 1 _ _ _ hbx).trans (show _ = some (Value.int .i64 tn) from rfl)
            have q2 := (cell_of_row wr _ 2 _ _ _ hbx).trans (show _ = some (Value.slice ca cs.length ccap) from rfl)
            have q3 := (cell_of_row wr _ 3 _ _ _ hbx).trans (show _ = some (Value.slice oa os.length ocap) from rfl)
            have kz := (hrw.block w.heap.size (Nat.lt_trans HRW.out HR6.out) (Nat.ne_of_lt HRW.out)).trans HK5.out
            have cz := hrw.all HC5.out (Nat.le_of_lt HRW.out) HC5.out.size
            have HAPT : Hid (∀ b, (Value.slice ca cs.length ccap).ownBlock = some b → (Value.slice oa os.length ocap).ownBlock ≠ some b) := Lib.hid (fun b h1 h2 => by have := (HOC5.out.lt b h1).2; have := (hown.lt b h2).1; omega)
            have HKZ9 := Lib.hid kz
            have HCZ := Lib.hid cz
            have HBX9 := Lib.hid hbx
            have HOW := Lib.hid hown
            have HOC9 := Lib.hid hoc
            clear kz cz hbx hown hrw hoc
            by_cases hf : fmtQ id tn cs os = l
            · have HA : Hid (parQ l = ((id, tn, cs, os), true)) := Lib.hid (by have e := parQ_yes (l := l) (by rw [HPP.out]; omega) (by rw [HPP.out, HQS.out]; exact hf); rw [e, HPP.out, HQS.out])
              have hcmp : (!((strB (fmtQ id tn cs os)).toList == (strB l).toList)) = false := by rw [strB_toList, strB_toList]; rw [hf]; simp
              clear hf
              generalize strB (fmtQ id tn cs os) = st at *
              generalize parQ l = pr at *
              generalize strB l = sl at *
              go_wp2_with fail
              refine (HFR.out _ (ownsC_conds HOC9.out) (ownsN_ints HOW.out)).mono ?_
              rintro e w9 ⟨rfl, b9⟩
              have c9 := HCZ.out.trans (b9.mono HCZ.out.size)
              have kz := (b9.block w.heap.size (Array.getElem?_eq_some_iff.1 HKZ9.out).1).trans HKZ9.out
              have kb := (b9.block R (Array.getElem?_eq_some_iff.1 HBX9.out).1).trans HBX9.out
              have o9 := ownsN_below HOW.out b9
              have oc9 := ownsC_below HOC9.out b9
              clear q0 q1 q2 q3
              have z0 := (cell_of_row w9 _ 0 _ _ _ kz).trans (show _ = some (Value.int .i64 0) from rfl)
              have f0 := frozen_of_row w9 _ 0 _ _ kz
              have z1 := (cell_of_row w9 _ 1 _ _ _ kz).trans (show _ = some (Value.int .i64 0) from rfl)
              have f1 := frozen_of_row w9 _ 1 _ _ kz
              have z2 := (cell_of_row w9 _ 2 _ _ _ kz).trans (show _ = some (Value.slice none 0 0) from rfl)
              have f2 := frozen_of_row w9 _ 2 _ _ kz
              have z3 := (cell_of_row w9 _ 3 _ _ _ kz).trans (show _ = some (Value.slice none 0 0) from rfl)
              have f3 := frozen_of_row w9 _ 3 _ _ kz
              have q0 := (cell_of_row w9 _ 0 _ _ _ kb).trans (show _ = some (Value.int .i64 id) from rfl)
              have q1 := (cell_of_row w9 _ 1 _ _ _ kb).trans (show _ = some (Value.int .i64 tn) from rfl)
              have q2 := (cell_of_row w9 _ 2 _ _ _ kb).trans (show _ = some (Value.slice ca cs.length ccap) from rfl)
              have q3 := (cell_of_row w9 _ 3 _ _ _ kb).trans (show _ = some (Value.slice oa os.length ocap) from rfl)
              have HK9 := Lib.hid kz
              have HC9 := Lib.hid c9
              have HO9 := Lib.hid o9
              have HOC10 := Lib.hid oc9
              clear kz kb c9 o9 oc9 b9
              go_wp2
              have r1 := heap_setCell_same w9 w.heap.size 0 _ _ (.int .i64 id) HK9.out
              have r2 := heap_setCell_same _ w.heap.size 1 _ _ (.int .i64 tn) r1
              have r3 := heap_setCell_same _ w.heap.size 2 _ _ (.slice ca cs.length ccap) r2
              have r4 := heap_setCell_same _ w.heap.size 3 _ _ (.slice oa os.length ocap) r3
              have B4 := ((((HC9.out.setCell (p := ⟨w.heap.size, 0, none⟩) (Nat.le_refl _) (.int .i64 id)).setCell (p := ⟨w.heap.size, 1, none⟩) (Nat.le_refl _) (.int .i64 tn)).setCell (p := ⟨w.heap.size, 2, none⟩) (Nat.le_refl _) (.slice ca cs.length ccap)).setCell (p := ⟨w.heap.size, 3, none⟩) (Nat.le_refl _) (.slice oa os.length ocap))
              have hlow := Nat.lt_trans HRW.out HR6.out
              have hlowc := Nat.lt_trans HRW.out HR4.out
              have o6 := (ownsN_low (ownsN_low (ownsN_low (ownsN_low HO9.out (b := w.heap.size) hlow 0 (.int .i64 id)) (b := w.heap.size) hlow 1 (.int .i64 tn)) (b := w.heap.size) hlow 2 (.slice ca cs.length ccap)) (b := w.heap.size) hlow 3 (.slice oa os.length ocap))
              have oc6 := (ownsC_low (ownsC_low (ownsC_low (ownsC_low HOC10.out (b := w.heap.size) hlowc 0 (.int .i64 id)) (b := w.heap.size) hlowc 1 (.int .i64 tn)) (b := w.heap.size) hlowc 2 (.slice ca cs.length ccap)) (b := w.heap.size) hlowc 3 (.slice oa os.length ocap))
              have e0 := cell_of_row _ _ 0 _ _ _ r4
              have e1 := cell_of_row _ _ 1 _ _ _ r4
              have e2 := cell_of_row _ _ 2 _ _ _ r4
              have e3 := cell_of_row _ _ 3 _ _ _ r4
              simp at e0 e1 e2 e3
              refine bodyPost_ret (v := .tuple #[qV id tn (.slice ca cs.length ccap) (.slice oa os.length ocap), .bool true]) ?_ rfl ?_
              · simp [results, Tryd.f25, go_sem, e0, e1, e2, e3, qV]
              · exact parAnsQ_yes HA.out (ownsC_up oc6 (Nat.le_of_lt hlowc)) (ownsN_up o6 (Nat.le_of_lt hlow)) HAPT.out B4
            · have HA : Hid (parQ l = (q0D, false)) := Lib.hid (by exact parQ_no (Or.inr (by rw [HPP.out, HQS.out]; exact hf)))
              have hcmp : (!((strB (fmtQ id tn cs os)).toList == (strB l).toList)) = true := by rw [strB_toList, strB_toList]; rw [Bool.not_eq_true', beq_eq_false_iff_ne]; exact hf
              clear hf
              generalize strB (fmtQ id tn cs os) = st at *
              generalize parQ l = pr at *
              generalize strB l = sl at *
              go_wp2_with fail
              refine (HFR.out _ (ownsC_conds HOC9.out) (ownsN_ints HOW.out)).mono ?_
              rintro e w9 ⟨rfl, b9⟩
              have c9 := HCZ.out.trans (b9.mono HCZ.out.size)
              have kz := (b9.block w.heap.size (Array.getElem?_eq_some_iff.1 HKZ9.out).1).trans HKZ9.out
              have kb := (b9.block R (Array.getElem?_eq_some_iff.1 HBX9.out).1).trans HBX9.out
              have o9 := ownsN_below HOW.out b9
              have oc9 := ownsC_below HOC9.out b9
              clear q0 q1 q2 q3
              have z0 := (cell_of_row w9 _ 0 _ _ _ kz).trans (show _ = some (Value.int .i64 0) from rfl)
              have f0 := frozen_of_row w9 _ 0 _ _ kz
              have z1 := (cell_of_row w9 _ 1 _ _ _ kz).trans (show _ = some (Value.int .i64 0) from rfl)
              have f1 := frozen_of_row w9 _ 1 _ _ kz
              have z2 := (cell_of_row w9 _ 2 _ _ _ kz).trans (show _ = some (Value.slice none 0 0) from rfl)
              have f2 := frozen_of_row w9 _ 2 _ _ kz
              have z3 := (cell_of_row w9 _ 3 _ _ _ kz).trans (show _ = some (Value.slice none 0 0) from rfl)
              have f3 := frozen_of_row w9 _ 3 _ _ kz
              have q0 := (cell_of_row w9 _ 0 _ _ _ kb).trans (show _ = some (Value.int .i64 id) from rfl)
              have q1 := (cell_of_row w9 _ 1 _ _ _ kb).trans (show _ = some (Value.int .i64 tn) from rfl)
              have q2 := (cell_of_row w9 _ 2 _ _ _ kb).trans (show _ = some (Value.slice ca cs.length ccap) from rfl)
              have q3 := (cell_of_row w9 _ 3 _ _ _ kb).trans (show _ = some (Value.slice oa os.length ocap) from rfl)
              have HK9 := Lib.hid kz
              have HC9 := Lib.hid c9
              have HO9 := Lib.hid o9
              have HOC10 := Lib.hid oc9
              clear kz kb c9 o9 oc9 b9
              go_wp2
              have r1 := heap_setCell_same w9 w.heap.size 0 _ _ (.int .i64 0) HK9.out
              have r2 := heap_setCell_same _ w.heap.size 1 _ _ (.int .i64 0) r1
              have r3 := heap_setCell_same _ w.heap.size 2 _ _ (.slice none 0 0) r2
              have r4 := heap_setCell_same _ w.heap.size 3 _ _ (.slice none 0 0) r3
              have B4 := ((((HC9.out.setCell (p := ⟨w.heap.size, 0, none⟩) (Nat.le_refl _) (.int .i64 0)).setCell (p := ⟨w.heap.size, 1, none⟩) (Nat.le_refl _) (.int .i64 0)).setCell (p := ⟨w.heap.size, 2, none⟩) (Nat.le_refl _) (.slice none 0 0)).setCell (p := ⟨w.heap.size, 3, none⟩) (Nat.le_refl _) (.slice none 0 0))
              have e0 := cell_of_row _ _ 0 _ _ _ r4
              have e1 := cell_of_row _ _ 1 _ _ _ r4
              have e2 := cell_of_row _ _ 2 _ _ _ r4
              have e3 := cell_of_row _ _ 3 _ _ _ r4
              simp at e0 e1 e2 e3
              refine bodyPost_ret (v := .tuple #[qV 0 0 (.slice none 0 0) (.slice none 0 0), .bool false]) ?_ rfl ?_
              · simp [results, Tryd.f25, go_sem, e0, e1, e2, e3, qV]
              · exact parAnsQ_no HA.out B4
theorem specParseQuery (l : List UInt8) (w : World) (hl : l.length ≤ 1048576) :
    Calls Tryd.prog 25 #[.string (strB l)] w (ParAnsQ w (parQ l)) := by
  by_cases h4 : (cutL 32 l).length < 4
  · exact specQuery_short l w hl h4
  · exact specQuery_long l w hl h4
end Go.Proofs.YteelgogfpidcdaaDoor
