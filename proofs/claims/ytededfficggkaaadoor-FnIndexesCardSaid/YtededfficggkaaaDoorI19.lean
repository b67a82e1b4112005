/-
 Texts of the proof, merged: IdxDraw3.
-/
import Derived.Test.YtededfficggkaaaDoorI1
import Derived.Test.YtededfficggkaaaDoorI8
import Derived.Test.YtededfficggkaaaDoorI14
import Derived.Test.YtededfficggkaaaDoorI18
namespace Go.Proofs.YtededfficggkaaaDoor
open Go.RowKit
set_option linter.unusedVariables false
set_option linter.unusedSimpArgs false
theorem cur_setL {w0 : World} {c : Nat} {v : Value} {xs : List Int} {w : World} (h : Cur w0 c v xs w) {b : Nat} (hb : w0.heap.size ≤ b) (hne : b ≠ c) (j : Nat) (u : Value) : Cur w0 c v xs (w.setCell ⟨b, j, none⟩ u) := by
 obtain ⟨h1, h2, h3, h4, ⟨i, hh, h5, h6⟩, h7⟩ := h
 exact ⟨h1, h2, h3, h4, ⟨i, hh, h5, (heap_setCell_other w ⟨b, j, none⟩ c u (by simpa using fun e => hne e.symm)).trans h6⟩, h7.setCell (p := ⟨b, j, none⟩) hb u⟩
theorem set_other {w : World} {b j k : Nat} {u : Value} (h : k ≠ b) : (w.setCell ⟨b, j, none⟩ u).heap[k]? = w.heap[k]? := heap_setCell_other w ⟨b, j, none⟩ k u (by simpa using h)
theorem kept_ints {w : World} {B : Nat} {u : Value} {ys : List Int} (h : OwnsN w B u ys) : Kept B (fun z => SlR tInt z u ys) w := kept_slO tInt_law (own_slO h (F := fun b => B ≤ b) (fun b hb => (h.lt b hb).1)) (fun b hb => hb)
theorem kept_rows {w : World} {B : Nat} {u : Value} {rs : List RowD} (h : OwnsR w B u rs) : Kept B (fun z => SlR tRow z u rs) w := kept_slO tRow_law (ownsR_slO h (F := fun b => B ≤ b) (fun b hb => hb)) (fun b hb => hb)
theorem zL_rows4 {rs : List RowD} (h : ∀ r ∈ rs, r.2.length ≤ 4) (hl : rs.length ≤ 9) : zL tRow rs ≤ 45 := by
 have h1 : zL tRow rs ≤ rs.length * (1 + 4) := zL_le (fun r hr => by
  obtain ⟨id, ys⟩ := r
  have := h _ hr
  rw [tRow_sz, zL_ints]; exact this)
 omega
def GotDrawMatchSet (w : World) (e : Ending) (w' : World) : Prop :=
 ∃ (qv fv rv : Value) (qs : List QD) (fs : List (List SpanD)) (rid : Int) (ys : List Int), e = .returned (.tuple #[.agg #[qv, fv], .agg #[.int .i64 rid, rv]]) ∧ SlR tQuery w' qv qs ∧ SlR tSpanS w' fv fs ∧ SlR tInt w' rv ys ∧ zL tQuery qs ≤ 200 ∧ zL tSpanS fs ≤ 8000 ∧ ys.length ≤ 4 ∧ Below w.heap.size w w'
set_option maxHeartbeats 16000000 in
set_option maxRecDepth 100000 in
theorem drawMatchSet (v : Value) (xs : List Int) (w : World) (hcode : Code w v xs) (hsm : xs.length ≤ 1048576) (hby : ∀ x ∈ xs, 0 ≤ x ∧ x ≤ 255) :
  Calls Tryd.prog 40 #[v] w (GotDrawMatchSet w) := by
 have hb0 : Below w.heap.size w (w.alloc (.cells #[.slice none 0 0, .slice none 0 0] 49)) := (Below.refl _ w).alloc (Nat.le_refl _) _
 have z0 := heap_alloc_new w (.cells #[.slice none 0 0, .slice none 0 0] 49)
 have hb1 : Below w.heap.size w ((w.alloc (.cells #[.slice none 0 0, .slice none 0 0] 49)).alloc (.cells #[.int .i64 0, .slice none 0 0] 51)) := hb0.alloc hb0.size _
 have z0 := keepA (.cells #[.int .i64 0, .slice none 0 0] 51) z0
 have z1 := heap_alloc_new (w.alloc (.cells #[.slice none 0 0, .slice none 0 0] 49)) (.cells #[.int .i64 0, .slice none 0 0] 51)
 have s0 : ((w.alloc (.cells #[.slice none 0 0, .slice none 0 0] 49)).alloc (.cells #[.int .i64 0, .slice none 0 0] 51)).heap.size = w.heap.size + 2 := by simp [World.size_alloc]
 rw [show (w.alloc (.cells #[.slice none 0 0, .slice none 0 0] 49)).heap.size = w.heap.size + 1 by simp [World.size_alloc]] at z1
 have HN := Lib.hid (new_any v xs _ (code_below hcode hb1) hsm hby)
 have HC0 := Lib.hid hcode
 have HB := Lib.hid hb1
 clear hcode hby hb0 hb1
 go_enter Tryd.func40, Tryd.ntmps40
 go_wp2_with fail
 try rw [show (w.alloc (.cells #[.slice none 0 0, .slice none 0 0] 49)).heap.size = w.heap.size + 1 by simp [World.size_alloc]]
 generalize ((w.alloc (.cells #[.slice none 0 0, .slice none 0 0] 49)).alloc (.cells #[.int .i64 0, .slice none 0 0] 51)) = W at *
 refine HN.out.mono ?_
 rintro e w1 ⟨rfl, hCW⟩
 have C : Hid (Cur w W.heap.size v xs w1) := Lib.hid ⟨HC0.out, hCW.small, hCW.bytes, HB.out.size, hCW.cells, HB.out.trans (hCW.old.mono HB.out.size)⟩
 have Z0 := Lib.hid (keepB hCW.old (by omega) z0)
 have Z1 := Lib.hid (keepB hCW.old (by omega) z1)
 obtain ⟨c, hc⟩ : ∃ c, W.heap.size = c := ⟨_, rfl⟩
 rw [hc] at C s0 ⊢
 have HR : Hid (w.heap.size + 2 ≤ c) := Lib.hid (by omega)
 clear HN hCW z0 z1 HC0 HB hc s0
 go_wp2_with fail
 refine (index_any w c v xs _ C.out).mono ?_
 rintro e w2 ⟨qv, fv, qs, fs, rfl, hq, hf, hqz, hfz, d2⟩
 have hlt := cur_lt C.out
 replace Z0 := Lib.hid (keep d2.gr (by have := HR.out; omega) Z0.out)
 replace Z1 := Lib.hid (keep d2.gr (by have := HR.out; omega) Z1.out)
 replace C := Lib.hid (d2.cur)
 obtain ⟨a0, c0, rfl⟩ := slR_len hq.at
 obtain ⟨a1, c1, rfl⟩ := slR_len hf.at
 have KQ := Lib.hid hq
 have KF := Lib.hid hf
 have HKQ := Lib.hid hlt
 have HKF := Lib.hid hlt
 have HQZ := Lib.hid hqz
 have HFZ := Lib.hid hfz
 clear hq hf hlt hqz hfz d2
 go_wp2
 have BX := Lib.hid (heap_alloc_new w2 (.cells #[.slice a0 qs.length c0, .slice a1 fs.length c1] 49))
 have HX : Hid (c < w2.heap.size) := Lib.hid (cur_lt C.out)
 replace Z0 := Lib.hid (keepA (.cells #[.slice a0 qs.length c0, .slice a1 fs.length c1] 49) Z0.out)
 replace Z1 := Lib.hid (keepA (.cells #[.slice a0 qs.length c0, .slice a1 fs.length c1] 49) Z1.out)
 replace KQ := Lib.hid (KQ.out.alloc (.cells #[.slice a0 qs.length c0, .slice a1 fs.length c1] 49))
 replace KF := Lib.hid (KF.out.alloc (.cells #[.slice a0 qs.length c0, .slice a1 fs.length c1] 49))
 replace C := Lib.hid (cur_alloc C.out (.cells #[.slice a0 qs.length c0, .slice a1 fs.length c1] 49))
 generalize w2.alloc (.cells #[.slice a0 qs.length c0, .slice a1 fs.length c1] 49) = w3 at *
 generalize w2.heap.size = X at *
 have p_BX_0 := (cell_of_row w3 _ 0 _ _ _ BX.out).trans (show _ = some (Value.slice a0 qs.length c0) from rfl)
 have p_BX_1 := (cell_of_row w3 _ 1 _ _ _ BX.out).trans (show _ = some (Value.slice a1 fs.length c1) from rfl)
 refine wp_region_held_drew (S := fun w' => w'.cell? ⟨X, 0, none⟩ = some (Value.slice a0 qs.length c0) ∧ w'.cell? ⟨X, 1, none⟩ = some (Value.slice a1 fs.length c1)) (by kernel_rfl) ⟨p_BX_0, p_BX_1⟩ (fun hHeld => ?_)
 clear p_BX_0 p_BX_1
 replace Z0 := Lib.hid (show (w3.drew).heap[w.heap.size]? = _ from Z0.out)
 replace Z1 := Lib.hid (show (w3.drew).heap[w.heap.size + 1]? = _ from Z1.out)
 replace BX := Lib.hid (show (w3.drew).heap[X]? = _ from BX.out)
 replace KQ := Lib.hid (KQ.out.drew)
 replace KF := Lib.hid (KF.out.drew)
 replace C := Lib.hid (cur_below C.out (cur_lt C.out) C.out.old.size (below_drew (Below.refl w3.heap.size w3)))
 refine tR (i := 0) (v := ?_) ?_ ?_; rotate_left
 ·
  intro w hSw; (try dsimp only at hSw); go_simp; try (with_reducible rfl)
 try simp only [Act.put, lA, lB, lC]
 refine tR (i := 1) (v := ?_) ?_ ?_; rotate_left
 ·
  intro w hSw; (try dsimp only at hSw); go_simp; try (with_reducible rfl)
 try simp only [Act.put, lA, lB, lC]
 refine wpAnyH_ready (rs := [2]) (by kernel_rfl) (by simp) ?_
 refine (AllReadyH.cons (o := _) (by simp only [hA, hB, hC]; rfl) (fun K hK => ?_) AllReadyH.nil)
 go_simp
 refine (rowAny_any w c v xs _ C.out).mono ?_
 rintro e w8 ⟨rid, rv, ys, rfl, or, hyl, d4⟩
 have hlt := cur_lt C.out
 replace Z0 := Lib.hid (keep d4.gr (by have := HR.out; have := HX.out; omega) Z0.out)
 replace Z1 := Lib.hid (keep d4.gr (by have := HR.out; have := HX.out; omega) Z1.out)
 replace BX := Lib.hid (keep d4.gr (by have := HR.out; have := HX.out; omega) BX.out)
 replace KQ := Lib.hid (KQ.out.grown d4.gr HKQ.out)
 replace KF := Lib.hid (KF.out.grown d4.gr HKF.out)
 replace C := Lib.hid (d4.cur)
 have KR := Lib.hid (kept_ints or)
 have HKR := Lib.hid hlt
 have HYL := Lib.hid hyl
 obtain ⟨a2, c2, rfl⟩ := slR_len KR.out.at
 clear or hlt hyl d4
 have p_BX_0 := (cell_of_row w8 _ 0 _ _ _ BX.out).trans (show _ = some (Value.slice a0 qs.length c0) from rfl)
 have p_BX_1 := (cell_of_row w8 _ 1 _ _ _ BX.out).trans (show _ = some (Value.slice a1 fs.length c1) from rfl)
 refine hK.out _ _ ⟨p_BX_0, p_BX_1⟩ (fun hHeld => ?_)
 clear p_BX_0 p_BX_1
 clear hK K
 try simp only [Act.put, lA, lB, lC]
 refine wpAnyH_ready (rs := [3]) (by kernel_rfl) (by simp) ?_
 refine (AllReadyH.cons (o := _) (by simp only [hA, hB, hC]; rfl) (fun K hK => ?_) AllReadyH.nil)
 have q_0 := (cell_of_row w8 _ 0 _ _ _ Z0.out).trans (show _ = some (Value.slice none 0 0) from rfl)
 have g_0 := frozen_of_row w8 _ 0 _ _ Z0.out
 have q_1 := (cell_of_row w8 _ 1 _ _ _ Z0.out).trans (show _ = some (Value.slice none 0 0) from rfl)
 have g_1 := frozen_of_row w8 _ 1 _ _ Z0.out
 go_simp
 clear q_0 g_0 q_1 g_1
 replace Z0 : Hid ((w8.setCell ⟨w.heap.size, 0, none⟩ (Value.slice a0 qs.length c0)).heap[w.heap.size]? = some (.cells #[Value.slice a0 qs.length c0, Value.slice none 0 0] 49 (0, 0))) := Lib.hid (by have r := heap_setCell_same w8 (w.heap.size) 0 _ _ (Value.slice a0 qs.length c0) Z0.out; simpa using r)
 replace Z1 := Lib.hid ((set_other (w := w8) (b := w.heap.size) (j := 0) (k := w.heap.size + 1) (u := Value.slice a0 qs.length c0) (by have := HR.out; have := HX.out; omega)).trans Z1.out)
 replace BX := Lib.hid ((set_other (w := w8) (b := w.heap.size) (j := 0) (k := X) (u := Value.slice a0 qs.length c0) (by have := HR.out; have := HX.out; omega)).trans BX.out)
 replace KQ := Lib.hid (KQ.out.set (g := w.heap.size) (by have := HKQ.out; have := HR.out; have := HX.out; omega) 0 (Value.slice a0 qs.length c0))
 replace KF := Lib.hid (KF.out.set (g := w.heap.size) (by have := HKF.out; have := HR.out; have := HX.out; omega) 0 (Value.slice a0 qs.length c0))
 replace KR := Lib.hid (KR.out.set (g := w.heap.size) (by have := HKR.out; have := HR.out; have := HX.out; omega) 0 (Value.slice a0 qs.length c0))
 replace C := Lib.hid (cur_setL C.out (b := w.heap.size) (by have := HR.out; have := HX.out; omega) (by have := HR.out; have := HX.out; omega) 0 (Value.slice a0 qs.length c0))
 replace Z0 : Hid (((w8.setCell ⟨w.heap.size, 0, none⟩ (Value.slice a0 qs.length c0)).setCell ⟨w.heap.size, 1, none⟩ (Value.slice a1 fs.length c1)).heap[w.heap.size]? = some (.cells #[Value.slice a0 qs.length c0, Value.slice a1 fs.length c1] 49 (0, 0))) := Lib.hid (by have r := heap_setCell_same (w8.setCell ⟨w.heap.size, 0, none⟩ (Value.slice a0 qs.length c0)) (w.heap.size) 1 _ _ (Value.slice a1 fs.length c1) Z0.out; simpa using r)
 replace Z1 := Lib.hid ((set_other (w := (w8.setCell ⟨w.heap.size, 0, none⟩ (Value.slice a0 qs.length c0))) (b := w.heap.size) (j := 1) (k := w.heap.size + 1) (u := Value.slice a1 fs.length c1) (by have := HR.out; have := HX.out; omega)).trans Z1.out)
 replace BX := Lib.hid ((set_other (w := (w8.setCell ⟨w.heap.size, 0, none⟩ (Value.slice a0 qs.length c0))) (b := w.heap.size) (j := 1) (k := X) (u := Value.slice a1 fs.length c1) (by have := HR.out; have := HX.out; omega)).trans BX.out)
 replace KQ := Lib.hid (KQ.out.set (g := w.heap.size) (by have := HKQ.out; have := HR.out; have := HX.out; omega) 1 (Value.slice a1 fs.length c1))
 replace KF := Lib.hid (KF.out.set (g := w.heap.size) (by have := HKF.out; have := HR.out; have := HX.out; omega) 1 (Value.slice a1 fs.length c1))
 replace KR := Lib.hid (KR.out.set (g := w.heap.size) (by have := HKR.out; have := HR.out; have := HX.out; omega) 1 (Value.slice a1 fs.length c1))
 replace C := Lib.hid (cur_setL C.out (b := w.heap.size) (by have := HR.out; have := HX.out; omega) (by have := HR.out; have := HX.out; omega) 1 (Value.slice a1 fs.length c1))
 generalize ((w8.setCell ⟨w.heap.size, 0, none⟩ (Value.slice a0 qs.length c0)).setCell ⟨w.heap.size, 1, none⟩ (Value.slice a1 fs.length c1)) = v2 at *
 have p_BX_0 := (cell_of_row v2 _ 0 _ _ _ BX.out).trans (show _ = some (Value.slice a0 qs.length c0) from rfl)
 have p_BX_1 := (cell_of_row v2 _ 1 _ _ _ BX.out).trans (show _ = some (Value.slice a1 fs.length c1) from rfl)
 refine hK.out _ _ ⟨p_BX_0, p_BX_1⟩ (fun hHeld => ?_)
 clear p_BX_0 p_BX_1
 clear hK K
 try simp only [Act.put, lA, lB, lC]
 refine wpAnyH_ready (rs := [4]) (by kernel_rfl) (by simp) ?_
 refine (AllReadyH.cons (o := _) (by simp only [hA, hB, hC]; rfl) (fun K hK => ?_) AllReadyH.nil)
 have q_0 := (cell_of_row v2 _ 0 _ _ _ Z1.out).trans (show _ = some (Value.int .i64 0) from rfl)
 have g_0 := frozen_of_row v2 _ 0 _ _ Z1.out
 have q_1 := (cell_of_row v2 _ 1 _ _ _ Z1.out).trans (show _ = some (Value.slice none 0 0) from rfl)
 have g_1 := frozen_of_row v2 _ 1 _ _ Z1.out
 go_simp
 clear q_0 g_0 q_1 g_1
 replace Z0 := Lib.hid ((set_other (w := v2) (b := w.heap.size + 1) (j := 0) (k := w.heap.size) (u := Value.int .i64 rid) (by have := HR.out; have := HX.out; omega)).trans Z0.out)
 replace Z1 : Hid ((v2.setCell ⟨w.heap.size + 1, 0, none⟩ (Value.int .i64 rid)).heap[w.heap.size + 1]? = some (.cells #[Value.int .i64 rid, Value.slice none 0 0] 51 (0, 0))) := Lib.hid (by have r := heap_setCell_same v2 (w.heap.size + 1) 0 _ _ (Value.int .i64 rid) Z1.out; simpa using r)
 replace BX := Lib.hid ((set_other (w := v2) (b := w.heap.size + 1) (j := 0) (k := X) (u := Value.int .i64 rid) (by have := HR.out; have := HX.out; omega)).trans BX.out)
 replace KQ := Lib.hid (KQ.out.set (g := w.heap.size + 1) (by have := HKQ.out; have := HR.out; have := HX.out; omega) 0 (Value.int .i64 rid))
 replace KF := Lib.hid (KF.out.set (g := w.heap.size + 1) (by have := HKF.out; have := HR.out; have := HX.out; omega) 0 (Value.int .i64 rid))
 replace KR := Lib.hid (KR.out.set (g := w.heap.size + 1) (by have := HKR.out; have := HR.out; have := HX.out; omega) 0 (Value.int .i64 rid))
 replace C := Lib.hid (cur_setL C.out (b := w.heap.size + 1) (by have := HR.out; have := HX.out; omega) (by have := HR.out; have := HX.out; omega) 0 (Value.int .i64 rid))
 replace Z0 := Lib.hid ((set_other (w := (v2.setCell ⟨w.heap.size + 1, 0, none⟩ (Value.int .i64 rid))) (b := w.heap.size + 1) (j := 1) (k := w.heap.size) (u := Value.slice a2 ys.length c2) (by have := HR.out; have := HX.out; omega)).trans Z0.out)
 replace Z1 : Hid (((v2.setCell ⟨w.heap.size + 1, 0, none⟩ (Value.int .i64 rid)).setCell ⟨w.heap.size + 1, 1, none⟩ (Value.slice a2 ys.length c2)).heap[w.heap.size + 1]? = some (.cells #[Value.int .i64 rid, Value.slice a2 ys.length c2] 51 (0, 0))) := Lib.hid (by have r := heap_setCell_same (v2.setCell ⟨w.heap.size + 1, 0, none⟩ (Value.int .i64 rid)) (w.heap.size + 1) 1 _ _ (Value.slice a2 ys.length c2) Z1.out; simpa using r)
 replace BX := Lib.hid ((set_other (w := (v2.setCell ⟨w.heap.size + 1, 0, none⟩ (Value.int .i64 rid))) (b := w.heap.size + 1) (j := 1) (k := X) (u := Value.slice a2 ys.length c2) (by have := HR.out; have := HX.out; omega)).trans BX.out)
 replace KQ := Lib.hid (KQ.out.set (g := w.heap.size + 1) (by have := HKQ.out; have := HR.out; have := HX.out; omega) 1 (Value.slice a2 ys.length c2))
 replace KF := Lib.hid (KF.out.set (g := w.heap.size + 1) (by have := HKF.out; have := HR.out; have := HX.out; omega) 1 (Value.slice a2 ys.length c2))
 replace KR := Lib.hid (KR.out.set (g := w.heap.size + 1) (by have := HKR.out; have := HR.out; have := HX.out; omega) 1 (Value.slice a2 ys.length c2))
 replace C := Lib.hid (cur_setL C.out (b := w.heap.size + 1) (by have := HR.out; have := HX.out; omega) (by have := HR.out; have := HX.out; omega) 1 (Value.slice a2 ys.length c2))
 generalize ((v2.setCell ⟨w.heap.size + 1, 0, none⟩ (Value.int .i64 rid)).setCell ⟨w.heap.size + 1, 1, none⟩ (Value.slice a2 ys.length c2)) = v3 at *
 have p_BX_0 := (cell_of_row v3 _ 0 _ _ _ BX.out).trans (show _ = some (Value.slice a0 qs.length c0) from rfl)
 have p_BX_1 := (cell_of_row v3 _ 1 _ _ _ BX.out).trans (show _ = some (Value.slice a1 fs.length c1) from rfl)
 refine hK.out _ _ ⟨p_BX_0, p_BX_1⟩ (fun hHeld => ?_)
 clear p_BX_0 p_BX_1
 clear hK K
 try simp only [Act.put, lA, lB, lC]
 refine wpAnyH_done (by kernel_rfl) ?_ _
 clear hHeld
 have e_Z0_0 := (cell_of_row v3 _ 0 _ _ _ Z0.out).trans (show _ = some (Value.slice a0 qs.length c0) from rfl)
 have e_Z0_1 := (cell_of_row v3 _ 1 _ _ _ Z0.out).trans (show _ = some (Value.slice a1 fs.length c1) from rfl)
 have e_Z1_0 := (cell_of_row v3 _ 0 _ _ _ Z1.out).trans (show _ = some (Value.int .i64 rid) from rfl)
 have e_Z1_1 := (cell_of_row v3 _ 1 _ _ _ Z1.out).trans (show _ = some (Value.slice a2 ys.length c2) from rfl)
 go_wp2
 refine bodyPost_ret (v := .tuple #[.agg #[.slice a0 qs.length c0, .slice a1 fs.length c1], .agg #[.int .i64 rid, .slice a2 ys.length c2]]) ?_ rfl ?_
 ·
  simp [results, Tryd.f40, go_sem, e_Z0_0, e_Z0_1, e_Z1_0, e_Z1_1]
 ·
  exact ⟨_, _, _, qs, fs, rid, ys, rfl, KQ.out.at, KF.out.at, KR.out.at, HQZ.out, HFZ.out, HYL.out, C.out.old⟩
def GotDrawProbeSet (w : World) (e : Ending) (w' : World) : Prop :=
 ∃ (qv fv rv ov : Value) (qs : List QD) (fs : List (List SpanD)) (rid : Int) (ys os : List Int), e = .returned (.tuple #[.agg #[qv, fv], .agg #[.int .i64 rid, rv], ov]) ∧ SlR tQuery w' qv qs ∧ SlR tSpanS w' fv fs ∧ SlR tInt w' rv ys ∧ SlR tInt w' ov os ∧ zL tQuery qs ≤ 200 ∧ zL tSpanS fs ≤ 8000 ∧ ys.length ≤ 4 ∧ os.length = 3 ∧ Below w.heap.size w w'
set_option maxHeartbeats 16000000 in
set_option maxRecDepth 100000 in
theorem drawProbeSet (v : Value) (xs : List Int) (w : World) (hcode : Code w v xs) (hsm : xs.length ≤ 1048576) (hby : ∀ x ∈ xs, 0 ≤ x ∧ x ≤ 255) :
  Calls Tryd.prog 34 #[v] w (GotDrawProbeSet w) := by
 have hb0 : Below w.heap.size w (w.alloc (.cells #[.slice none 0 0, .slice none 0 0] 49)) := (Below.refl _ w).alloc (Nat.le_refl _) _
 have z0 := heap_alloc_new w (.cells #[.slice none 0 0, .slice none 0 0] 49)
 have hb1 : Below w.heap.size w ((w.alloc (.cells #[.slice none 0 0, .slice none 0 0] 49)).alloc (.cells #[.int .i64 0, .slice none 0 0] 51)) := hb0.alloc hb0.size _
 have z0 := keepA (.cells #[.int .i64 0, .slice none 0 0] 51) z0
 have z1 := heap_alloc_new (w.alloc (.cells #[.slice none 0 0, .slice none 0 0] 49)) (.cells #[.int .i64 0, .slice none 0 0] 51)
 have s0 : ((w.alloc (.cells #[.slice none 0 0, .slice none 0 0] 49)).alloc (.cells #[.int .i64 0, .slice none 0 0] 51)).heap.size = w.heap.size + 2 := by simp [World.size_alloc]
 rw [show (w.alloc (.cells #[.slice none 0 0, .slice none 0 0] 49)).heap.size = w.heap.size + 1 by simp [World.size_alloc]] at z1
 have HN := Lib.hid (new_any v xs _ (code_below hcode hb1) hsm hby)
 have HC0 := Lib.hid hcode
 have HB := Lib.hid hb1
 clear hcode hby hb0 hb1
 go_enter Tryd.func34, Tryd.ntmps34
 go_wp2_with fail
 try rw [show (w.alloc (.cells #[.slice none 0 0, .slice none 0 0] 49)).heap.size = w.heap.size + 1 by simp [World.size_alloc]]
 generalize ((w.alloc (.cells #[.slice none 0 0, .slice none 0 0] 49)).alloc (.cells #[.int .i64 0, .slice none 0 0] 51)) = W at *
 refine HN.out.mono ?_
 rintro e w1 ⟨rfl, hCW⟩
 have C : Hid (Cur w W.heap.size v xs w1) := Lib.hid ⟨HC0.out, hCW.small, hCW.bytes, HB.out.size, hCW.cells, HB.out.trans (hCW.old.mono HB.out.size)⟩
 have Z0 := Lib.hid (keepB hCW.old (by omega) z0)
 have Z1 := Lib.hid (keepB hCW.old (by omega) z1)
 obtain ⟨c, hc⟩ : ∃ c, W.heap.size = c := ⟨_, rfl⟩
 rw [hc] at C s0 ⊢
 have HR : Hid (w.heap.size + 2 ≤ c) := Lib.hid (by omega)
 clear HN hCW z0 z1 HC0 HB hc s0
 go_wp2_with fail
 refine (index_any w c v xs _ C.out).mono ?_
 rintro e w2 ⟨qv, fv, qs, fs, rfl, hq, hf, hqz, hfz, d2⟩
 have hlt := cur_lt C.out
 replace Z0 := Lib.hid (keep d2.gr (by have := HR.out; omega) Z0.out)
 replace Z1 := Lib.hid (keep d2.gr (by have := HR.out; omega) Z1.out)
 replace C := Lib.hid (d2.cur)
 obtain ⟨a0, c0, rfl⟩ := slR_len hq.at
 obtain ⟨a1, c1, rfl⟩ := slR_len hf.at
 have KQ := Lib.hid hq
 have KF := Lib.hid hf
 have HKQ := Lib.hid hlt
 have HKF := Lib.hid hlt
 have HQZ := Lib.hid hqz
 have HFZ := Lib.hid hfz
 clear hq hf hlt hqz hfz d2
 go_wp2_with fail
 have BX := Lib.hid (heap_alloc_new w2 (.cells #[.slice a0 qs.length c0, .slice a1 fs.length c1] 49))
 have HX : Hid (c < w2.heap.size) := Lib.hid (cur_lt C.out)
 replace Z0 := Lib.hid (keepA (.cells #[.slice a0 qs.length c0, .slice a1 fs.length c1] 49) Z0.out)
 replace Z1 := Lib.hid (keepA (.cells #[.slice a0 qs.length c0, .slice a1 fs.length c1] 49) Z1.out)
 replace KQ := Lib.hid (KQ.out.alloc (.cells #[.slice a0 qs.length c0, .slice a1 fs.length c1] 49))
 replace KF := Lib.hid (KF.out.alloc (.cells #[.slice a0 qs.length c0, .slice a1 fs.length c1] 49))
 replace C := Lib.hid (cur_alloc C.out (.cells #[.slice a0 qs.length c0, .slice a1 fs.length c1] 49))
 generalize w2.alloc (.cells #[.slice a0 qs.length c0, .slice a1 fs.length c1] 49) = w3 at *
 generalize w2.heap.size = X at *
 refine (rowAny_any w c v xs _ C.out).mono ?_
 rintro e w4 ⟨rid, rv, ys, rfl, or, hyl, d4⟩
 have hlt := cur_lt C.out
 replace Z0 := Lib.hid (keep d4.gr (by have := HR.out; have := HX.out; omega) Z0.out)
 replace Z1 := Lib.hid (keep d4.gr (by have := HR.out; have := HX.out; omega) Z1.out)
 replace BX := Lib.hid (keep d4.gr (by have := HR.out; have := HX.out; omega) BX.out)
 replace KQ := Lib.hid (KQ.out.grown d4.gr HKQ.out)
 replace KF := Lib.hid (KF.out.grown d4.gr HKF.out)
 replace C := Lib.hid (d4.cur)
 have KR := Lib.hid (kept_ints or)
 have HKR := Lib.hid hlt
 have HYL := Lib.hid hyl
 obtain ⟨a2, c2, rfl⟩ := slR_len KR.out.at
 clear or hlt hyl d4
 go_wp2
 have BR := Lib.hid (heap_alloc_new w4 (.cells #[.int .i64 rid, .slice a2 ys.length c2] 51))
 have HY : Hid (c < w4.heap.size ∧ X < w4.heap.size) := Lib.hid ⟨cur_lt C.out, (Array.getElem?_eq_some_iff.1 BX.out).1⟩
 replace Z0 := Lib.hid (keepA (.cells #[.int .i64 rid, .slice a2 ys.length c2] 51) Z0.out)
 replace Z1 := Lib.hid (keepA (.cells #[.int .i64 rid, .slice a2 ys.length c2] 51) Z1.out)
 replace BX := Lib.hid (keepA (.cells #[.int .i64 rid, .slice a2 ys.length c2] 51) BX.out)
 replace KQ := Lib.hid (KQ.out.alloc (.cells #[.int .i64 rid, .slice a2 ys.length c2] 51))
 replace KF := Lib.hid (KF.out.alloc (.cells #[.int .i64 rid, .slice a2 ys.length c2] 51))
 replace KR := Lib.hid (KR.out.alloc (.cells #[.int .i64 rid, .slice a2 ys.length c2] 51))
 replace C := Lib.hid (cur_alloc C.out (.cells #[.int .i64 rid, .slice a2 ys.length c2] 51))
 generalize w4.alloc (.cells #[.int .i64 rid, .slice a2 ys.length c2] 51) = w5 at *
 generalize w4.heap.size = Y at *
 have p_BX_0 := (cell_of_row w5 _ 0 _ _ _ BX.out).trans (show _ = some (Value.slice a0 qs.length c0) from rfl)
 have p_BX_1 := (cell_of_row w5 _ 1 _ _ _ BX.out).trans (show _ = some (Value.slice a1 fs.length c1) from rfl)
 have p_BR_0 := (cell_of_row w5 _ 0 _ _ _ BR.out).trans (show _ = some (Value.int .i64 rid) from rfl)
 have p_BR_1 := (cell_of_row w5 _ 1 _ _ _ BR.out).trans (show _ = some (Value.slice a2 ys.length c2) from rfl)
 refine wp_region_held_drew (S := fun w' => w'.cell? ⟨X, 0, none⟩ = some (Value.slice a0 qs.length c0) ∧ w'.cell? ⟨X, 1, none⟩ = some (Value.slice a1 fs.length c1) ∧ w'.cell? ⟨Y, 0, none⟩ = some (Value.int .i64 rid) ∧ w'.cell? ⟨Y, 1, none⟩ = some (Value.slice a2 ys.length c2)) (by kernel_rfl) ⟨p_BX_0, p_BX_1, p_BR_0, p_BR_1⟩ (fun hHeld => ?_)
 clear p_BX_0 p_BX_1 p_BR_0 p_BR_1
 replace Z0 := Lib.hid (show (w5.drew).heap[w.heap.size]? = _ from Z0.out)
 replace Z1 := Lib.hid (show (w5.drew).heap[w.heap.size + 1]? = _ from Z1.out)
 replace BX := Lib.hid (show (w5.drew).heap[X]? = _ from BX.out)
 replace BR := Lib.hid (show (w5.drew).heap[Y]? = _ from BR.out)
 replace KQ := Lib.hid (KQ.out.drew)
 replace KF := Lib.hid (KF.out.drew)
 replace KR := Lib.hid (KR.out.drew)
 replace C := Lib.hid (cur_below C.out (cur_lt C.out) C.out.old.size (below_drew (Below.refl w5.heap.size w5)))
 refine tR (i := 0) (v := ?_) ?_ ?_; rotate_left
 ·
  intro w hSw; (try dsimp only at hSw); go_simp; try (with_reducible rfl)
 try simp only [Act.put, lA, lB, lC]
 refine tR (i := 1) (v := ?_) ?_ ?_; rotate_left
 ·
  intro w hSw; (try dsimp only at hSw); go_simp; try (with_reducible rfl)
 try simp only [Act.put, lA, lB, lC]
 refine tR (i := 2) (v := ?_) ?_ ?_; rotate_left
 ·
  intro w hSw; (try dsimp only at hSw); go_simp; try (with_reducible rfl)
 try simp only [Act.put, lA, lB, lC]
 refine wpAnyH_ready (rs := [3]) (by kernel_rfl) (by simp) ?_
 refine (AllReadyH.cons (o := _) (by simp only [hA, hB, hC]; rfl) (fun K hK => ?_) AllReadyH.nil)
 go_simp
 refine (order_any w c v xs _ C.out).mono ?_
 rintro e w8 ⟨ov, os, hol, rfl, oo, d4⟩
 have hlt := cur_lt C.out
 replace Z0 := Lib.hid (keep d4.gr (by have := HR.out; have := HX.out; have := HY.out; omega) Z0.out)
 replace Z1 := Lib.hid (keep d4.gr (by have := HR.out; have := HX.out; have := HY.out; omega) Z1.out)
 replace BX := Lib.hid (keep d4.gr (by have := HR.out; have := HX.out; have := HY.out; omega) BX.out)
 replace BR := Lib.hid (keep d4.gr (by have := HR.out; have := HX.out; have := HY.out; omega) BR.out)
 replace KQ := Lib.hid (KQ.out.grown d4.gr HKQ.out)
 replace KF := Lib.hid (KF.out.grown d4.gr HKF.out)
 replace KR := Lib.hid (KR.out.grown d4.gr HKR.out)
 replace C := Lib.hid (d4.cur)
 have KO := Lib.hid (kept_ints oo)
 have HKO := Lib.hid hlt
 have HOL := Lib.hid hol
 obtain ⟨a4, c4, rfl⟩ := slR_len KO.out.at
 clear oo hlt hol d4
 have p_BX_0 := (cell_of_row w8 _ 0 _ _ _ BX.out).trans (show _ = some (Value.slice a0 qs.length c0) from rfl)
 have p_BX_1 := (cell_of_row w8 _ 1 _ _ _ BX.out).trans (show _ = some (Value.slice a1 fs.length c1) from rfl)
 have p_BR_0 := (cell_of_row w8 _ 0 _ _ _ BR.out).trans (show _ = some (Value.int .i64 rid) from rfl)
 have p_BR_1 := (cell_of_row w8 _ 1 _ _ _ BR.out).trans (show _ = some (Value.slice a2 ys.length c2) from rfl)
 refine hK.out _ _ ⟨p_BX_0, p_BX_1, p_BR_0, p_BR_1⟩ (fun hHeld => ?_)
 clear p_BX_0 p_BX_1 p_BR_0 p_BR_1
 clear hK K
 try simp only [Act.put, lA, lB, lC]
 refine wpAnyH_ready (rs := [4]) (by kernel_rfl) (by simp) ?_
 refine (AllReadyH.cons (o := _) (by simp only [hA, hB, hC]; rfl) (fun K hK => ?_) AllReadyH.nil)
 have q_0 := (cell_of_row w8 _ 0 _ _ _ Z0.out).trans (show _ = some (Value.slice none 0 0) from rfl)
 have g_0 := frozen_of_row w8 _ 0 _ _ Z0.out
 have q_1 := (cell_of_row w8 _ 1 _ _ _ Z0.out).trans (show _ = some (Value.slice none 0 0) from rfl)
 have g_1 := frozen_of_row w8 _ 1 _ _ Z0.out
 go_simp
 clear q_0 g_0 q_1 g_1
 replace Z0 : Hid ((w8.setCell ⟨w.heap.size, 0, none⟩ (Value.slice a0 qs.length c0)).heap[w.heap.size]? = some (.cells #[Value.slice a0 qs.length c0, Value.slice none 0 0] 49 (0, 0))) := Lib.hid (by have r := heap_setCell_same w8 (w.heap.size) 0 _ _ (Value.slice a0 qs.length c0) Z0.out; simpa using r)
 replace Z1 := Lib.hid ((set_other (w := w8) (b := w.heap.size) (j := 0) (k := w.heap.size + 1) (u := Value.slice a0 qs.length c0) (by have := HR.out; have := HX.out; have := HY.out; omega)).trans Z1.out)
 replace BX := Lib.hid ((set_other (w := w8) (b := w.heap.size) (j := 0) (k := X) (u := Value.slice a0 qs.length c0) (by have := HR.out; have := HX.out; have := HY.out; omega)).trans BX.out)
 replace BR := Lib.hid ((set_other (w := w8) (b := w.heap.size) (j := 0) (k := Y) (u := Value.slice a0 qs.length c0) (by have := HR.out; have := HX.out; have := HY.out; omega)).trans BR.out)
 replace KQ := Lib.hid (KQ.out.set (g := w.heap.size) (by have := HKQ.out; have := HR.out; have := HX.out; have := HY.out; omega) 0 (Value.slice a0 qs.length c0))
 replace KF := Lib.hid (KF.out.set (g := w.heap.size) (by have := HKF.out; have := HR.out; have := HX.out; have := HY.out; omega) 0 (Value.slice a0 qs.length c0))
 replace KR := Lib.hid (KR.out.set (g := w.heap.size) (by have := HKR.out; have := HR.out; have := HX.out; have := HY.out; omega) 0 (Value.slice a0 qs.length c0))
 replace KO := Lib.hid (KO.out.set (g := w.heap.size) (by have := HKO.out; have := HR.out; have := HX.out; have := HY.out; omega) 0 (Value.slice a0 qs.length c0))
 replace C := Lib.hid (cur_setL C.out (b := w.heap.size) (by have := HR.out; have := HX.out; have := HY.out; omega) (by have := HR.out; have := HX.out; have := HY.out; omega) 0 (Value.slice a0 qs.length c0))
 replace Z0 : Hid (((w8.setCell ⟨w.heap.size, 0, none⟩ (Value.slice a0 qs.length c0)).setCell ⟨w.heap.size, 1, none⟩ (Value.slice a1 fs.length c1)).heap[w.heap.size]? = some (.cells #[Value.slice a0 qs.length c0, Value.slice a1 fs.length c1] 49 (0, 0))) := Lib.hid (by have r := heap_setCell_same (w8.setCell ⟨w.heap.size, 0, none⟩ (Value.slice a0 qs.length c0)) (w.heap.size) 1 _ _ (Value.slice a1 fs.length c1) Z0.out; simpa using r)
 replace Z1 := Lib.hid ((set_other (w := (w8.setCell ⟨w.heap.size, 0, none⟩ (Value.slice a0 qs.length c0))) (b := w.heap.size) (j := 1) (k := w.heap.size + 1) (u := Value.slice a1 fs.length c1) (by have := HR.out; have := HX.out; have := HY.out; omega)).trans Z1.out)
 replace BX := Lib.hid ((set_other (w := (w8.setCell ⟨w.heap.size, 0, none⟩ (Value.slice a0 qs.length c0))) (b := w.heap.size) (j := 1) (k := X) (u := Value.slice a1 fs.length c1) (by have := HR.out; have := HX.out; have := HY.out; omega)).trans BX.out)
 replace BR := Lib.hid ((set_other (w := (w8.setCell ⟨w.heap.size, 0, none⟩ (Value.slice a0 qs.length c0))) (b := w.heap.size) (j := 1) (k := Y) (u := Value.slice a1 fs.length c1) (by have := HR.out; have := HX.out; have := HY.out; omega)).trans BR.out)
 replace KQ := Lib.hid (KQ.out.set (g := w.heap.size) (by have := HKQ.out; have := HR.out; have := HX.out; have := HY.out; omega) 1 (Value.slice a1 fs.length c1))
 replace KF := Lib.hid (KF.out.set (g := w.heap.size) (by have := HKF.out; have := HR.out; have := HX.out; have := HY.out; omega) 1 (Value.slice a1 fs.length c1))
 replace KR := Lib.hid (KR.out.set (g := w.heap.size) (by have := HKR.out; have := HR.out; have := HX.out; have := HY.out; omega) 1 (Value.slice a1 fs.length c1))
 replace KO := Lib.hid (KO.out.set (g := w.heap.size) (by have := HKO.out; have := HR.out; have := HX.out; have := HY.out; omega) 1 (Value.slice a1 fs.length c1))
 replace C := Lib.hid (cur_setL C.out (b := w.heap.size) (by have := HR.out; have := HX.out; have := HY.out; omega) (by have := HR.out; have := HX.out; have := HY.out; omega) 1 (Value.slice a1 fs.length c1))
 generalize ((w8.setCell ⟨w.heap.size, 0, none⟩ (Value.slice a0 qs.length c0)).setCell ⟨w.heap.size, 1, none⟩ (Value.slice a1 fs.length c1)) = v2 at *
 have p_BX_0 := (cell_of_row v2 _ 0 _ _ _ BX.out).trans (show _ = some (Value.slice a0 qs.length c0) from rfl)
 have p_BX_1 := (cell_of_row v2 _ 1 _ _ _ BX.out).trans (show _ = some (Value.slice a1 fs.length c1) from rfl)
 have p_BR_0 := (cell_of_row v2 _ 0 _ _ _ BR.out).trans (show _ = some (Value.int .i64 rid) from rfl)
 have p_BR_1 := (cell_of_row v2 _ 1 _ _ _ BR.out).trans (show _ = some (Value.slice a2 ys.length c2) from rfl)
 refine hK.out _ _ ⟨p_BX_0, p_BX_1, p_BR_0, p_BR_1⟩ (fun hHeld => ?_)
 clear p_BX_0 p_BX_1 p_BR_0 p_BR_1
 clear hK K
 try simp only [Act.put, lA, lB, lC]
 refine wpAnyH_ready (rs := [5]) (by kernel_rfl) (by simp) ?_
 refine (AllReadyH.cons (o := _) (by simp only [hA, hB, hC]; rfl) (fun K hK => ?_) AllReadyH.nil)
 have q_0 := (cell_of_row v2 _ 0 _ _ _ Z1.out).trans (show _ = some (Value.int .i64 0) from rfl)
 have g_0 := frozen_of_row v2 _ 0 _ _ Z1.out
 have q_1 := (cell_of_row v2 _ 1 _ _ _ Z1.out).trans (show _ = some (Value.slice none 0 0) from rfl)
 have g_1 := frozen_of_row v2 _ 1 _ _ Z1.out
 go_simp
 clear q_0 g_0 q_1 g_1
 replace Z0 := Lib.hid ((set_other (w := v2) (b := w.heap.size + 1) (j := 0) (k := w.heap.size) (u := Value.int .i64 rid) (by have := HR.out; have := HX.out; have := HY.out; omega)).trans Z0.out)
 replace Z1 : Hid ((v2.setCell ⟨w.heap.size + 1, 0, none⟩ (Value.int .i64 rid)).heap[w.heap.size + 1]? = some (.cells #[Value.int .i64 rid, Value.slice none 0 0] 51 (0, 0))) := Lib.hid (by have r := heap_setCell_same v2 (w.heap.size + 1) 0 _ _ (Value.int .i64 rid) Z1.out; simpa using r)
 replace BX := Lib.hid ((set_other (w := v2) (b := w.heap.size + 1) (j := 0) (k := X) (u := Value.int .i64 rid) (by have := HR.out; have := HX.out; have := HY.out; omega)).trans BX.out)
 replace BR := Lib.hid ((set_other (w := v2) (b := w.heap.size + 1) (j := 0) (k := Y) (u := Value.int .i64 rid) (by have := HR.out; have := HX.out; have := HY.out; omega)).trans BR.out)
 replace KQ := Lib.hid (KQ.out.set (g := w.heap.size + 1) (by have := HKQ.out; have := HR.out; have := HX.out; have := HY.out; omega) 0 (Value.int .i64 rid))
 replace KF := Lib.hid (KF.out.set (g := w.heap.size + 1) (by have := HKF.out; have := HR.out; have := HX.out; have := HY.out; omega) 0 (Value.int .i64 rid))
 replace KR := Lib.hid (KR.out.set (g := w.heap.size + 1) (by have := HKR.out; have := HR.out; have := HX.out; have := HY.out; omega) 0 (Value.int .i64 rid))
 replace KO := Lib.hid (KO.out.set (g := w.heap.size + 1) (by have := HKO.out; have := HR.out; have := HX.out; have := HY.out; omega) 0 (Value.int .i64 rid))
 replace C := Lib.hid (cur_setL C.out (b := w.heap.size + 1) (by have := HR.out; have := HX.out; have := HY.out; omega) (by have := HR.out; have := HX.out; have := HY.out; omega) 0 (Value.int .i64 rid))
 replace Z0 := Lib.hid ((set_other (w := (v2.setCell ⟨w.heap.size + 1, 0, none⟩ (Value.int .i64 rid))) (b := w.heap.size + 1) (j := 1) (k := w.heap.size) (u := Value.slice a2 ys.length c2) (by have := HR.out; have := HX.out; have := HY.out; omega)).trans Z0.out)
 replace Z1 : Hid (((v2.setCell ⟨w.heap.size + 1, 0, none⟩ (Value.int .i64 rid)).setCell ⟨w.heap.size + 1, 1, none⟩ (Value.slice a2 ys.length c2)).heap[w.heap.size + 1]? = some (.cells #[Value.int .i64 rid, Value.slice a2 ys.length c2] 51 (0, 0))) := Lib.hid (by have r := heap_setCell_same (v2.setCell ⟨w.heap.size + 1, 0, none⟩ (Value.int .i64 rid)) (w.heap.size + 1) 1 _ _ (Value.slice a2 ys.length c2) Z1.out; simpa using r)
 replace BX := Lib.hid ((set_other (w := (v2.setCell ⟨w.heap.size + 1, 0, none⟩ (Value.int .i64 rid))) (b := w.heap.size + 1) (j := 1) (k := X) (u := Value.slice a2 ys.length c2) (by have := HR.out; have := HX.out; have := HY.out; omega)).trans BX.out)
 replace BR := Lib.hid ((set_other (w := (v2.setCell ⟨w.heap.size + 1, 0, none⟩ (Value.int .i64 rid))) (b := w.heap.size + 1) (j := 1) (k := Y) (u := Value.slice a2 ys.length c2) (by have := HR.out; have := HX.out; have := HY.out; omega)).trans BR.out)
 replace KQ := Lib.hid (KQ.out.set (g := w.heap.size + 1) (by have := HKQ.out; have := HR.out; have := HX.out; have := HY.out; omega) 1 (Value.slice a2 ys.length c2))
 replace KF := Lib.hid (KF.out.set (g := w.heap.size + 1) (by have := HKF.out; have := HR.out; have := HX.out; have := HY.out; omega) 1 (Value.slice a2 ys.length c2))
 replace KR := Lib.hid (KR.out.set (g := w.heap.size + 1) (by have := HKR.out; have := HR.out; have := HX.out; have := HY.out; omega) 1 (Value.slice a2 ys.length c2))
 replace KO := Lib.hid (KO.out.set (g := w.heap.size + 1) (by have := HKO.out; have := HR.out; have := HX.out; have := HY.out; omega) 1 (Value.slice a2 ys.length c2))
 replace C := Lib.hid (cur_setL C.out (b := w.heap.size + 1) (by have := HR.out; have := HX.out; have := HY.out; omega) (by have := HR.out; have := HX.out; have := HY.out; omega) 1 (Value.slice a2 ys.length c2))
 generalize ((v2.setCell ⟨w.heap.size + 1, 0, none⟩ (Value.int .i64 rid)).setCell ⟨w.heap.size + 1, 1, none⟩ (Value.slice a2 ys.length c2)) = v3 at *
 have p_BX_0 := (cell_of_row v3 _ 0 _ _ _ BX.out).trans (show _ = some (Value.slice a0 qs.length c0) from rfl)
 have p_BX_1 := (cell_of_row v3 _ 1 _ _ _ BX.out).trans (show _ = some (Value.slice a1 fs.length c1) from rfl)
 have p_BR_0 := (cell_of_row v3 _ 0 _ _ _ BR.out).trans (show _ = some (Value.int .i64 rid) from rfl)
 have p_BR_1 := (cell_of_row v3 _ 1 _ _ _ BR.out).trans (show _ = some (Value.slice a2 ys.length c2) from rfl)
 refine hK.out _ _ ⟨p_BX_0, p_BX_1, p_BR_0, p_BR_1⟩ (fun hHeld => ?_)
 clear p_BX_0 p_BX_1 p_BR_0 p_BR_1
 clear hK K
 try simp only [Act.put, lA, lB, lC]
 refine tR (i := 6) (v := ?_) ?_ ?_; rotate_left
 ·
  intro w hSw; (try dsimp only at hSw); go_simp; try (with_reducible rfl)
 try simp only [Act.put, lA, lB, lC]
 refine wpAnyH_done (by kernel_rfl) ?_ _
 clear hHeld
 have e_Z0_0 := (cell_of_row v3 _ 0 _ _ _ Z0.out).trans (show _ = some (Value.slice a0 qs.length c0) from rfl)
 have e_Z0_1 := (cell_of_row v3 _ 1 _ _ _ Z0.out).trans (show _ = some (Value.slice a1 fs.length c1) from rfl)
 have e_Z1_0 := (cell_of_row v3 _ 0 _ _ _ Z1.out).trans (show _ = some (Value.int .i64 rid) from rfl)
 have e_Z1_1 := (cell_of_row v3 _ 1 _ _ _ Z1.out).trans (show _ = some (Value.slice a2 ys.length c2) from rfl)
 go_wp2
 refine bodyPost_ret (v := .tuple #[.agg #[.slice a0 qs.length c0, .slice a1 fs.length c1], .agg #[.int .i64 rid, .slice a2 ys.length c2], .slice a4 os.length c4]) ?_ rfl ?_
 ·
  simp [results, Tryd.f34, go_sem, e_Z0_0, e_Z0_1, e_Z1_0, e_Z1_1]
 ·
  exact ⟨_, _, _, _, qs, fs, rid, ys, os, rfl, KQ.out.at, KF.out.at, KR.out.at, KO.out.at, HQZ.out, HFZ.out, HYL.out, HOL.out, C.out.old⟩
def GotDrawBestOrder (w : World) (e : Ending) (w' : World) : Prop :=
 ∃ (qv fv lv : Value) (qs : List QD) (fs : List (List SpanD)) (rs : List RowD), e = .returned (.tuple #[.agg #[qv, fv], lv]) ∧ SlR tQuery w' qv qs ∧ SlR tSpanS w' fv fs ∧ SlR tRow w' lv rs ∧ zL tQuery qs ≤ 200 ∧ zL tSpanS fs ≤ 8000 ∧ zL tRow rs ≤ 45 ∧ Below w.heap.size w w'
set_option maxHeartbeats 16000000 in
set_option maxRecDepth 100000 in
theorem drawBestOrder (v : Value) (xs : List Int) (w : World) (hcode : Code w v xs) (hsm : xs.length ≤ 1048576) (hby : ∀ x ∈ xs, 0 ≤ x ∧ x ≤ 255) :
  Calls Tryd.prog 43 #[v] w (GotDrawBestOrder w) := by
 have hb0 : Below w.heap.size w (w.alloc (.cells #[.slice none 0 0, .slice none 0 0] 49)) := (Below.refl _ w).alloc (Nat.le_refl _) _
 have z0 := heap_alloc_new w (.cells #[.slice none 0 0, .slice none 0 0] 49)
 have hb1 := hb0
 have s0 : (w.alloc (.cells #[.slice none 0 0, .slice none 0 0] 49)).heap.size = w.heap.size + 1 := by simp [World.size_alloc]
 have HN := Lib.hid (new_any v xs _ (code_below hcode hb1) hsm hby)
 have HC0 := Lib.hid hcode
 have HB := Lib.hid hb1
 clear hcode hby hb0 hb1
 go_enter Tryd.func43, Tryd.ntmps43
 go_wp2_with fail
 generalize (w.alloc (.cells #[.slice none 0 0, .slice none 0 0] 49)) = W at *
 refine HN.out.mono ?_
 rintro e w1 ⟨rfl, hCW⟩
 have C : Hid (Cur w W.heap.size v xs w1) := Lib.hid ⟨HC0.out, hCW.small, hCW.bytes, HB.out.size, hCW.cells, HB.out.trans (hCW.old.mono HB.out.size)⟩
 have Z0 := Lib.hid (keepB hCW.old (by omega) z0)
 obtain ⟨c, hc⟩ : ∃ c, W.heap.size = c := ⟨_, rfl⟩
 rw [hc] at C s0 ⊢
 have HR : Hid (w.heap.size + 1 ≤ c) := Lib.hid (by omega)
 clear HN hCW z0  HC0 HB hc s0
 go_wp2_with fail
 refine (index_any w c v xs _ C.out).mono ?_
 rintro e w2 ⟨qv, fv, qs, fs, rfl, hq, hf, hqz, hfz, d2⟩
 have hlt := cur_lt C.out
 replace Z0 := Lib.hid (keep d2.gr (by have := HR.out; omega) Z0.out)
 replace C := Lib.hid (d2.cur)
 obtain ⟨a0, c0, rfl⟩ := slR_len hq.at
 obtain ⟨a1, c1, rfl⟩ := slR_len hf.at
 have KQ := Lib.hid hq
 have KF := Lib.hid hf
 have HKQ := Lib.hid hlt
 have HKF := Lib.hid hlt
 have HQZ := Lib.hid hqz
 have HFZ := Lib.hid hfz
 clear hq hf hlt hqz hfz d2
 go_wp2
 have BX := Lib.hid (heap_alloc_new w2 (.cells #[.slice a0 qs.length c0, .slice a1 fs.length c1] 49))
 have HX : Hid (c < w2.heap.size) := Lib.hid (cur_lt C.out)
 replace Z0 := Lib.hid (keepA (.cells #[.slice a0 qs.length c0, .slice a1 fs.length c1] 49) Z0.out)
 replace KQ := Lib.hid (KQ.out.alloc (.cells #[.slice a0 qs.length c0, .slice a1 fs.length c1] 49))
 replace KF := Lib.hid (KF.out.alloc (.cells #[.slice a0 qs.length c0, .slice a1 fs.length c1] 49))
 replace C := Lib.hid (cur_alloc C.out (.cells #[.slice a0 qs.length c0, .slice a1 fs.length c1] 49))
 generalize w2.alloc (.cells #[.slice a0 qs.length c0, .slice a1 fs.length c1] 49) = w3 at *
 generalize w2.heap.size = X at *
 have p_BX_0 := (cell_of_row w3 _ 0 _ _ _ BX.out).trans (show _ = some (Value.slice a0 qs.length c0) from rfl)
 have p_BX_1 := (cell_of_row w3 _ 1 _ _ _ BX.out).trans (show _ = some (Value.slice a1 fs.length c1) from rfl)
 refine wp_region_held_drew (S := fun w' => w'.cell? ⟨X, 0, none⟩ = some (Value.slice a0 qs.length c0) ∧ w'.cell? ⟨X, 1, none⟩ = some (Value.slice a1 fs.length c1)) (by kernel_rfl) ⟨p_BX_0, p_BX_1⟩ (fun hHeld => ?_)
 clear p_BX_0 p_BX_1
 replace Z0 := Lib.hid (show (w3.drew).heap[w.heap.size]? = _ from Z0.out)
 replace BX := Lib.hid (show (w3.drew).heap[X]? = _ from BX.out)
 replace KQ := Lib.hid (KQ.out.drew)
 replace KF := Lib.hid (KF.out.drew)
 replace C := Lib.hid (cur_below C.out (cur_lt C.out) C.out.old.size (below_drew (Below.refl w3.heap.size w3)))
 refine tR (i := 0) (v := ?_) ?_ ?_; rotate_left
 ·
  intro w hSw; (try dsimp only at hSw); go_simp; try (with_reducible rfl)
 try simp only [Act.put, lA, lB, lC]
 refine tR (i := 1) (v := ?_) ?_ ?_; rotate_left
 ·
  intro w hSw; (try dsimp only at hSw); go_simp; try (with_reducible rfl)
 try simp only [Act.put, lA, lB, lC]
 refine wpAnyH_ready (rs := [2]) (by kernel_rfl) (by simp) ?_
 refine (AllReadyH.cons (o := _) (by simp only [hA, hB, hC]; rfl) (fun K hK => ?_) AllReadyH.nil)
 go_simp
 refine (anyRows_any w c v xs _ C.out).mono ?_
 rintro e w8 ⟨lv, rs, rfl, ol, hrl, hra, d4⟩
 have hlt := cur_lt C.out
 replace Z0 := Lib.hid (keep d4.gr (by have := HR.out; have := HX.out; omega) Z0.out)
 replace BX := Lib.hid (keep d4.gr (by have := HR.out; have := HX.out; omega) BX.out)
 replace KQ := Lib.hid (KQ.out.grown d4.gr HKQ.out)
 replace KF := Lib.hid (KF.out.grown d4.gr HKF.out)
 replace C := Lib.hid (d4.cur)
 have KL := Lib.hid (kept_rows ol)
 have HKL := Lib.hid hlt
 have HLZ := Lib.hid (zL_rows4 hra hrl)
 obtain ⟨a3, c3, rfl⟩ := slR_len KL.out.at
 clear ol hlt hrl hra d4
 have p_BX_0 := (cell_of_row w8 _ 0 _ _ _ BX.out).trans (show _ = some (Value.slice a0 qs.length c0) from rfl)
 have p_BX_1 := (cell_of_row w8 _ 1 _ _ _ BX.out).trans (show _ = some (Value.slice a1 fs.length c1) from rfl)
 refine hK.out _ _ ⟨p_BX_0, p_BX_1⟩ (fun hHeld => ?_)
 clear p_BX_0 p_BX_1
 clear hK K
 try simp only [Act.put, lA, lB, lC]
 refine wpAnyH_ready (rs := [3]) (by kernel_rfl) (by simp) ?_
 refine (AllReadyH.cons (o := _) (by simp only [hA, hB, hC]; rfl) (fun K hK => ?_) AllReadyH.nil)
 have q_0 := (cell_of_row w8 _ 0 _ _ _ Z0.out).trans (show _ = some (Value.slice none 0 0) from rfl)
 have g_0 := frozen_of_row w8 _ 0 _ _ Z0.out
 have q_1 := (cell_of_row w8 _ 1 _ _ _ Z0.out).trans (show _ = some (Value.slice none 0 0) from rfl)
 have g_1 := frozen_of_row w8 _ 1 _ _ Z0.out
 go_simp
 clear q_0 g_0 q_1 g_1
 replace Z0 : Hid ((w8.setCell ⟨w.heap.size, 0, none⟩ (Value.slice a0 qs.length c0)).heap[w.heap.size]? = some (.cells #[Value.slice a0 qs.length c0, Value.slice none 0 0] 49 (0, 0))) := Lib.hid (by have r := heap_setCell_same w8 (w.heap.size) 0 _ _ (Value.slice a0 qs.length c0) Z0.out; simpa using r)
 replace BX := Lib.hid ((set_other (w := w8) (b := w.heap.size) (j := 0) (k := X) (u := Value.slice a0 qs.length c0) (by have := HR.out; have := HX.out; omega)).trans BX.out)
 replace KQ := Lib.hid (KQ.out.set (g := w.heap.size) (by have := HKQ.out; have := HR.out; have := HX.out; omega) 0 (Value.slice a0 qs.length c0))
 replace KF := Lib.hid (KF.out.set (g := w.heap.size) (by have := HKF.out; have := HR.out; have := HX.out; omega) 0 (Value.slice a0 qs.length c0))
 replace KL := Lib.hid (KL.out.set (g := w.heap.size) (by have := HKL.out; have := HR.out; have := HX.out; omega) 0 (Value.slice a0 qs.length c0))
 replace C := Lib.hid (cur_setL C.out (b := w.heap.size) (by have := HR.out; have := HX.out; omega) (by have := HR.out; have := HX.out; omega) 0 (Value.slice a0 qs.length c0))
 replace Z0 : Hid (((w8.setCell ⟨w.heap.size, 0, none⟩ (Value.slice a0 qs.length c0)).setCell ⟨w.heap.size, 1, none⟩ (Value.slice a1 fs.length c1)).heap[w.heap.size]? = some (.cells #[Value.slice a0 qs.length c0, Value.slice a1 fs.length c1] 49 (0, 0))) := Lib.hid (by have r := heap_setCell_same (w8.setCell ⟨w.heap.size, 0, none⟩ (Value.slice a0 qs.length c0)) (w.heap.size) 1 _ _ (Value.slice a1 fs.length c1) Z0.out; simpa using r)
 replace BX := Lib.hid ((set_other (w := (w8.setCell ⟨w.heap.size, 0, none⟩ (Value.slice a0 qs.length c0))) (b := w.heap.size) (j := 1) (k := X) (u := Value.slice a1 fs.length c1) (by have := HR.out; have := HX.out; omega)).trans BX.out)
 replace KQ := Lib.hid (KQ.out.set (g := w.heap.size) (by have := HKQ.out; have := HR.out; have := HX.out; omega) 1 (Value.slice a1 fs.length c1))
 replace KF := Lib.hid (KF.out.set (g := w.heap.size) (by have := HKF.out; have := HR.out; have := HX.out; omega) 1 (Value.slice a1 fs.length c1))
 replace KL := Lib.hid (KL.out.set (g := w.heap.size) (by have := HKL.out; have := HR.out; have := HX.out; omega) 1 (Value.slice a1 fs.length c1))
 replace C := Lib.hid (cur_setL C.out (b := w.heap.size) (by have := HR.out; have := HX.out; omega) (by have := HR.out; have := HX.out; omega) 1 (Value.slice a1 fs.length c1))
 generalize ((w8.setCell ⟨w.heap.size, 0, none⟩ (Value.slice a0 qs.length c0)).setCell ⟨w.heap.size, 1, none⟩ (Value.slice a1 fs.length c1)) = v2 at *
 have p_BX_0 := (cell_of_row v2 _ 0 _ _ _ BX.out).trans (show _ = some (Value.slice a0 qs.length c0) from rfl)
 have p_BX_1 := (cell_of_row v2 _ 1 _ _ _ BX.out).trans (show _ = some (Value.slice a1 fs.length c1) from rfl)
 refine hK.out _ _ ⟨p_BX_0, p_BX_1⟩ (fun hHeld => ?_)
 clear p_BX_0 p_BX_1
 clear hK K
 try simp only [Act.put, lA, lB, lC]
 refine tR (i := 4) (v := ?_) ?_ ?_; rotate_left
 ·
  intro w hSw; (try dsimp only at hSw); go_simp; try (with_reducible rfl)
 try simp only [Act.put, lA, lB, lC]
 refine wpAnyH_done (by kernel_rfl) ?_ _
 clear hHeld
 have e_Z0_0 := (cell_of_row v2 _ 0 _ _ _ Z0.out).trans (show _ = some (Value.slice a0 qs.length c0) from rfl)
 have e_Z0_1 := (cell_of_row v2 _ 1 _ _ _ Z0.out).trans (show _ = some (Value.slice a1 fs.length c1) from rfl)
 go_wp2
 refine bodyPost_ret (v := .tuple #[.agg #[.slice a0 qs.length c0, .slice a1 fs.length c1], .slice a3 rs.length c3]) ?_ rfl ?_
 ·
  simp [results, Tryd.f43, go_sem, e_Z0_0, e_Z0_1]
 ·
  exact ⟨_, _, _, qs, fs, rs, rfl, KQ.out.at, KF.out.at, KL.out.at, HQZ.out, HFZ.out, HLZ.out, C.out.old⟩
def GotDrawWorkOf (w : World) (e : Ending) (w' : World) : Prop :=
 ∃ (qv fv lv ov : Value) (qs : List QD) (fs : List (List SpanD)) (rs : List RowD) (os : List Int), e = .returned (.tuple #[.agg #[qv, fv], lv, ov]) ∧ SlR tQuery w' qv qs ∧ SlR tSpanS w' fv fs ∧ SlR tRow w' lv rs ∧ SlR tInt w' ov os ∧ zL tQuery qs ≤ 200 ∧ zL tSpanS fs ≤ 8000 ∧ zL tRow rs ≤ 45 ∧ os.length = 3 ∧ Below w.heap.size w w'
set_option maxHeartbeats 16000000 in
set_option maxRecDepth 100000 in
theorem drawWorkOf (v : Value) (xs : List Int) (w : World) (hcode : Code w v xs) (hsm : xs.length ≤ 1048576) (hby : ∀ x ∈ xs, 0 ≤ x ∧ x ≤ 255) :
  Calls Tryd.prog 46 #[v] w (GotDrawWorkOf w) := by
 have hb0 : Below w.heap.size w (w.alloc (.cells #[.slice none 0 0, .slice none 0 0] 49)) := (Below.refl _ w).alloc (Nat.le_refl _) _
 have z0 := heap_alloc_new w (.cells #[.slice none 0 0, .slice none 0 0] 49)
 have hb1 := hb0
 have s0 : (w.alloc (.cells #[.slice none 0 0, .slice none 0 0] 49)).heap.size = w.heap.size + 1 := by simp [World.size_alloc]
 have HN := Lib.hid (new_any v xs _ (code_below hcode hb1) hsm hby)
 have HC0 := Lib.hid hcode
 have HB := Lib.hid hb1
 clear hcode hby hb0 hb1
 go_enter Tryd.func46, Tryd.ntmps46
 go_wp2_with fail
 generalize (w.alloc (.cells #[.slice none 0 0, .slice none 0 0] 49)) = W at *
 refine HN.out.mono ?_
 rintro e w1 ⟨rfl, hCW⟩
 have C : Hid (Cur w W.heap.size v xs w1) := Lib.hid ⟨HC0.out, hCW.small, hCW.bytes, HB.out.size, hCW.cells, HB.out.trans (hCW.old.mono HB.out.size)⟩
 have Z0 := Lib.hid (keepB hCW.old (by omega) z0)
 obtain ⟨c, hc⟩ : ∃ c, W.heap.size = c := ⟨_, rfl⟩
 rw [hc] at C s0 ⊢
 have HR : Hid (w.heap.size + 1 ≤ c) := Lib.hid (by omega)
 clear HN hCW z0  HC0 HB hc s0
 go_wp2_with fail
 refine (index_any w c v xs _ C.out).mono ?_
 rintro e w2 ⟨qv, fv, qs, fs, rfl, hq, hf, hqz, hfz, d2⟩
 have hlt := cur_lt C.out
 replace Z0 := Lib.hid (keep d2.gr (by have := HR.out; omega) Z0.out)
 replace C := Lib.hid (d2.cur)
 obtain ⟨a0, c0, rfl⟩ := slR_len hq.at
 obtain ⟨a1, c1, rfl⟩ := slR_len hf.at
 have KQ := Lib.hid hq
 have KF := Lib.hid hf
 have HKQ := Lib.hid hlt
 have HKF := Lib.hid hlt
 have HQZ := Lib.hid hqz
 have HFZ := Lib.hid hfz
 clear hq hf hlt hqz hfz d2
 go_wp2_with fail
 have BX := Lib.hid (heap_alloc_new w2 (.cells #[.slice a0 qs.length c0, .slice a1 fs.length c1] 49))
 have HX : Hid (c < w2.heap.size) := Lib.hid (cur_lt C.out)
 replace Z0 := Lib.hid (keepA (.cells #[.slice a0 qs.length c0, .slice a1 fs.length c1] 49) Z0.out)
 replace KQ := Lib.hid (KQ.out.alloc (.cells #[.slice a0 qs.length c0, .slice a1 fs.length c1] 49))
 replace KF := Lib.hid (KF.out.alloc (.cells #[.slice a0 qs.length c0, .slice a1 fs.length c1] 49))
 replace C := Lib.hid (cur_alloc C.out (.cells #[.slice a0 qs.length c0, .slice a1 fs.length c1] 49))
 generalize w2.alloc (.cells #[.slice a0 qs.length c0, .slice a1 fs.length c1] 49) = w3 at *
 generalize w2.heap.size = X at *
 refine (anyRows_any w c v xs _ C.out).mono ?_
 rintro e w4 ⟨lv, rs, rfl, ol, hrl, hra, d4⟩
 have hlt := cur_lt C.out
 replace Z0 := Lib.hid (keep d4.gr (by have := HR.out; have := HX.out; omega) Z0.out)
 replace BX := Lib.hid (keep d4.gr (by have := HR.out; have := HX.out; omega) BX.out)
 replace KQ := Lib.hid (KQ.out.grown d4.gr HKQ.out)
 replace KF := Lib.hid (KF.out.grown d4.gr HKF.out)
 replace C := Lib.hid (d4.cur)
 have KL := Lib.hid (kept_rows ol)
 have HKL := Lib.hid hlt
 have HLZ := Lib.hid (zL_rows4 hra hrl)
 obtain ⟨a3, c3, rfl⟩ := slR_len KL.out.at
 clear ol hlt hrl hra d4
 go_wp2
 have p_BX_0 := (cell_of_row w4 _ 0 _ _ _ BX.out).trans (show _ = some (Value.slice a0 qs.length c0) from rfl)
 have p_BX_1 := (cell_of_row w4 _ 1 _ _ _ BX.out).trans (show _ = some (Value.slice a1 fs.length c1) from rfl)
 refine wp_region_held_drew (S := fun w' => w'.cell? ⟨X, 0, none⟩ = some (Value.slice a0 qs.length c0) ∧ w'.cell? ⟨X, 1, none⟩ = some (Value.slice a1 fs.length c1)) (by kernel_rfl) ⟨p_BX_0, p_BX_1⟩ (fun hHeld => ?_)
 clear p_BX_0 p_BX_1
 replace Z0 := Lib.hid (show (w4.drew).heap[w.heap.size]? = _ from Z0.out)
 replace BX := Lib.hid (show (w4.drew).heap[X]? = _ from BX.out)
 replace KQ := Lib.hid (KQ.out.drew)
 replace KF := Lib.hid (KF.out.drew)
 replace KL := Lib.hid (KL.out.drew)
 replace C := Lib.hid (cur_below C.out (cur_lt C.out) C.out.old.size (below_drew (Below.refl w4.heap.size w4)))
 refine tR (i := 0) (v := ?_) ?_ ?_; rotate_left
 ·
  intro w hSw; (try dsimp only at hSw); go_simp; try (with_reducible rfl)
 try simp only [Act.put, lA, lB, lC]
 refine tR (i := 1) (v := ?_) ?_ ?_; rotate_left
 ·
  intro w hSw; (try dsimp only at hSw); go_simp; try (with_reducible rfl)
 try simp only [Act.put, lA, lB, lC]
 refine tR (i := 2) (v := ?_) ?_ ?_; rotate_left
 ·
  intro w hSw; (try dsimp only at hSw); go_simp; try (with_reducible rfl)
 try simp only [Act.put, lA, lB, lC]
 refine wpAnyH_ready (rs := [3]) (by kernel_rfl) (by simp) ?_
 refine (AllReadyH.cons (o := _) (by simp only [hA, hB, hC]; rfl) (fun K hK => ?_) AllReadyH.nil)
 go_simp
 refine (order_any w c v xs _ C.out).mono ?_
 rintro e w8 ⟨ov, os, hol, rfl, oo, d4⟩
 have hlt := cur_lt C.out
 replace Z0 := Lib.hid (keep d4.gr (by have := HR.out; have := HX.out; omega) Z0.out)
 replace BX := Lib.hid (keep d4.gr (by have := HR.out; have := HX.out; omega) BX.out)
 replace KQ := Lib.hid (KQ.out.grown d4.gr HKQ.out)
 replace KF := Lib.hid (KF.out.grown d4.gr HKF.out)
 replace KL := Lib.hid (KL.out.grown d4.gr HKL.out)
 replace C := Lib.hid (d4.cur)
 have KO := Lib.hid (kept_ints oo)
 have HKO := Lib.hid hlt
 have HOL := Lib.hid hol
 obtain ⟨a4, c4, rfl⟩ := slR_len KO.out.at
 clear oo hlt hol d4
 have p_BX_0 := (cell_of_row w8 _ 0 _ _ _ BX.out).trans (show _ = some (Value.slice a0 qs.length c0) from rfl)
 have p_BX_1 := (cell_of_row w8 _ 1 _ _ _ BX.out).trans (show _ = some (Value.slice a1 fs.length c1) from rfl)
 refine hK.out _ _ ⟨p_BX_0, p_BX_1⟩ (fun hHeld => ?_)
 clear p_BX_0 p_BX_1
 clear hK K
 try simp only [Act.put, lA, lB, lC]
 refine wpAnyH_ready (rs := [4]) (by kernel_rfl) (by simp) ?_
 refine (AllReadyH.cons (o := _) (by simp only [hA, hB, hC]; rfl) (fun K hK => ?_) AllReadyH.nil)
 have q_0 := (cell_of_row w8 _ 0 _ _ _ Z0.out).trans (show _ = some (Value.slice none 0 0) from rfl)
 have g_0 := frozen_of_row w8 _ 0 _ _ Z0.out
 have q_1 := (cell_of_row w8 _ 1 _ _ _ Z0.out).trans (show _ = some (Value.slice none 0 0) from rfl)
 have g_1 := frozen_of_row w8 _ 1 _ _ Z0.out
 go_simp
 clear q_0 g_0 q_1 g_1
 replace Z0 : Hid ((w8.setCell ⟨w.heap.size, 0, none⟩ (Value.slice a0 qs.length c0)).heap[w.heap.size]? = some (.cells #[Value.slice a0 qs.length c0, Value.slice none 0 0] 49 (0, 0))) := Lib.hid (by have r := heap_setCell_same w8 (w.heap.size) 0 _ _ (Value.slice a0 qs.length c0) Z0.out; simpa using r)
 replace BX := Lib.hid ((set_other (w := w8) (b := w.heap.size) (j := 0) (k := X) (u := Value.slice a0 qs.length c0) (by have := HR.out; have := HX.out; omega)).trans BX.out)
 replace KQ := Lib.hid (KQ.out.set (g := w.heap.size) (by have := HKQ.out; have := HR.out; have := HX.out; omega) 0 (Value.slice a0 qs.length c0))
 replace KF := Lib.hid (KF.out.set (g := w.heap.size) (by have := HKF.out; have := HR.out; have := HX.out; omega) 0 (Value.slice a0 qs.length c0))
 replace KL := Lib.hid (KL.out.set (g := w.heap.size) (by have := HKL.out; have := HR.out; have := HX.out; omega) 0 (Value.slice a0 qs.length c0))
 replace KO := Lib.hid (KO.out.set (g := w.heap.size) (by have := HKO.out; have := HR.out; have := HX.out; omega) 0 (Value.slice a0 qs.length c0))
 replace C := Lib.hid (cur_setL C.out (b := w.heap.size) (by have := HR.out; have := HX.out; omega) (by have := HR.out; have := HX.out; omega) 0 (Value.slice a0 qs.length c0))
 replace Z0 : Hid (((w8.setCell ⟨w.heap.size, 0, none⟩ (Value.slice a0 qs.length c0)).setCell ⟨w.heap.size, 1, none⟩ (Value.slice a1 fs.length c1)).heap[w.heap.size]? = some (.cells #[Value.slice a0 qs.length c0, Value.slice a1 fs.length c1] 49 (0, 0))) := Lib.hid (by have r := heap_setCell_same (w8.setCell ⟨w.heap.size, 0, none⟩ (Value.slice a0 qs.length c0)) (w.heap.size) 1 _ _ (Value.slice a1 fs.length c1) Z0.out; simpa using r)
 replace BX := Lib.hid ((set_other (w := (w8.setCell ⟨w.heap.size, 0, none⟩ (Value.slice a0 qs.length c0))) (b := w.heap.size) (j := 1) (k := X) (u := Value.slice a1 fs.length c1) (by have := HR.out; have := HX.out; omega)).trans BX.out)
 replace KQ := Lib.hid (KQ.out.set (g := w.heap.size) (by have := HKQ.out; have := HR.out; have := HX.out; omega) 1 (Value.slice a1 fs.length c1))
 replace KF := Lib.hid (KF.out.set (g := w.heap.size) (by have := HKF.out; have := HR.out; have := HX.out; omega) 1 (Value.slice a1 fs.length c1))
 replace KL := Lib.hid (KL.out.set (g := w.heap.size) (by have := HKL.out; have := HR.out; have := HX.out; omega) 1 (Value.slice a1 fs.length c1))
 replace KO := Lib.hid (KO.out.set (g := w.heap.size) (by have := HKO.out; have := HR.out; have := HX.out; omega) 1 (Value.slice a1 fs.length c1))
 replace C := Lib.hid (cur_setL C.out (b := w.heap.size) (by have := HR.out; have := HX.out; omega) (by have := HR.out; have := HX.out; omega) 1 (Value.slice a1 fs.length c1))
 generalize ((w8.setCell ⟨w.heap.size, 0, none⟩ (Value.slice a0 qs.length c0)).setCell ⟨w.heap.size, 1, none⟩ (Value.slice a1 fs.length c1)) = v2 at *
 have p_BX_0 := (cell_of_row v2 _ 0 _ _ _ BX.out).trans (show _ = some (Value.slice a0 qs.length c0) from rfl)
 have p_BX_1 := (cell_of_row v2 _ 1 _ _ _ BX.out).trans (show _ = some (Value.slice a1 fs.length c1) from rfl)
 refine hK.out _ _ ⟨p_BX_0, p_BX_1⟩ (fun hHeld => ?_)
 clear p_BX_0 p_BX_1
 clear hK K
 try simp only [Act.put, lA, lB, lC]
 refine tR (i := 5) (v := ?_) ?_ ?_; rotate_left
 ·
  intro w hSw; (try dsimp only at hSw); go_simp; try (with_reducible rfl)
 try simp only [Act.put, lA, lB, lC]
 refine tR (i := 6) (v := ?_) ?_ ?_; rotate_left
 ·
  intro w hSw; (try dsimp only at hSw); go_simp; try (with_reducible rfl)
 try simp only [Act.put, lA, lB, lC]
 refine wpAnyH_done (by kernel_rfl) ?_ _
 clear hHeld
 have e_Z0_0 := (cell_of_row v2 _ 0 _ _ _ Z0.out).trans (show _ = some (Value.slice a0 qs.length c0) from rfl)
 have e_Z0_1 := (cell_of_row v2 _ 1 _ _ _ Z0.out).trans (show _ = some (Value.slice a1 fs.length c1) from rfl)
 go_wp2
 refine bodyPost_ret (v := .tuple #[.agg #[.slice a0 qs.length c0, .slice a1 fs.length c1], .slice a3 rs.length c3, .slice a4 os.length c4]) ?_ rfl ?_
 ·
  simp [results, Tryd.f46, go_sem, e_Z0_0, e_Z0_1]
 ·
  exact ⟨_, _, _, _, qs, fs, rs, os, rfl, KQ.out.at, KF.out.at, KL.out.at, KO.out.at, HQZ.out, HFZ.out, HLZ.out, HOL.out, C.out.old⟩
end Go.Proofs.YtededfficggkaaaDoor
