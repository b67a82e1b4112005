/-
 Texts of the proof, merged: VerP9, VerP10, UpdOwn, UpdOwn2, UpdSpec5.
-/
import Derived.Test.YthiiaiholcfhhaaUC2
import Derived.Test.YthiiaiholcfhhaaUC4
import Derived.Test.YthiiaiholcfhhaaUC5
namespace Go.Proofs.Ythiiaiholcfhhaa
open Go.RowKit
set_option linter.unusedVariables false
set_option linter.unusedSimpArgs false
/-- The row of a segment's block. -/
def segCells (v : Value) : Obj := .cells #[v] 131 (0, 0)
def tSegP : Ty (List VerD) where
 n := 1
 d := []
 R := fun w cs xs => ∃ b v, cs = [ptrV b] ∧ w.heap[b]? = some (segCells v) ∧ SlR tVersion w v xs
 O := fun w F cs xs => ∃ (b : Nat) (v : Value) (F1 : Nat → Prop), cs = [ptrV b] ∧ F b ∧ w.heap[b]? = some (segCells v) ∧ SlO 88 tVersion w F1 v xs ∧ (∀ k, F1 k → F k) ∧ ¬ F1 b
 sz := fun _ => 0
 nd := fun _ => 0
 nv := fun _ => 0
 md := fun x _ => x
 mv := fun x _ => x
 ok := fun _ => True
 s := 0
theorem tSegP_law : tSegP.Law where
 pos := Nat.one_pos
 len := fun {w cs x} h => by obtain ⟨b, v, rfl, _⟩ := h; rfl
 below := fun {W w cs x} h hb => by
  obtain ⟨b, v, e, h1, h2⟩ := h
  exact ⟨b, v, e, (hb.block b (Array.getElem?_eq_some_iff.1 h1).1).trans h1, slR_below tVersion_law h2 hb⟩
 reads := fun {w F cs x} h => by
  obtain ⟨b, v, F1, e, _, h1, h2, _⟩ := h
  exact ⟨b, v, e, h1, slO_reads tVersion_law h2⟩
 turn := fun {w w' F G cs x} h k hd => by
  obtain ⟨b, v, F1, e, h0, h1, h2, h3, h4⟩ := h
  exact ⟨b, v, F1, e, h0, (k.block b (Array.getElem?_eq_some_iff.1 h1).1 (hd b h0)).trans h1, slO_turn tVersion_law h2 k (fun b g => hd b (h3 b g)), h3, h4⟩
 mono := fun {w F F' cs x} h hf => by
  obtain ⟨b, v, F1, e, h0, h1, h2, h3, h4⟩ := h
  exact ⟨b, v, F1, e, hf b h0, h1, h2, fun k g => hf k (h3 k g), h4⟩
 lt := fun {w F cs x} h => by
  obtain ⟨b, v, F1, e, h0, h1, h2, h3, h4⟩ := h
  exact ⟨b, v, _, e, ⟨h0, (Array.getElem?_eq_some_iff.1 h1).1⟩, h1, slO_lt tVersion_law h2, fun k g => ⟨h3 k g.1, g.2⟩, fun g => h4 g.1⟩
 nd_le := fun x => Nat.zero_le _
 nv_le := fun x => Nat.zero_le _
/-- What add leaves. -/
def Added (w : World) (b D : Nat) (F : Nat → Prop) (xs : List VerD) (e : Ending) (w' : World) : Prop :=
 ∃ v', e = .returned (.tuple #[]) ∧ w'.heap[b]? = some (segCells v') ∧ SlO 88 tVersion w' F v' xs ∧ Turn (fun k => k = b ∨ (F k ∧ k < D)) w w'
set_option maxHeartbeats 8000000 in
set_option maxRecDepth 100000 in
theorem add_any (b D : Nat) (F : Nat → Prop) (v0 : Value) (ys : List VerD) (id born died : Int) (xa : Option Addr) (xc : Nat) (xs : List Int) (w : World) (hb : w.heap[b]? = some (segCells v0)) (h0 : SlO 88 tVersion w (fun k => F k ∧ k < D) v0 ys)
  (hD : D ≤ w.heap.size) (hbD : b < D) (hFb : ¬ F b) (hf : ∀ k, D ≤ k → F k) (hx : SlO 3 tInt w (fun k => D ≤ k) (.slice xa xs.length xc) xs) (hn : ys.length ≤ 1048576) :
  Calls Try.prog 68 #[ptrV b, .agg #[.int .i64 id, .slice xa xs.length xc, .int .i64 born, .int .i64 died]] w (Added w b D F (ys ++ [(id, xs, born, died)])) := by
 obtain ⟨va, vc, rfl⟩ := slO_len h0
 have hal : Below w.heap.size w (w.alloc (.cells #[.int .i64 id, .slice xa xs.length xc, .int .i64 born, .int .i64 died] 88)) := (Below.refl _ _).alloc (Nat.le_refl _) _
 have d := Lib.hid hal
 have BV : Hid ((w.alloc (.cells #[.int .i64 id, .slice xa xs.length xc, .int .i64 born, .int .i64 died] 88)).heap[w.heap.size]? = some (.cells #[.int .i64 id, .slice xa xs.length xc, .int .i64 born, .int .i64 died] 88 (0, 0))) := Lib.hid (heap_alloc_new w _)
 have BS : Hid ((w.alloc (.cells #[.int .i64 id, .slice xa xs.length xc, .int .i64 born, .int .i64 died] 88)).heap[b]? = some (.cells #[.slice va ys.length vc] 131 (0, 0))) := Lib.hid ((hal.block b (by omega)).trans hb)
 have PP := Lib.hid (slO_fresh tVersion_law h0 hal)
 have QP := Lib.hid (fun k (h : F k ∧ k < D) => h)
 have PX := Lib.hid (slO_lt tInt_law (slO_fresh tInt_law hx hal))
 have QX := Lib.hid (fun k (h : D ≤ k ∧ k < (w.alloc (.cells #[.int .i64 id, .slice xa xs.length xc, .int .i64 born, .int .i64 died] 88)).heap.size) => h)
 have Z0 : Hid (w.heap.size < (w.alloc (.cells #[.int .i64 id, .slice xa xs.length xc, .int .i64 born, .int .i64 died] 88)).heap.size) := Lib.hid (by simp [World.size_alloc])
 have Z1 := Lib.hid hD
 have Z2 := Lib.hid hbD
 have HFB := Lib.hid hFb
 have HF := Lib.hid hf
 have HN := Lib.hid hn
 clear hb h0 hD hbD hFb hf hx hn hal
 unfold ptrV
 go_enter Try.func68, Try.ntmps68
 go_wp2
 generalize w.alloc (.cells #[.int .i64 id, .slice xa xs.length xc, .int .i64 born, .int .i64 died] 88) = W at *
 have p_BV_0 := (cell_of_row W _ 0 _ _ _ BV.out).trans (show _ = some (Value.int .i64 id) from rfl)
 have p_BV_1 := (cell_of_row W _ 1 _ _ _ BV.out).trans (show _ = some (Value.slice xa xs.length xc) from rfl)
 have p_BV_2 := (cell_of_row W _ 2 _ _ _ BV.out).trans (show _ = some (Value.int .i64 born) from rfl)
 have p_BV_3 := (cell_of_row W _ 3 _ _ _ BV.out).trans (show _ = some (Value.int .i64 died) from rfl)
 refine wp_region_held_drew (S := fun w' => w'.cell? ⟨w.heap.size, 0, none⟩ = some (Value.int .i64 id) ∧ w'.cell? ⟨w.heap.size, 1, none⟩ = some (Value.slice xa xs.length xc) ∧ w'.cell? ⟨w.heap.size, 2, none⟩ = some (Value.int .i64 born) ∧ w'.cell? ⟨w.heap.size, 3, none⟩ = some (Value.int .i64 died)) (by kernel_rfl) ⟨p_BV_0, p_BV_1, p_BV_2, p_BV_3⟩ (fun hHeld => ?_)
 clear p_BV_0 p_BV_1 p_BV_2 p_BV_3
 have cdr : Below W.heap.size W W.drew := below_drew (Below.refl _ _)
 replace BV := Lib.hid ((cdr.block w.heap.size (Array.getElem?_eq_some_iff.1 BV.out).1).trans BV.out)
 replace BS := Lib.hid ((cdr.block b (Array.getElem?_eq_some_iff.1 BS.out).1).trans BS.out)
 replace PP := Lib.hid (slO_fresh tVersion_law PP.out cdr)
 replace PX := Lib.hid (slO_fresh tInt_law PX.out cdr)
 replace d := Lib.hid (d.out.trans (cdr.mono d.out.size))
 clear cdr
 have Z_dr := Lib.hid (show W.heap.size ≤ W.drew.heap.size from Nat.le_refl _)
 generalize W.drew = Wd at *
 refine tR (i := 0) (v := ?_) ?_ ?_; rotate_left
 ·
  intro w hSw; (try dsimp only at hSw); go_simp; try (with_reducible rfl)
 try simp only [Act.put, lA, lB, lC]
 refine tR (i := 1) (v := ?_) ?_ ?_; rotate_left
 ·
  intro w hSw; (try dsimp only at hSw); go_simp; try (with_reducible rfl)
 try simp only [Act.put, lA, lB, lC]
 refine tR (i := 2) (v := ?_) ?_ ?_; rotate_left
 ·
  intro w hSw; (try dsimp only at hSw); go_simp; try (with_reducible rfl)
 try simp only [Act.put, lA, lB, lC]
 refine tR (i := 3) (v := ?_) ?_ ?_; rotate_left
 ·
  intro w hSw; (try dsimp only at hSw); go_simp; try (with_reducible rfl)
 try simp only [Act.put, lA, lB, lC]
 refine tR (i := 5) (v := ?_) ?_ ?_; rotate_left
 ·
  intro w hSw; (try dsimp only at hSw); go_simp; try (with_reducible rfl)
 try simp only [Act.put, lA, lB, lC]
 refine wpAnyH_ready (rs := [4, 6]) (by kernel_rfl) (by simp) ?_
 refine (AllReadyH.cons (o := _) (by simp only [hA, hB, hC]; rfl) (fun K hK => ?_) (AllReadyH.cons (o := _) (by simp only [hA, hB, hC]; rfl) (fun K hK => ?_) AllReadyH.nil))
 ·
  have p_BS_0 := (cell_of_row Wd _ 0 _ _ _ BS.out).trans (show _ = some (Value.slice va ys.length vc) from rfl)
  go_simp
  clear p_BS_0
  have p_BV_0 := (cell_of_row Wd _ 0 _ _ _ BV.out).trans (show _ = some (Value.int .i64 id) from rfl)
  have p_BV_1 := (cell_of_row Wd _ 1 _ _ _ BV.out).trans (show _ = some (Value.slice xa xs.length xc) from rfl)
  have p_BV_2 := (cell_of_row Wd _ 2 _ _ _ BV.out).trans (show _ = some (Value.int .i64 born) from rfl)
  have p_BV_3 := (cell_of_row Wd _ 3 _ _ _ BV.out).trans (show _ = some (Value.int .i64 died) from rfl)
  refine hK.out _ _ ⟨p_BV_0, p_BV_1, p_BV_2, p_BV_3⟩ (fun hHeld => ?_)
  clear p_BV_0 p_BV_1 p_BV_2 p_BV_3
  clear hK K
  try simp only [Act.put, lA, lB, lC]
  refine wpAnyH_ready (rs := [6]) (by kernel_rfl) (by simp) ?_
  refine (AllReadyH.cons (o := _) (by simp only [hA, hB, hC]; rfl) (fun K hK => ?_) AllReadyH.nil)
  go_simp
  have hal : Below Wd.heap.size Wd (Wd.alloc (.cells #[.int .i64 id, .slice xa xs.length xc, .int .i64 born, .int .i64 died] 88)) := (Below.refl _ _).alloc (Nat.le_refl _) _
  have KBV := BV
  have KBS := BS
  have KPP := PP
  have KPX := PX
  have Kd := d
  replace BV := Lib.hid ((hal.block w.heap.size (Array.getElem?_eq_some_iff.1 BV.out).1).trans BV.out)
  replace BS := Lib.hid ((hal.block b (Array.getElem?_eq_some_iff.1 BS.out).1).trans BS.out)
  replace PP := Lib.hid (slO_fresh tVersion_law PP.out hal)
  replace PX := Lib.hid (slO_fresh tInt_law PX.out hal)
  replace d := Lib.hid (d.out.trans (hal.mono d.out.size))
  clear hal
  have p_BV_0 := (cell_of_row (Wd.alloc (.cells #[.int .i64 id, .slice xa xs.length xc, .int .i64 born, .int .i64 died] 88)) _ 0 _ _ _ BV.out).trans (show _ = some (Value.int .i64 id) from rfl)
  have p_BV_1 := (cell_of_row (Wd.alloc (.cells #[.int .i64 id, .slice xa xs.length xc, .int .i64 born, .int .i64 died] 88)) _ 1 _ _ _ BV.out).trans (show _ = some (Value.slice xa xs.length xc) from rfl)
  have p_BV_2 := (cell_of_row (Wd.alloc (.cells #[.int .i64 id, .slice xa xs.length xc, .int .i64 born, .int .i64 died] 88)) _ 2 _ _ _ BV.out).trans (show _ = some (Value.int .i64 born) from rfl)
  have p_BV_3 := (cell_of_row (Wd.alloc (.cells #[.int .i64 id, .slice xa xs.length xc, .int .i64 born, .int .i64 died] 88)) _ 3 _ _ _ BV.out).trans (show _ = some (Value.int .i64 died) from rfl)
  refine hK.out _ _ ⟨p_BV_0, p_BV_1, p_BV_2, p_BV_3⟩ (fun hHeld => ?_)
  clear p_BV_0 p_BV_1 p_BV_2 p_BV_3
  clear hK K
  try simp only [Act.put, lA, lB, lC]
  refine wpAnyH_ready (rs := [7]) (by kernel_rfl) (by simp) ?_
  refine (AllReadyH.cons (o := _) (by simp only [hA, hB, hC]; rfl) (fun K hK => ?_) AllReadyH.nil)
  have y0 := Z0.out
  have y1 := Z1.out
  have y2 := Z2.out
  have y3 := Z_dr.out
  have hsX : W.heap.size ≤ Wd.heap.size := Z_dr.out
  have hnew : tVersion.O Wd (fun k => D ≤ k) [.int .i64 id, .slice xa xs.length xc, .int .i64 born, .int .i64 died] (id, xs, born, died) := tVersion_mkO KPX.out (fun k h => by have r := QX.out k h; exact r.1)
  refine step_append_T tVersion_law info_T_Version Try.underlying89 rfl rfl (.tmp 8) (.tmp 10) rfl F D _ ys rfl KPP.out (by omega) HF.out HN.out [.int .i64 id, .slice xa xs.length xc, .int .i64 born, .int .i64 died] (id, xs, born, died) hnew (by simp [Value.oneCell']) 1 _ rfl rfl ?_
  intro v' w6 o6 t6
  obtain ⟨ga, gc, hv⟩ := slO_len o6
  have hvl : (ys ++ [((id, xs, born, died) : VerD)]).length = ys.length + 1 := by simp
  rw [hvl] at hv
  subst hv
  have yd := Kd.out.size
  replace BS := Lib.hid ((t6.block b (by omega) (fun h => HFB.out h.1)).trans KBS.out)
  replace BV := Lib.hid ((t6.block w.heap.size (by omega) (fun h => by have r := h.2; omega)).trans KBV.out)
  have TT : Hid (Turn (fun k => k = b ∨ (F k ∧ k < D)) w w6) := Lib.hid ((turn_below Kd.out).trans (t6.mono (fun k h => Or.inr h)))
  have PG := Lib.hid o6
  have Z6 := Lib.hid t6.size
  clear hnew hsX o6 t6 yd hvl PP PX KPP KPX KBS KBV Kd d y0 y1 y2 y3
  have p_BV_0 := (cell_of_row w6 _ 0 _ _ _ BV.out).trans (show _ = some (Value.int .i64 id) from rfl)
  have p_BV_1 := (cell_of_row w6 _ 1 _ _ _ BV.out).trans (show _ = some (Value.slice xa xs.length xc) from rfl)
  have p_BV_2 := (cell_of_row w6 _ 2 _ _ _ BV.out).trans (show _ = some (Value.int .i64 born) from rfl)
  have p_BV_3 := (cell_of_row w6 _ 3 _ _ _ BV.out).trans (show _ = some (Value.int .i64 died) from rfl)
  refine hK.out _ _ ⟨p_BV_0, p_BV_1, p_BV_2, p_BV_3⟩ (fun hHeld => ?_)
  clear p_BV_0 p_BV_1 p_BV_2 p_BV_3
  clear hK K
  try simp only [Act.put, lA, lB, lC]
  refine tR (i := 8) (v := ?_) ?_ ?_; rotate_left
  ·
   intro w hSw; (try dsimp only at hSw); go_simp; try (with_reducible rfl)
  try simp only [Act.put, lA, lB, lC]
  refine tR (i := 9) (v := ?_) ?_ ?_; rotate_left
  ·
   intro w hSw; (try dsimp only at hSw); go_simp; try (with_reducible rfl)
  try simp only [Act.put, lA, lB, lC]
  refine wpAnyH_ready (rs := [10]) (by kernel_rfl) (by simp) ?_
  refine (AllReadyH.cons (o := _) (by simp only [hA, hB, hC]; rfl) (fun K hK => ?_) AllReadyH.nil)
  have cx1 := (cell_of_row w6 _ 0 _ _ _ BS.out).trans (show _ = some (Value.slice va ys.length vc) from rfl)
  have fx1 := frozen_of_row w6 _ 0 _ _ BS.out
  go_simp
  clear cx1 fx1
  have tt : Turn (fun k => k = b) w6 (w6.setCell ⟨b, 0, none⟩ (.slice ga (ys.length + 1) gc)) := turn_set (G := fun k => k = b) (g := b) (j := 0) (u := .slice ga (ys.length + 1) gc) rfl
  have r := heap_setCell_same w6 b 0 _ _ (.slice ga (ys.length + 1) gc) BS.out
  replace BS : Hid ((w6.setCell ⟨b, 0, none⟩ (.slice ga (ys.length + 1) gc)).heap[b]? = some (.cells #[.slice ga (ys.length + 1) gc] 131 (0, 0))) := Lib.hid (by simpa using r)
  have y0 := Z0.out; have y1 := Z1.out; have y2 := Z2.out; have y6 := Z6.out
  have hbw : w.heap.size < w6.heap.size := (Array.getElem?_eq_some_iff.1 BV.out).1
  replace BV := Lib.hid ((tt.block w.heap.size hbw (fun h => by omega)).trans BV.out)
  replace PG := Lib.hid (slO_turn tVersion_law PG.out tt (fun k h1 h2 => HFB.out (by rw [← h2]; exact h1)))
  replace TT := Lib.hid (TT.out.trans (tt.mono (fun k h => Or.inl h)))
  clear tt r hbw y0 y1 y2 y6
  generalize (w6.setCell ⟨b, 0, none⟩ (.slice ga (ys.length + 1) gc)) = w7 at *
  have p_BV_0 := (cell_of_row w7 _ 0 _ _ _ BV.out).trans (show _ = some (Value.int .i64 id) from rfl)
  have p_BV_1 := (cell_of_row w7 _ 1 _ _ _ BV.out).trans (show _ = some (Value.slice xa xs.length xc) from rfl)
  have p_BV_2 := (cell_of_row w7 _ 2 _ _ _ BV.out).trans (show _ = some (Value.int .i64 born) from rfl)
  have p_BV_3 := (cell_of_row w7 _ 3 _ _ _ BV.out).trans (show _ = some (Value.int .i64 died) from rfl)
  refine hK.out _ _ ⟨p_BV_0, p_BV_1, p_BV_2, p_BV_3⟩ (fun hHeld => ?_)
  clear p_BV_0 p_BV_1 p_BV_2 p_BV_3
  clear hK K
  try simp only [Act.put, lA, lB, lC]
  refine wpAnyH_done (by kernel_rfl) ?_ _
  clear hHeld
  go_wp2
  refine bodyPost_ret (v := .tuple #[]) ?_ rfl ?_
  ·
   simp [results, Try.f68, go_sem]
  ·
   exact ⟨_, rfl, BS.out, PG.out, TT.out⟩
 ·
  go_simp
  have hal : Below Wd.heap.size Wd (Wd.alloc (.cells #[.int .i64 id, .slice xa xs.length xc, .int .i64 born, .int .i64 died] 88)) := (Below.refl _ _).alloc (Nat.le_refl _) _
  have KBV := BV
  have KBS := BS
  have KPP := PP
  have KPX := PX
  have Kd := d
  replace BV := Lib.hid ((hal.block w.heap.size (Array.getElem?_eq_some_iff.1 BV.out).1).trans BV.out)
  replace BS := Lib.hid ((hal.block b (Array.getElem?_eq_some_iff.1 BS.out).1).trans BS.out)
  replace PP := Lib.hid (slO_fresh tVersion_law PP.out hal)
  replace PX := Lib.hid (slO_fresh tInt_law PX.out hal)
  replace d := Lib.hid (d.out.trans (hal.mono d.out.size))
  clear hal
  have p_BV_0 := (cell_of_row (Wd.alloc (.cells #[.int .i64 id, .slice xa xs.length xc, .int .i64 born, .int .i64 died] 88)) _ 0 _ _ _ BV.out).trans (show _ = some (Value.int .i64 id) from rfl)
  have p_BV_1 := (cell_of_row (Wd.alloc (.cells #[.int .i64 id, .slice xa xs.length xc, .int .i64 born, .int .i64 died] 88)) _ 1 _ _ _ BV.out).trans (show _ = some (Value.slice xa xs.length xc) from rfl)
  have p_BV_2 := (cell_of_row (Wd.alloc (.cells #[.int .i64 id, .slice xa xs.length xc, .int .i64 born, .int .i64 died] 88)) _ 2 _ _ _ BV.out).trans (show _ = some (Value.int .i64 born) from rfl)
  have p_BV_3 := (cell_of_row (Wd.alloc (.cells #[.int .i64 id, .slice xa xs.length xc, .int .i64 born, .int .i64 died] 88)) _ 3 _ _ _ BV.out).trans (show _ = some (Value.int .i64 died) from rfl)
  refine hK.out _ _ ⟨p_BV_0, p_BV_1, p_BV_2, p_BV_3⟩ (fun hHeld => ?_)
  clear p_BV_0 p_BV_1 p_BV_2 p_BV_3
  clear hK K
  try simp only [Act.put, lA, lB, lC]
  refine wpAnyH_ready (rs := [4]) (by kernel_rfl) (by simp) ?_
  refine (AllReadyH.cons (o := _) (by simp only [hA, hB, hC]; rfl) (fun K hK => ?_) AllReadyH.nil)
  have p_BS_0 := (cell_of_row (Wd.alloc (.cells #[.int .i64 id, .slice xa xs.length xc, .int .i64 born, .int .i64 died] 88)) _ 0 _ _ _ BS.out).trans (show _ = some (Value.slice va ys.length vc) from rfl)
  go_simp
  clear p_BS_0
  have p_BV_0 := (cell_of_row (Wd.alloc (.cells #[.int .i64 id, .slice xa xs.length xc, .int .i64 born, .int .i64 died] 88)) _ 0 _ _ _ BV.out).trans (show _ = some (Value.int .i64 id) from rfl)
  have p_BV_1 := (cell_of_row (Wd.alloc (.cells #[.int .i64 id, .slice xa xs.length xc, .int .i64 born, .int .i64 died] 88)) _ 1 _ _ _ BV.out).trans (show _ = some (Value.slice xa xs.length xc) from rfl)
  have p_BV_2 := (cell_of_row (Wd.alloc (.cells #[.int .i64 id, .slice xa xs.length xc, .int .i64 born, .int .i64 died] 88)) _ 2 _ _ _ BV.out).trans (show _ = some (Value.int .i64 born) from rfl)
  have p_BV_3 := (cell_of_row (Wd.alloc (.cells #[.int .i64 id, .slice xa xs.length xc, .int .i64 born, .int .i64 died] 88)) _ 3 _ _ _ BV.out).trans (show _ = some (Value.int .i64 died) from rfl)
  refine hK.out _ _ ⟨p_BV_0, p_BV_1, p_BV_2, p_BV_3⟩ (fun hHeld => ?_)
  clear p_BV_0 p_BV_1 p_BV_2 p_BV_3
  clear hK K
  try simp only [Act.put, lA, lB, lC]
  refine wpAnyH_ready (rs := [7]) (by kernel_rfl) (by simp) ?_
  refine (AllReadyH.cons (o := _) (by simp only [hA, hB, hC]; rfl) (fun K hK => ?_) AllReadyH.nil)
  have y0 := Z0.out
  have y1 := Z1.out
  have y2 := Z2.out
  have y3 := Z_dr.out
  have hsX : W.heap.size ≤ Wd.heap.size := Z_dr.out
  have hnew : tVersion.O Wd (fun k => D ≤ k) [.int .i64 id, .slice xa xs.length xc, .int .i64 born, .int .i64 died] (id, xs, born, died) := tVersion_mkO KPX.out (fun k h => by have r := QX.out k h; exact r.1)
  refine step_append_T tVersion_law info_T_Version Try.underlying89 rfl rfl (.tmp 8) (.tmp 10) rfl F D _ ys rfl KPP.out (by omega) HF.out HN.out [.int .i64 id, .slice xa xs.length xc, .int .i64 born, .int .i64 died] (id, xs, born, died) hnew (by simp [Value.oneCell']) 1 _ rfl rfl ?_
  intro v' w6 o6 t6
  obtain ⟨ga, gc, hv⟩ := slO_len o6
  have hvl : (ys ++ [((id, xs, born, died) : VerD)]).length = ys.length + 1 := by simp
  rw [hvl] at hv
  subst hv
  have yd := Kd.out.size
  replace BS := Lib.hid ((t6.block b (by omega) (fun h => HFB.out h.1)).trans KBS.out)
  replace BV := Lib.hid ((t6.block w.heap.size (by omega) (fun h => by have r := h.2; omega)).trans KBV.out)
  have TT : Hid (Turn (fun k => k = b ∨ (F k ∧ k < D)) w w6) := Lib.hid ((turn_below Kd.out).trans (t6.mono (fun k h => Or.inr h)))
  have PG := Lib.hid o6
  have Z6 := Lib.hid t6.size
  clear hnew hsX o6 t6 yd hvl PP PX KPP KPX KBS KBV Kd d y0 y1 y2 y3
  have p_BV_0 := (cell_of_row w6 _ 0 _ _ _ BV.out).trans (show _ = some (Value.int .i64 id) from rfl)
  have p_BV_1 := (cell_of_row w6 _ 1 _ _ _ BV.out).trans (show _ = some (Value.slice xa xs.length xc) from rfl)
  have p_BV_2 := (cell_of_row w6 _ 2 _ _ _ BV.out).trans (show _ = some (Value.int .i64 born) from rfl)
  have p_BV_3 := (cell_of_row w6 _ 3 _ _ _ BV.out).trans (show _ = some (Value.int .i64 died) from rfl)
  refine hK.out _ _ ⟨p_BV_0, p_BV_1, p_BV_2, p_BV_3⟩ (fun hHeld => ?_)
  clear p_BV_0 p_BV_1 p_BV_2 p_BV_3
  clear hK K
  try simp only [Act.put, lA, lB, lC]
  refine tR (i := 8) (v := ?_) ?_ ?_; rotate_left
  ·
   intro w hSw; (try dsimp only at hSw); go_simp; try (with_reducible rfl)
  try simp only [Act.put, lA, lB, lC]
  refine tR (i := 9) (v := ?_) ?_ ?_; rotate_left
  ·
   intro w hSw; (try dsimp only at hSw); go_simp; try (with_reducible rfl)
  try simp only [Act.put, lA, lB, lC]
  refine wpAnyH_ready (rs := [10]) (by kernel_rfl) (by simp) ?_
  refine (AllReadyH.cons (o := _) (by simp only [hA, hB, hC]; rfl) (fun K hK => ?_) AllReadyH.nil)
  have cx1 := (cell_of_row w6 _ 0 _ _ _ BS.out).trans (show _ = some (Value.slice va ys.length vc) from rfl)
  have fx1 := frozen_of_row w6 _ 0 _ _ BS.out
  go_simp
  clear cx1 fx1
  have tt : Turn (fun k => k = b) w6 (w6.setCell ⟨b, 0, none⟩ (.slice ga (ys.length + 1) gc)) := turn_set (G := fun k => k = b) (g := b) (j := 0) (u := .slice ga (ys.length + 1) gc) rfl
  have r := heap_setCell_same w6 b 0 _ _ (.slice ga (ys.length + 1) gc) BS.out
  replace BS : Hid ((w6.setCell ⟨b, 0, none⟩ (.slice ga (ys.length + 1) gc)).heap[b]? = some (.cells #[.slice ga (ys.length + 1) gc] 131 (0, 0))) := Lib.hid (by simpa using r)
  have y0 := Z0.out; have y1 := Z1.out; have y2 := Z2.out; have y6 := Z6.out
  have hbw : w.heap.size < w6.heap.size := (Array.getElem?_eq_some_iff.1 BV.out).1
  replace BV := Lib.hid ((tt.block w.heap.size hbw (fun h => by omega)).trans BV.out)
  replace PG := Lib.hid (slO_turn tVersion_law PG.out tt (fun k h1 h2 => HFB.out (by rw [← h2]; exact h1)))
  replace TT := Lib.hid (TT.out.trans (tt.mono (fun k h => Or.inl h)))
  clear tt r hbw y0 y1 y2 y6
  generalize (w6.setCell ⟨b, 0, none⟩ (.slice ga (ys.length + 1) gc)) = w7 at *
  have p_BV_0 := (cell_of_row w7 _ 0 _ _ _ BV.out).trans (show _ = some (Value.int .i64 id) from rfl)
  have p_BV_1 := (cell_of_row w7 _ 1 _ _ _ BV.out).trans (show _ = some (Value.slice xa xs.length xc) from rfl)
  have p_BV_2 := (cell_of_row w7 _ 2 _ _ _ BV.out).trans (show _ = some (Value.int .i64 born) from rfl)
  have p_BV_3 := (cell_of_row w7 _ 3 _ _ _ BV.out).trans (show _ = some (Value.int .i64 died) from rfl)
  refine hK.out _ _ ⟨p_BV_0, p_BV_1, p_BV_2, p_BV_3⟩ (fun hHeld => ?_)
  clear p_BV_0 p_BV_1 p_BV_2 p_BV_3
  clear hK K
  try simp only [Act.put, lA, lB, lC]
  refine wpAnyH_done (by kernel_rfl) ?_ _
  clear hHeld
  go_wp2
  refine bodyPost_ret (v := .tuple #[]) ?_ rfl ?_
  ·
   simp [results, Try.f68, go_sem]
  ·
   exact ⟨_, rfl, BS.out, PG.out, TT.out⟩
/-- A table that is owned, taken apart. -/
theorem tab_parts {w : World} {F : Nat → Prop} {g n cap : Nat} {ps : List (List VerD)} (h : SlO 102 tSegP w F (.slice (some ⟨g, 0, none⟩) n cap) ps) (hn : n = ps.length) :
  g < w.heap.size ∧ ∃ (bs : Nat → Nat) (vs : Nat → Value) (Fs : Nat → Nat → Prop), (∀ j, j < n → w.cell? ⟨g, j, none⟩ = some (ptrV (bs j)) ∧ w.heap[bs j]? = some (segCells (vs j)) ∧ SlO 88 tVersion w (Fs j) (vs j) (ps.getD j []) ∧ ∀ b, Fs j b → F b ∧ b < w.heap.size) ∧ ∀ i j, i < n → j < n → i ≠ j → ∀ b, Fs i b → ¬ Fs j b := by
 obtain ⟨L, us, Fs, h1, h2, h3, h4⟩ := slO_lt tSegP_law h
 refine ⟨(h2 g rfl).2, ?_⟩
 subst hn
 haveI : Inhabited (Nat × Value × (Nat → Prop)) := ⟨(0, .slice none 0 0, fun _ => False)⟩
 obtain ⟨f, hf⟩ := Go.Deep.choose_lt (α := Nat × Value × (Nat → Prop)) (n := ps.length) (p := fun j u => us j = [ptrV u.1] ∧ w.heap[u.1]? = some (segCells u.2.1) ∧ SlO 88 tVersion w u.2.2 u.2.1 (ps.getD j []) ∧ ∀ b, u.2.2 b → Fs j b) (fun j hj => by
  obtain ⟨_, hO, _⟩ := h3 j hj
  obtain ⟨b, v, F1, e, _, g1, g2, g3, _⟩ := hO
  exact ⟨(b, v, F1), e, g1, g2, g3⟩)
 refine ⟨fun j => (f j).1, fun j => (f j).2.1, fun j => (f j).2.2, fun j hj => ?_, fun i j hi hj hij b hb hc => h4 i j hi hj hij b ((hf i hi).2.2.2 b hb) ((hf j hj).2.2.2 b hc)⟩
 obtain ⟨g1, g2, g3, g4⟩ := hf j hj
 refine ⟨?_, g2, g3, fun b hb => ((h3 j hj).2.2 b (g4 b hb)).1⟩
 have hc := (h3 j hj).1 0 (by decide)
 rw [show tSegP.n = 1 from rfl, Nat.mul_one, Nat.add_zero, g1] at hc
 exact (World.ownsRow.cellAt h1 j (by show j < ps.length * 1; omega)).trans hc
theorem val_set {vs : Nat → Value} {n k : Nat} (hk : k < n) : ((List.range k).map vs ++ List.replicate (n - k) (Value.slice none 0 0)).set k (vs k) = (List.range (k + 1)).map vs ++ List.replicate (n - (k + 1)) (Value.slice none 0 0) := by
 have hl : ((List.range k).map vs).length = k := by simp
 rw [List.set_append_right _ _ (by omega), hl, Nat.sub_self, show n - k = (n - (k + 1)) + 1 by omega, List.replicate_succ, List.set_cons_zero, List.range_succ, List.map_append, List.append_assoc]
 rfl
def Listed (w : World) (F : Nat → Prop) (ps : List (List VerD)) (e : Ending) (w' : World) : Prop := ∃ v, e = .returned v ∧ SlO 89 tVersionS w' (fun b => F b ∨ w.heap.size ≤ b) v ps ∧ Below w.heap.size w w'
set_option maxHeartbeats 8000000 in
set_option maxRecDepth 100000 in
theorem lists_any (g n : Nat) (F : Nat → Prop) (ps : List (List VerD)) (w : World) (h : SlO 102 tSegP w F (.slice (some ⟨g, 0, none⟩) n n) ps) (hn : n = ps.length) (hl : n ≤ 1048576) :
  Calls Try.prog 60 #[.slice (some ⟨g, 0, none⟩) n n] w (Listed w F ps) := by
 obtain ⟨i0, hi, hz0, hz1, hz2⟩ := info_T_VersionS
 have HI := Lib.hid hi; have HZ0 := Lib.hid hz0; have HZ1 : Hid (i0.size = 1) := Lib.hid hz1; have HZ2 := Lib.hid hz2
 clear hi hz0 hz1 hz2
 obtain ⟨hg, bs, vs, Fs, hp, hd⟩ := tab_parts h hn
 have HP := Lib.hid hp
 have HD := Lib.hid hd
 have HG := Lib.hid hg
 have HN := Lib.hid hn
 clear h hp hd hg hn
 go_enter Try.func60, Try.ntmps60
 go_wp2_with (at_make; refine wpList_make_full _ rfl (.tmp 7) (.tmp 7) 39 rfl w.heap.size 89 i0 (.slice none 0 0) 1 Try.underlying39 HI.out HZ0.out HZ1.out _ _ _ _ n rfl rfl rfl rfl (by have := Nat.mul_le_mul HZ2.out hl; omega) (by unfold maxLen; omega) (Nat.le_refl _) ?_)
 intro w1 hown0 hg0
 have hbel1 := (Below.refl w.heap.size w).grown hg0 (Nat.le_refl _) (fun k hk => by cases hk)
 have hz : (madeCells #[Value.slice none 0 0] n).toList = List.replicate n (Value.slice none 0 0) := by
  apply List.ext_getElem?
  intro i
  unfold madeCells
  rw [Array.getElem?_toList, Array.getElem?_map]
  by_cases q : i < n
  ·
   rw [Array.getElem?_range, if_pos q]
   simp [q, Nat.mod_one]
  ·
   rw [Array.getElem?_range, if_neg q]
   simp [q]
 rw [hz] at hown0
 clear hg0 hz
 go_wp2
 go_loopw [11] (fun i wr => ∃ k : Nat, k ≤ n ∧ i = .int .i64 k ∧ wr.ownsRow w.heap.size 89 1 (.slice (some ⟨w.heap.size, 0, none⟩) n n) n ((List.range k).map vs ++ List.replicate (n - k) (Value.slice none 0 0)) ∧ Below w.heap.size w wr) (fun i _ => n - (intOf i).toNat)
 case atStart => exact ⟨0, Nat.zero_le _, rfl, hown0, hbel1⟩
 case round =>
  obtain ⟨k, hk, rfl, hown, hbel⟩ := hrel
  clear hown0 hbel1
  by_cases hlt : k < n
  ·
   have i1 : (0 : Int) ≤ (k : Int) := by omega
   have i2 : (k : Int) < (n : Int) := by omega
   obtain ⟨c0, r0, o0, _⟩ := HP.out k hlt
   have p0 := (hbel.cell (p := ⟨g, k, none⟩) HG.out).trans c0
   have r1 := (hbel.block _ (Array.getElem?_eq_some_iff.1 r0).1).trans r0
   have q0 := (cell_of_row wr _ 0 _ _ _ r1).trans (show _ = some (vs k) from rfl)
   have hst := (World.ownsRow.stored hown k (vs k)).1
   rw [val_set hlt] at hst
   have y0 : ∃ x, wr.cell? ⟨w.heap.size, k, none⟩ = some x := ⟨_, (World.ownsRow.cellAt hown k (by omega)).trans (List.getElem?_eq_getElem (by simp; omega))⟩
   obtain ⟨y, y0⟩ := y0
   have f0 := World.ownsRow.frozenAt hown k
   have B3 := Lib.hid (hbel.setCell (p := ⟨w.heap.size, k, none⟩) (Nat.le_refl _) (vs k))
   have HST := Lib.hid hst
   obtain ⟨va, vc, hv⟩ := slO_len o0
   unfold ptrV at p0
   clear hst hown hbel c0 r0 r1 o0
   rw [hv] at q0
   have HV := Lib.hid hv
   generalize bs k = pb at *
   clear hv
   obtain ⟨m, hm⟩ : ∃ m, m = (ps.getD k []).length := ⟨_, rfl⟩
   have HVM : Hid (vs k = .slice va m vc) := Lib.hid (by rw [hm]; exact HV.out)
   rw [← hm] at q0
   rw [HVM.out] at B3 HST
   clear hm HV
   go_wp2
   go_roundw
   case rel => exact ⟨k + 1, by omega, by go_num, HST.out, B3.out⟩
   case measure => simp [intOf]; omega
  ·
   obtain rfl : k = n := by omega
   have HO := Lib.hid hown
   have HB := Lib.hid hbel
   clear hown hbel
   go_wp2
   go_ret
   have ho := HO.out
   rw [Nat.sub_self, List.replicate_zero, List.append_nil] at ho
   have hnk := HN.out
   refine ⟨_, rfl, ⟨_, fun j => [vs j], Fs, by rw [← hnk]; exact row_low ho (Nat.zero_le _), fun b hb => ?_, fun j hj => ⟨fun i hi => ?_, ⟨vs j, rfl, ?_⟩, fun b hb => ?_⟩, fun i j hi hj hij => HD.out i j (by omega) (by omega) hij⟩, HB.out⟩
   ·
    simp [Value.ownBlock] at hb; right; omega
   ·
    have hi0 : i = 0 := by have : i < 1 := hi; omega
    subst hi0
    rw [show tVersionS.n = 1 from rfl, Nat.mul_one, Nat.add_zero, List.getElem?_map, List.getElem?_range (by omega)]
    rfl
   ·
    exact slO_turn (G := fun _ => False) tVersion_law (HP.out j (by omega)).2.2.1 (turn_below HB.out) (fun _ _ => not_false)
   ·
    obtain ⟨q1, q2⟩ := (HP.out j (by omega)).2.2.2 b hb
    refine ⟨Or.inl q1, fun q => ?_⟩
    simp [Value.ownBlock] at q
    omega
section
variable {α : Type} {T : Ty α}
/-- An element is opened; what lies from D on is free for it. -/
theorem slO_openD (A : T.Law) {e : TypeId} {w : World} {F : Nat → Prop} {D : Nat} {g m cap : Nat} {xs : List α} (h : SlO e T w (fun b => F b ∧ b < D) (.slice (some ⟨g, 0, none⟩) m cap) xs) (hDw : D ≤ w.heap.size) {j : Nat} (hj : j < xs.length) :
  m = xs.length ∧ F g ∧ g < D ∧ ∃ (cs : List Value) (Fj : Nat → Prop) (L : List Value), w.ownsRow 0 e T.n (.slice (some ⟨g, 0, none⟩) xs.length cap) xs.length L ∧ (∀ i, i < T.n → L[j * T.n + i]? = cs[i]?) ∧ T.O w Fj cs (xs.getD j T.d) ∧ (∀ b, Fj b → F b ∧ b ≠ g ∧ b < D) ∧
   ∀ (w' : World) (L' cs' : List Value) (Fj' : Nat → Prop) (x' : α), w'.ownsRow 0 e T.n (.slice (some ⟨g, 0, none⟩) xs.length cap) xs.length L' → (∀ o, (o < j * T.n ∨ j * T.n + T.n ≤ o) → L'[o]? = L[o]?) → (∀ i, i < T.n → L'[j * T.n + i]? = cs'[i]?) → T.O w' Fj' cs' x' → (∀ b, Fj' b → F b ∧ (Fj b ∨ D ≤ b)) →
    Turn (fun b => b = g ∨ Fj b ∨ D ≤ b) w w' → SlO e T w' F (.slice (some ⟨g, 0, none⟩) m cap) (xs.set j x') := by
 obtain ⟨L, us, Fs, h1, h2, h3, h4⟩ := h
 have hm : m = xs.length := by
  rcases h1.2 with ⟨h', _⟩ | ⟨_, _, _, h', _⟩
  ·
   simp at h'
  ·
   simp only [Value.slice.injEq] at h'; exact h'.2.1
 subst hm
 have hg := h2 g rfl
 refine ⟨rfl, hg.1, hg.2, us j, Fs j, L, h1, (h3 j hj).1, (h3 j hj).2.1, fun b hb => ?_, ?_⟩
 ·
  obtain ⟨⟨k1, k2⟩, k3⟩ := (h3 j hj).2.2 b hb
  exact ⟨k1, fun e => k3 (by rw [e]; rfl), k2⟩
 ·
  intro w' L' cs' Fj' x' g1 g2 g3 g4 g5 g6
  refine ⟨L', fun i => if i = j then cs' else us i, fun i => if i = j then Fj' else Fs i, by rw [List.length_set]; exact g1, fun b hb => (h2 b hb).1, fun i hi => ?_, fun a b ha hb hab c => ?_⟩
  ·
   rw [List.length_set] at hi
   by_cases eij : i = j
   ·
    subst eij
    have er : (xs.set i x').getD i T.d = x' := by simp [List.getD, hi]
    rw [er]
    simp only [if_true]
    refine ⟨g3, g4, fun b hb => ⟨(g5 b hb).1, ?_⟩⟩
    rcases (g5 b hb).2 with q | q
    ·
     exact ((h3 i hj).2.2 b q).2
    ·
     intro q2
     simp [Value.ownBlock] at q2
     omega
   ·
    have er : (xs.set j x').getD i T.d = xs.getD i T.d := by simp [List.getD, List.getElem?_set_ne (Ne.symm eij)]
    rw [er]
    simp only [if_neg eij]
    refine ⟨fun p hp => ?_, ?_, fun b hb => ⟨((h3 i hi).2.2 b hb).1.1, ((h3 i hi).2.2 b hb).2⟩⟩
    ·
     rw [g2 _ ?_]
     ·
      exact (h3 i hi).1 p hp
     ·
      rcases Nat.lt_or_gt_of_ne eij with q | q
      ·
       left
       have : (i + 1) * T.n ≤ j * T.n := Nat.mul_le_mul_right _ q
       rw [Nat.add_mul, Nat.one_mul] at this; omega
      ·
       right
       have : (j + 1) * T.n ≤ i * T.n := Nat.mul_le_mul_right _ q
       rw [Nat.add_mul, Nat.one_mul] at this; omega
    ·
     refine A.turn (h3 i hi).2.1 g6 (fun b hb hc => ?_)
     rcases hc with q | q | q
     ·
      exact ((h3 i hi).2.2 b hb).2 (by rw [q]; rfl)
     ·
      exact h4 i j hi hj eij b hb q
     ·
      have := ((h3 i hi).2.2 b hb).1.2; omega
  ·
   rw [List.length_set] at ha hb
   by_cases ea : a = j
   ·
    have eb : ¬ b = j := fun q => hab (ea.trans q.symm)
    simp only [if_pos ea, if_neg eb]
    intro q1 q2
    rcases (g5 c q1).2 with q | q
    ·
     exact h4 j b hj hb (fun q' => eb q'.symm) c q q2
    ·
     have := ((h3 b hb).2.2 c q2).1.2; omega
   ·
    by_cases eb : b = j
    ·
     simp only [if_neg ea, if_pos eb]
     intro q1 q2
     rcases (g5 c q2).2 with q | q
     ·
      exact h4 a j ha hj ea c q1 q
     ·
      have := ((h3 a ha).2.2 c q1).1.2; omega
    ·
     simp only [if_neg ea, if_neg eb]
     exact h4 a b ha hb hab c
/-- The data behind an element's cells turn, the cells stay. -/
theorem slO_inner (A : T.Law) {e : TypeId} {w : World} {F : Nat → Prop} {D : Nat} {v : Value} {xs : List α} (h : SlO e T w (fun b => F b ∧ b < D) v xs) (hDw : D ≤ w.heap.size) {j : Nat} (hj : j < xs.length) :
  ∃ (g cap : Nat) (cs : List Value) (Fj : Nat → Prop), v = .slice (some ⟨g, 0, none⟩) xs.length cap ∧ F g ∧ g < D ∧ (∀ i, i < T.n → w.cell? ⟨g, j * T.n + i, none⟩ = cs[i]?) ∧ T.O w Fj cs (xs.getD j T.d) ∧ (∀ b, Fj b → F b ∧ b ≠ g ∧ b < D) ∧
   ∀ (w' : World) (Fj' : Nat → Prop) (x' : α), T.O w' Fj' cs x' → (∀ b, Fj' b → F b ∧ (Fj b ∨ D ≤ b)) → Turn (fun b => Fj b ∨ D ≤ b) w w' → SlO e T w' F v (xs.set j x') := by
 rcases slO_form h with ⟨_, rfl⟩ | ⟨g, cap, rfl, _, _⟩
 ·
  simp at hj
 ·
  obtain ⟨hm, hFg, hg, cs, Fj, L, hrow, hL, hO, hFj, hput⟩ := slO_openD A h hDw hj
  refine ⟨g, cap, cs, Fj, rfl, hFg, hg, fun i hi => ?_, hO, hFj, fun w' Fj' x' h1 h2 h3 => ?_⟩
  ·
   have hlt : j * T.n + i < xs.length * T.n := by
    have : (j + 1) * T.n ≤ xs.length * T.n := Nat.mul_le_mul_right _ hj
    rw [Nat.add_mul, Nat.one_mul] at this; omega
   rw [World.ownsRow.cellAt hrow _ hlt]
   exact hL i hi
  ·
   refine hput w' L cs Fj' x' (row_turn hrow h3 (fun b hb => ?_)) (fun o _ => rfl) hL h1 h2 (h3.mono (fun b hb => Or.inr hb))
   simp [Value.ownBlock] at hb
   subst hb
   intro q
   rcases q with q | q
   ·
    exact (hFj _ q).2.1 rfl
   ·
    omega
/-- One cell of an element is stored into. -/
theorem slO_poke (A : T.Law) {e : TypeId} {w : World} {F : Nat → Prop} {D : Nat} {v : Value} {xs : List α} (h : SlO e T w (fun b => F b ∧ b < D) v xs) (hDw : D ≤ w.heap.size) {j i : Nat} (hj : j < xs.length) (hi : i < T.n) :
  ∃ (g cap : Nat) (cs : List Value) (Fj : Nat → Prop), v = .slice (some ⟨g, 0, none⟩) xs.length cap ∧ F g ∧ g < D ∧ (∀ i, i < T.n → w.cell? ⟨g, j * T.n + i, none⟩ = cs[i]?) ∧ T.O w Fj cs (xs.getD j T.d) ∧ (∀ b, Fj b → F b ∧ b ≠ g ∧ b < D) ∧ w.frozen? ⟨g, j * T.n + i, none⟩ = false ∧
   ∀ (u : Value) (x' : α), (∀ w', Turn (fun b => b = g) w w' → T.O w' Fj (cs.set i u) x') → SlO e T (w.setCell ⟨g, j * T.n + i, none⟩ u) F v (xs.set j x') := by
 rcases slO_form h with ⟨_, rfl⟩ | ⟨g, cap, rfl, _, _⟩
 ·
  simp at hj
 ·
  obtain ⟨hm, hFg, hg, cs, Fj, L, hrow, hL, hO, hFj, hput⟩ := slO_openD A h hDw hj
  have hlt : ∀ i, i < T.n → j * T.n + i < xs.length * T.n := fun i hi => by
   have : (j + 1) * T.n ≤ xs.length * T.n := Nat.mul_le_mul_right _ hj
   rw [Nat.add_mul, Nat.one_mul] at this; omega
  have hLl : L.length = xs.length * T.n := hrow.1
  have hcl : cs.length = T.n := A.len (A.reads hO)
  refine ⟨g, cap, cs, Fj, rfl, hFg, hg, fun i hi => ?_, hO, hFj, World.ownsRow.frozenAt hrow _, fun u x' h1 => ?_⟩
  ·
   rw [World.ownsRow.cellAt hrow _ (hlt i hi)]
   exact hL i hi
  ·
   have tt : Turn (fun b => b = g) w (w.setCell ⟨g, j * T.n + i, none⟩ u) := turn_set (G := fun b => b = g) (g := g) (j := j * T.n + i) (u := u) rfl
   refine hput _ (L.set (j * T.n + i) u) (cs.set i u) Fj x' (World.ownsRow.stored hrow _ u).1 (fun o ho => ?_) (fun p hp => ?_) (h1 _ tt) (fun b hb => ⟨(hFj b hb).1, Or.inl hb⟩) (tt.mono (fun b hb => Or.inl hb))
   ·
    rw [List.getElem?_set_ne (by omega)]
   ·
    rw [List.getElem?_set, List.getElem?_set]
    have := hlt i hi
    by_cases q : i = p
    ·
     subst q
     rw [if_pos rfl, if_pos rfl, if_pos (by omega), if_pos (by omega)]
    ·
     rw [if_neg (by omega), if_neg q]
     exact hL p hp
end
/-- A version of a slice dies. -/
theorem ver_die {w : World} {F : Nat → Prop} {v : Value} {l : List VerD} (h : SlO 88 tVersion w F v l) {k : Nat} (hk : k < l.length) :
  ∃ (g cap : Nat), v = .slice (some ⟨g, 0, none⟩) l.length cap ∧ F g ∧ g < w.heap.size ∧ (∃ x, w.cell? ⟨g, k * 4 + 3, none⟩ = some x) ∧ w.frozen? ⟨g, k * 4 + 3, none⟩ = false ∧
   ∀ t : Int, SlO 88 tVersion (w.setCell ⟨g, k * 4 + 3, none⟩ (.int .i64 t)) F v (l.set k (killV (l.getD k v0D) t)) := by
 obtain ⟨g, cap, cs, Fj, hv, hF, hg, hc, hO, hFj, hz, hput⟩ := slO_poke tVersion_law (slO_lt tVersion_law h) (Nat.le_refl _) hk (i := 3) (by decide)
 change tVersion.O w Fj cs (l.getD k v0D) at hO
 change ∀ i, i < 4 → w.cell? ⟨g, k * 4 + i, none⟩ = cs[i]? at hc
 change w.frozen? ⟨g, k * 4 + 3, none⟩ = false at hz
 change ∀ (u : Value) (x' : VerD), (∀ w', Turn (fun b => b = g) w w' → tVersion.O w' Fj (cs.set 3 u) x') → SlO 88 tVersion (w.setCell ⟨g, k * 4 + 3, none⟩ u) F v (l.set k x') at hput
 generalize l.getD k v0D = x at *
 obtain ⟨i, xs, bo, di⟩ := x
 obtain ⟨v1, F1, rfl, h1, h2⟩ := tVersion_O hO
 refine ⟨g, cap, hv, hF, hg, ⟨_, hc 3 (by decide)⟩, hz, fun t => hput _ _ (fun w' tt => ?_)⟩
 exact tVersion_mkO (slO_turn tInt_law h1 tt (fun b hb hb2 => (hFj b (h2 b hb)).2.1 hb2)) h2
/-- A table of segments, opened at one: its pointer, the slice of its versions, and what closes it again. -/
theorem tab_at {w : World} {F : Nat → Prop} {D : Nat} {v : Value} {ss : List (List VerD)} (h : SlO 102 tSegP w (fun b => F b ∧ b < D) v ss) (hDw : D ≤ w.heap.size) {j : Nat} (hj : j < ss.length) :
  ∃ (g cap b : Nat) (u : Value) (F1 Fj : Nat → Prop), v = .slice (some ⟨g, 0, none⟩) ss.length cap ∧ F g ∧ g < D ∧ w.cell? ⟨g, j, none⟩ = some (ptrV b) ∧ w.heap[b]? = some (segCells u) ∧ SlO 88 tVersion w F1 u (ss.getD j []) ∧ Fj b ∧ (∀ k, F1 k → Fj k ∧ k ≠ b) ∧ (∀ b, Fj b → F b ∧ b ≠ g ∧ b < D) ∧
   ∀ (w' : World) (u' : Value) (F1' : Nat → Prop) (l : List VerD), w'.heap[b]? = some (segCells u') → SlO 88 tVersion w' F1' u' l → (∀ k, F1' k → F k ∧ k ≠ b ∧ (Fj k ∨ D ≤ k)) → Turn (fun k => Fj k ∨ D ≤ k) w w' → SlO 102 tSegP w' F v (ss.set j l) := by
 obtain ⟨g, cap, cs, Fj, hv, hF, hg, hc, hO, hFj, hput⟩ := slO_inner tSegP_law h hDw hj
 obtain ⟨b, u, F1, rfl, h0, h1, h2, h3, h4⟩ := hO
 refine ⟨g, cap, b, u, F1, Fj, hv, hF, hg, ?_, h1, h2, h0, fun k hk => ⟨h3 k hk, fun e => h4 (by rw [← e]; exact hk)⟩, hFj, fun w' u' F1' l q1 q2 q3 q4 => ?_⟩
 ·
  have := hc 0 (by decide)
  rw [show tSegP.n = 1 from rfl, Nat.mul_one, Nat.add_zero] at this
  exact this
 ·
  refine hput w' (fun k => k = b ∨ F1' k) l ⟨b, u', F1', rfl, Or.inl rfl, q1, q2, fun k hk => Or.inr hk, fun hk => (q3 b hk).2.1 rfl⟩ (fun k hk => ?_) q4
  rcases hk with rfl | hk
  ·
   exact ⟨(hFj _ h0).1, Or.inl h0⟩
  ·
   exact ⟨(q3 k hk).1, (q3 k hk).2.2⟩
/-- A version of a table dies. -/
theorem tab_die {w : World} {F : Nat → Prop} {v : Value} {ss : List (List VerD)} (h : SlO 102 tSegP w F v ss) {j k : Nat} (hj : j < ss.length) (hk : k < (ss.getD j []).length) :
  ∃ (g cap b q c : Nat), v = .slice (some ⟨g, 0, none⟩) ss.length cap ∧ w.cell? ⟨g, j, none⟩ = some (ptrV b) ∧ w.heap[b]? = some (segCells (.slice (some ⟨q, 0, none⟩) (ss.getD j []).length c)) ∧ F q ∧ q < w.heap.size ∧ (∃ x, w.cell? ⟨q, k * 4 + 3, none⟩ = some x) ∧ w.frozen? ⟨q, k * 4 + 3, none⟩ = false ∧
   ∀ t : Int, SlO 102 tSegP (w.setCell ⟨q, k * 4 + 3, none⟩ (.int .i64 t)) F v (dieL ss j k t) := by
 obtain ⟨g, cap, b, u, F1, Fj, hv, hF, hg, hc, hb, hu, h0, h1, h2, hput⟩ := tab_at (slO_lt tSegP_law h) (Nat.le_refl _) hj
 obtain ⟨q, c, rfl, q1, q2, q3, q4, q5⟩ := ver_die hu hk
 have hq := h1 q q1
 refine ⟨g, cap, b, q, c, hv, hc, hb, (h2 q hq.1).1, q2, q3, q4, fun t => ?_⟩
 have tt : Turn (fun b => b = q) w (w.setCell ⟨q, k * 4 + 3, none⟩ (.int .i64 t)) := turn_set (G := fun b => b = q) (g := q) (j := k * 4 + 3) (u := .int .i64 t) rfl
 exact hput _ _ F1 _ ((tt.block b (Array.getElem?_eq_some_iff.1 hb).1 (fun e => hq.2 e.symm)).trans hb) (q5 t) (fun k hk => ⟨(h2 k (h1 k hk).1).1, (h1 k hk).2, Or.inl (h1 k hk).1⟩) (tt.mono (fun k hk => Or.inl (by rw [hk]; exact hq.1)))
/-- A version is added to a segment of a table. -/
theorem tab_add {w : World} {F : Nat → Prop} {D : Nat} {v : Value} {ss : List (List VerD)} (h : SlO 102 tSegP w (fun b => F b ∧ b < D) v ss) (hDw : D ≤ w.heap.size) (hF : ∀ k, D ≤ k → F k) {r : Nat} (hr : r < ss.length) (hl : (ss.getD r []).length ≤ 1048576)
  (id born died : Int) (xa : Option Addr) (xc : Nat) (xs : List Int) (hx : SlO 3 tInt w (fun k => D ≤ k) (.slice xa xs.length xc) xs) :
  ∃ (g cap b : Nat), v = .slice (some ⟨g, 0, none⟩) ss.length cap ∧ w.cell? ⟨g, r, none⟩ = some (ptrV b) ∧
   Calls Try.prog 68 #[ptrV b, .agg #[.int .i64 id, .slice xa xs.length xc, .int .i64 born, .int .i64 died]] w (fun e w' => e = .returned (.tuple #[]) ∧ SlO 102 tSegP w' F v (addL ss r (id, xs, born, died)) ∧ Turn (fun k => F k ∧ k < D) w w') := by
 obtain ⟨g, cap, b, u, F1, Fj, hv, hFg, hg, hc, hb, hu, h0, h1, h2, hput⟩ := tab_at h hDw hr
 have hbD := (h2 b h0).2.2
 refine ⟨g, cap, b, hv, hc, (add_any b D (fun k => F1 k ∨ D ≤ k) u (ss.getD r []) id born died xa xc xs w hb (slO_mono hu (fun k hk => ⟨Or.inl hk, (h2 k (h1 k hk).1).2.2⟩)) hDw hbD (fun q => ?_) (fun k hk => Or.inr hk) hx hl).mono ?_⟩
 ·
  rcases q with q | q
  ·
   exact (h1 b q).2 rfl
  ·
   omega
 ·
  rintro e w' ⟨v', rfl, q1, q2, q3⟩
  refine ⟨rfl, hput w' v' (fun k => F1 k ∨ D ≤ k) _ q1 q2 (fun k hk => ?_) (q3.mono (fun k hk => ?_)), q3.mono (fun k hk => ?_)⟩
  ·
   rcases hk with hk | hk
   ·
    exact ⟨(h2 k (h1 k hk).1).1, (h1 k hk).2, Or.inl (h1 k hk).1⟩
   ·
    exact ⟨hF k hk, by omega, Or.inr hk⟩
  ·
   rcases hk with rfl | ⟨hk | hk, hk2⟩
   ·
    exact Or.inl h0
   ·
    exact Or.inl (h1 k hk).1
   ·
    omega
  ·
   rcases hk with rfl | ⟨hk | hk, hk2⟩
   ·
    exact ⟨(h2 _ h0).1, hbD⟩
   ·
    exact ⟨(h2 k (h1 k hk).1).1, hk2⟩
   ·
    omega
/-- A version of a store dies; where its values lie. -/
theorem segs_die {w : World} {F : Nat → Prop} {v : Value} {ss : List (List VerD)} (h : SlO 89 tVersionS w F v ss) {j k : Nat} (hj : j < ss.length) (hk : k < (ss.getD j []).length) :
  ∃ (g cap q c : Nat) (a : Option Addr) (n : Nat), v = .slice (some ⟨g, 0, none⟩) ss.length cap ∧ g < w.heap.size ∧ w.cell? ⟨g, j, none⟩ = some (.slice (some ⟨q, 0, none⟩) (ss.getD j []).length c) ∧ F q ∧ q < w.heap.size ∧ q ≠ g ∧ w.cell? ⟨q, k * 4 + 1, none⟩ = some (.slice a ((ss.getD j []).getD k v0D).2.1.length n) ∧ SlR tInt w (.slice a ((ss.getD j []).getD k v0D).2.1.length n) ((ss.getD j []).getD k v0D).2.1 ∧
   (∃ x, w.cell? ⟨q, k * 4 + 3, none⟩ = some x) ∧ w.frozen? ⟨q, k * 4 + 3, none⟩ = false ∧ ∀ t : Int, SlO 89 tVersionS (w.setCell ⟨q, k * 4 + 3, none⟩ (.int .i64 t)) F v (dieL ss j k t) := by
 obtain ⟨g, cap, cs, Fj, hv, hF, hg, hc, hO, hFj, hput⟩ := slO_inner tVersionS_law (slO_lt tVersionS_law h) (Nat.le_refl _) hj
 obtain ⟨u, rfl, hu⟩ := hO
 change SlO 88 tVersion w Fj u (ss.getD j []) at hu
 obtain ⟨q, c, rfl, q1, q2, q3, q4, q5⟩ := ver_die hu hk
 obtain ⟨b', off', cap', a, n, hv', _, _, c1, _, _, hx⟩ := verR_at (slO_reads tVersion_law hu) hk
 simp only [Value.slice.injEq, Option.some.injEq, Addr.mk.injEq] at hv'
 obtain ⟨⟨rfl, rfl, _⟩, _, rfl⟩ := hv'
 have hc0 : w.cell? ⟨g, j, none⟩ = some (.slice (some ⟨q, 0, none⟩) (ss.getD j []).length c) := by
  have := hc 0 (by decide)
  rw [show tVersionS.n = 1 from rfl, Nat.mul_one, Nat.add_zero] at this
  exact this
 refine ⟨g, cap, q, c, a, n, hv, hg, hc0, (hFj q q1).1, q2, (hFj q q1).2.1, by simpa using c1, ints_slR hx, q3, q4, fun t => ?_⟩
 have tt : Turn (fun b => b = q) w (w.setCell ⟨q, k * 4 + 3, none⟩ (.int .i64 t)) := turn_set (G := fun b => b = q) (g := q) (j := k * 4 + 3) (u := .int .i64 t) rfl
 exact hput _ Fj _ ⟨_, rfl, q5 t⟩ (fun b hb => ⟨(hFj b hb).1, Or.inl hb⟩) (tt.mono (fun b hb => Or.inl (by rw [hb]; exact q1)))
/-- A number of a slice is stored into. -/
theorem ints_poke {w : World} {F : Nat → Prop} {v : Value} {xs : List Int} (h : SlO 3 tInt w F v xs) {j : Nat} (hj : j < xs.length) :
  ∃ (g cap : Nat), v = .slice (some ⟨g, 0, none⟩) xs.length cap ∧ F g ∧ g < w.heap.size ∧ (∃ y, w.cell? ⟨g, j, none⟩ = some y) ∧ w.frozen? ⟨g, j, none⟩ = false ∧ ∀ t : Int, SlO 3 tInt (w.setCell ⟨g, j, none⟩ (.int .i64 t)) F v (xs.set j t) := by
 obtain ⟨g, cap, cs, Fj, hv, hF, hg, hc, hO, hFj, hz, hput⟩ := slO_poke tInt_law (slO_lt tInt_law h) (Nat.le_refl _) hj (i := 0) (by decide)
 have hcs : cs = [.int .i64 (xs.getD j 0)] := hO
 have hc0 := hc 0 (by decide)
 rw [show tInt.n = 1 from rfl, Nat.mul_one, Nat.add_zero] at hc0 hz hput
 exact ⟨g, cap, hv, hF, hg, ⟨_, by rw [hc0, hcs]; rfl⟩, hz, fun t => hput (.int .i64 t) t (fun w' _ => by rw [hcs]; rfl)⟩
/-- A segment of a store is given another slice. -/
theorem segs_put {w : World} {F : Nat → Prop} {D : Nat} {v : Value} {ss : List (List VerD)} (h : SlO 89 tVersionS w (fun b => F b ∧ b < D) v ss) (hDw : D ≤ w.heap.size) (hF : ∀ q, D ≤ q → F q) {r : Nat} (hr : r < ss.length) :
  ∃ (g cap : Nat) (u : Value) (Fj : Nat → Prop), v = .slice (some ⟨g, 0, none⟩) ss.length cap ∧ F g ∧ g < D ∧ w.cell? ⟨g, r, none⟩ = some u ∧ SlO 88 tVersion w Fj u (ss.getD r []) ∧ (∀ b, Fj b → F b ∧ b ≠ g ∧ b < D) ∧
   ∀ (w1 : World) (u' : Value) (l : List VerD), Turn (fun q => Fj q ∨ D ≤ q) w w1 → SlO 88 tVersion w1 (fun q => Fj q ∨ D ≤ q) u' l → (w1.cell? ⟨g, r, none⟩ = some u ∧ w1.frozen? ⟨g, r, none⟩ = false) ∧ SlO 89 tVersionS (w1.setCell ⟨g, r, none⟩ u') F v (ss.set r l) := by
 rcases slO_form h with ⟨_, rfl⟩ | ⟨g, cap, rfl, _, _⟩
 ·
  simp at hr
 ·
  obtain ⟨hm, hFg, hg, cs, Fj, L, hrow, hL, hO, hFj, hput⟩ := slO_openD tVersionS_law h hDw hr
  obtain ⟨u, rfl, hu⟩ := hO
  change SlO 88 tVersion w Fj u (ss.getD r []) at hu
  have hl0 := hL 0 (by decide)
  rw [show tVersionS.n = 1 from rfl, Nat.mul_one, Nat.add_zero] at hl0
  have hl1 : L[r]? = some u := hl0
  have hlt : r < ss.length * tVersionS.n := by show r < ss.length * 1; omega
  refine ⟨g, cap, u, Fj, rfl, hFg, hg, (World.ownsRow.cellAt hrow r hlt).trans hl1, hu, hFj, fun w1 u' l tt ho => ?_⟩
  have hrow1 := row_turn hrow tt (fun b hb => by
   simp [Value.ownBlock] at hb
   subst hb
   intro q
   rcases q with q | q
   ·
    exact (hFj _ q).2.1 rfl
   ·
    omega)
  refine ⟨⟨(World.ownsRow.cellAt hrow1 r hlt).trans hl1, World.ownsRow.frozenAt hrow1 r⟩, ?_⟩
  have t2 : Turn (fun b => b = g) w1 (w1.setCell ⟨g, r, none⟩ u') := turn_set (G := fun b => b = g) (g := g) (j := r) (u := u') rfl
  have ho2 := slO_turn tVersion_law ho t2 (fun b hb hb2 => by
   rcases hb with q | q
   ·
    exact (hFj b q).2.1 hb2
   ·
    omega)
  refine hput _ (L.set r u') [u'] (fun q => Fj q ∨ D ≤ q) l (World.ownsRow.stored hrow1 r u').1 (fun o ho => ?_) (fun i hi => ?_) ⟨u', rfl, ho2⟩ (fun b hb => ?_) ((tt.mono (fun b hb => Or.inr hb)).trans (t2.mono (fun b hb => Or.inl hb)))
  ·
   have ho3 : o < r * 1 ∨ r * 1 + 1 ≤ o := ho
   rw [List.getElem?_set_ne (by omega)]
  ·
   have hi2 : i < 1 := hi
   obtain rfl : i = 0 := by omega
   rw [show tVersionS.n = 1 from rfl, Nat.mul_one, Nat.add_zero]
   have hLl : L.length = ss.length * 1 := hrow.1
   exact List.getElem?_set_self (by omega)
  ·
   rcases hb with q | q
   ·
    exact ⟨(hFj b q).1, Or.inl q⟩
   ·
    exact ⟨hF b q, Or.inr q⟩
set_option maxHeartbeats 32000000 in
set_option maxRecDepth 100000 in
theorem specApply_noStore (k id f x now : Int) (sv vv : Value) (ss : List (List VerD)) (xs : List Int) (w : World) (h : SlR tVersionS w sv ss) (hs : zL tVersionS ss ≤ 1048576) (g : SlR tInt w vv xs) (hn : xs.length ≤ 1048576) (h1 : storeB ss now = false) :
  Calls Try.prog 15 #[.agg #[sv, .int .i64 now], .agg #[.int .i64 k, .int .i64 id, vv, .int .i64 f, .int .i64 x]] w (FreshNew w (applyB (ss, now) (k, (id, xs), f, x))) := by
 obtain ⟨a, cap, rfl⟩ := slR_len h
 obtain ⟨va, vc, rfl⟩ := slR_len g
 have hlen := zL_len hs
 have H := Lib.hid h
 have G := Lib.hid g
 have HC := Lib.hid (fun W h => specCopy (.slice a ss.length cap) ss now W h hs)
 have HIS := Lib.hid (fun W h => specIsStore (.slice a ss.length cap) ss now W h hs)
 have HIU := Lib.hid (fun W g => specIsUpdate k id f x (.slice va xs.length vc) xs W g hn)
 have HFI := Lib.hid (fun W h => specFind (.slice a ss.length cap) ss now id W h hs)
 have HRO := Lib.hid (fun W h => specRoom (.slice a ss.length cap) ss now W h hs)
 clear h g hs hn
 rw [apply_no (fun q => by have q1 : storeB ss now = true := q.1; rw [h1] at q1; cases q1)]
 rw [h1] at HIS
 clear h1
 have d := Lib.hid (show Below w.heap.size w (((w.alloc (.cells #[.slice a ss.length cap, .int .i64 now] 41)).alloc (.cells #[.int .i64 k, .int .i64 id, .slice va xs.length vc, .int .i64 f, .int .i64 x] 31)).alloc (.cells #[.slice none 0 0, .int .i64 0] 41)) from (((Below.refl _ _).alloc (Nat.le_refl _) _).alloc (by simp <;> omega) _).alloc (by simp <;> omega) _)
 have B0 : Hid ((((w.alloc (.cells #[.slice a ss.length cap, .int .i64 now] 41)).alloc (.cells #[.int .i64 k, .int .i64 id, .slice va xs.length vc, .int .i64 f, .int .i64 x] 31)).alloc (.cells #[.slice none 0 0, .int .i64 0] 41)).heap[w.heap.size]? = some (.cells #[.slice a ss.length cap, .int .i64 now] 41 (0, 0))) := Lib.hid (by
  rw [Below.heap_alloc _ _ _ (by simp <;> omega), Below.heap_alloc _ _ _ (by simp)]; exact heap_alloc_new w _)
 have B1 : Hid ((((w.alloc (.cells #[.slice a ss.length cap, .int .i64 now] 41)).alloc (.cells #[.int .i64 k, .int .i64 id, .slice va xs.length vc, .int .i64 f, .int .i64 x] 31)).alloc (.cells #[.slice none 0 0, .int .i64 0] 41)).heap[(w.heap.size + 1)]? = some (.cells #[.int .i64 k, .int .i64 id, .slice va xs.length vc, .int .i64 f, .int .i64 x] 31 (0, 0))) := Lib.hid (by
  rw [Below.heap_alloc _ _ _ (by simp)]
  have := heap_alloc_new (w.alloc (.cells #[.slice a ss.length cap, .int .i64 now] 41)) (.cells #[.int .i64 k, .int .i64 id, .slice va xs.length vc, .int .i64 f, .int .i64 x] 31)
  simpa only [World.size_alloc] using this)
 have BZ : Hid ((((w.alloc (.cells #[.slice a ss.length cap, .int .i64 now] 41)).alloc (.cells #[.int .i64 k, .int .i64 id, .slice va xs.length vc, .int .i64 f, .int .i64 x] 31)).alloc (.cells #[.slice none 0 0, .int .i64 0] 41)).heap[(w.heap.size + 2)]? = some (.cells #[.slice none 0 0, .int .i64 0] 41 (0, 0))) := Lib.hid (by
  have := heap_alloc_new ((w.alloc (.cells #[.slice a ss.length cap, .int .i64 now] 41)).alloc (.cells #[.int .i64 k, .int .i64 id, .slice va xs.length vc, .int .i64 f, .int .i64 x] 31)) (.cells #[.slice none 0 0, .int .i64 0] 41)
  simpa only [World.size_alloc] using this)
 have YW : Hid (w.heap.size + 2 < (((w.alloc (.cells #[.slice a ss.length cap, .int .i64 now] 41)).alloc (.cells #[.int .i64 k, .int .i64 id, .slice va xs.length vc, .int .i64 f, .int .i64 x] 31)).alloc (.cells #[.slice none 0 0, .int .i64 0] 41)).heap.size) := Lib.hid (by simp)
 go_enter Try.func15, Try.ntmps15
 go_wp2_with fail
 generalize (((w.alloc (.cells #[.slice a ss.length cap, .int .i64 now] 41)).alloc (.cells #[.int .i64 k, .int .i64 id, .slice va xs.length vc, .int .i64 f, .int .i64 x] 31)).alloc (.cells #[.slice none 0 0, .int .i64 0] 41)) = W at *
 refine (HC.out W (slR_below tVersionS_law H.out d.out)).mono ?_
 rintro e w4 ⟨cs, rfl, oc, c4⟩
 obtain ⟨fv, F4, rfl, of, q4⟩ := tStore_O (tStore_law.lt oc)
 obtain ⟨fa, fc, rfl⟩ := slO_len of
 have PF := Lib.hid (slO_mono of q4)
 replace B0 := Lib.hid ((c4.block w.heap.size (Array.getElem?_eq_some_iff.1 B0.out).1).trans B0.out)
 replace B1 := Lib.hid ((c4.block (w.heap.size + 1) (Array.getElem?_eq_some_iff.1 B1.out).1).trans B1.out)
 replace BZ := Lib.hid ((c4.block (w.heap.size + 2) (Array.getElem?_eq_some_iff.1 BZ.out).1).trans BZ.out)
 replace d := Lib.hid (d.out.trans (c4.mono d.out.size))
 have Z_w4 := Lib.hid (show W.heap.size ≤ w4.heap.size from c4.size)
 have QF := Lib.hid (fun q (h : since W q ∧ q < w4.heap.size) => (show W.heap.size ≤ q ∧ q < w4.heap.size from h))
 clear oc of q4 c4
 have hal : Below w4.heap.size w4 (w4.alloc (.cells #[.slice fa ss.length fc, .int .i64 now] 41)) := (Below.refl _ _).alloc (Nat.le_refl _) _
 have BX := Lib.hid (heap_alloc_new w4 (.cells #[.slice fa ss.length fc, .int .i64 now] 41))
 have Y_X := Lib.hid (show w4.heap.size < (w4.alloc (.cells #[.slice fa ss.length fc, .int .i64 now] 41)).heap.size by simp [World.size_alloc])
 replace B0 := Lib.hid ((hal.block w.heap.size (Array.getElem?_eq_some_iff.1 B0.out).1).trans B0.out)
 replace B1 := Lib.hid ((hal.block (w.heap.size + 1) (Array.getElem?_eq_some_iff.1 B1.out).1).trans B1.out)
 replace BZ := Lib.hid ((hal.block (w.heap.size + 2) (Array.getElem?_eq_some_iff.1 BZ.out).1).trans BZ.out)
 replace PF := Lib.hid (slO_fresh tVersionS_law PF.out hal)
 replace d := Lib.hid (d.out.trans (hal.mono d.out.size))
 clear hal
 have p_B0_0 := (cell_of_row (w4.alloc (.cells #[.slice fa ss.length fc, .int .i64 now] 41)) _ 0 _ _ _ B0.out).trans (show _ = some (Value.slice a ss.length cap) from rfl)
 have p_B0_1 := (cell_of_row (w4.alloc (.cells #[.slice fa ss.length fc, .int .i64 now] 41)) _ 1 _ _ _ B0.out).trans (show _ = some (Value.int .i64 now) from rfl)
 go_wp2_with fail
 clear p_B0_0 p_B0_1
 generalize w4.alloc (.cells #[.slice fa ss.length fc, .int .i64 now] 41) = w5 at *
 refine (HIS.out w5 (slR_below tVersionS_law H.out d.out)).mono ?_
 rintro e w6 ⟨rfl, cw6⟩
 replace B0 := Lib.hid ((cw6.block w.heap.size (Array.getElem?_eq_some_iff.1 B0.out).1).trans B0.out)
 replace B1 := Lib.hid ((cw6.block (w.heap.size + 1) (Array.getElem?_eq_some_iff.1 B1.out).1).trans B1.out)
 replace BZ := Lib.hid ((cw6.block (w.heap.size + 2) (Array.getElem?_eq_some_iff.1 BZ.out).1).trans BZ.out)
 replace BX := Lib.hid ((cw6.block w4.heap.size (Array.getElem?_eq_some_iff.1 BX.out).1).trans BX.out)
 replace PF := Lib.hid (slO_fresh tVersionS_law PF.out cw6)
 replace d := Lib.hid (d.out.trans (cw6.mono d.out.size))
 have Z_w6 := Lib.hid (show w5.heap.size ≤ w6.heap.size from cw6.size)
 clear cw6
 have p_BX_0 := (cell_of_row w6 _ 0 _ _ _ BX.out).trans (show _ = some (Value.slice fa ss.length fc) from rfl)
 have p_BX_1 := (cell_of_row w6 _ 1 _ _ _ BX.out).trans (show _ = some (Value.int .i64 now) from rfl)
 have p_BZ_0 := (cell_of_row w6 _ 0 _ _ _ BZ.out).trans (show _ = some (Value.slice none 0 0) from rfl)
 have p_BZ_1 := (cell_of_row w6 _ 1 _ _ _ BZ.out).trans (show _ = some (Value.int .i64 0) from rfl)
 have f_BZ_0 := frozen_of_row w6 _ 0 _ _ BZ.out
 have f_BZ_1 := frozen_of_row w6 _ 1 _ _ BZ.out
 have tt : Turn (fun q => q = w.heap.size + 2) w6 ((w6.setCell ⟨w.heap.size + 2, 0, none⟩ (.slice fa ss.length fc)).setCell ⟨w.heap.size + 2, 1, none⟩ (.int .i64 now)) := ((Turn.refl (fun q => q = w.heap.size + 2) _).trans (turn_set (G := fun q => q = w.heap.size + 2) (g := w.heap.size + 2) (j := 0) (u := .slice fa ss.length fc) rfl)).trans (turn_set (G := fun q => q = w.heap.size + 2) (g := w.heap.size + 2) (j := 1) (u := .int .i64 now) rfl)
 have r := heap_setCell_same _ (w.heap.size + 2) 1 _ _ (.int .i64 now) (heap_setCell_same w6 (w.heap.size + 2) 0 _ _ (.slice fa ss.length fc) BZ.out)
 have e0 := cell_of_row _ _ 0 _ _ _ r
 have e1 := cell_of_row _ _ 1 _ _ _ r
 simp at e0 e1
 have y0 := YW.out
 have y1 := Z_w4.out
 have y2 := Y_X.out
 have y3 := Z_w6.out
 have DF := Lib.hid (below_turn d.out tt (fun q h => by omega) d.out.size)
 have PE := Lib.hid (slO_turn tVersionS_law PF.out tt (fun q h1 h2 => by have r1 := QF.out q h1; omega))
 have QE := Lib.hid (fun q h => (show w.heap.size ≤ q by have r1 := QF.out q h; omega))
 clear tt r y0 y1 y2 y3
 go_wp2
 refine bodyPost_ret (v := .tuple #[.agg #[.slice fa ss.length fc, .int .i64 now], .bool false]) ?_ rfl ?_
 ·
  simp [results, Try.f15, go_sem, e0, e1]
 ·
  exact ⟨[.slice fa ss.length fc, .int .i64 now], _, rfl, tStore_mkO PE.out (fun q h => h), QE.out, DF.out⟩
set_option maxHeartbeats 32000000 in
set_option maxRecDepth 100000 in
theorem specApply_noUpd (k id f x now : Int) (sv vv : Value) (ss : List (List VerD)) (xs : List Int) (w : World) (h : SlR tVersionS w sv ss) (hs : zL tVersionS ss ≤ 1048576) (g : SlR tInt w vv xs) (hn : xs.length ≤ 1048576) (h1 : storeB ss now = true) (h2 : updB (k, (id, xs), f, x) = false) :
  Calls Try.prog 15 #[.agg #[sv, .int .i64 now], .agg #[.int .i64 k, .int .i64 id, vv, .int .i64 f, .int .i64 x]] w (FreshNew w (applyB (ss, now) (k, (id, xs), f, x))) := by
 obtain ⟨a, cap, rfl⟩ := slR_len h
 obtain ⟨va, vc, rfl⟩ := slR_len g
 have hlen := zL_len hs
 have H := Lib.hid h
 have G := Lib.hid g
 have HC := Lib.hid (fun W h => specCopy (.slice a ss.length cap) ss now W h hs)
 have HIS := Lib.hid (fun W h => specIsStore (.slice a ss.length cap) ss now W h hs)
 have HIU := Lib.hid (fun W g => specIsUpdate k id f x (.slice va xs.length vc) xs W g hn)
 have HFI := Lib.hid (fun W h => specFind (.slice a ss.length cap) ss now id W h hs)
 have HRO := Lib.hid (fun W h => specRoom (.slice a ss.length cap) ss now W h hs)
 clear h g hs hn
 rw [apply_no (fun q => by have q1 := q.2.1; rw [h2] at q1; cases q1)]
 rw [h1] at HIS
 rw [h2] at HIU
 clear h1 h2
 have d := Lib.hid (show Below w.heap.size w (((w.alloc (.cells #[.slice a ss.length cap, .int .i64 now] 41)).alloc (.cells #[.int .i64 k, .int .i64 id, .slice va xs.length vc, .int .i64 f, .int .i64 x] 31)).alloc (.cells #[.slice none 0 0, .int .i64 0] 41)) from (((Below.refl _ _).alloc (Nat.le_refl _) _).alloc (by simp <;> omega) _).alloc (by simp <;> omega) _)
 have B0 : Hid ((((w.alloc (.cells #[.slice a ss.length cap, .int .i64 now] 41)).alloc (.cells #[.int .i64 k, .int .i64 id, .slice va xs.length vc, .int .i64 f, .int .i64 x] 31)).alloc (.cells #[.slice none 0 0, .int .i64 0] 41)).heap[w.heap.size]? = some (.cells #[.slice a ss.length cap, .int .i64 now] 41 (0, 0))) := Lib.hid (by
  rw [Below.heap_alloc _ _ _ (by simp <;> omega), Below.heap_alloc _ _ _ (by simp)]; exact heap_alloc_new w _)
 have B1 : Hid ((((w.alloc (.cells #[.slice a ss.length cap, .int .i64 now] 41)).alloc (.cells #[.int .i64 k, .int .i64 id, .slice va xs.length vc, .int .i64 f, .int .i64 x] 31)).alloc (.cells #[.slice none 0 0, .int .i64 0] 41)).heap[(w.heap.size + 1)]? = some (.cells #[.int .i64 k, .int .i64 id, .slice va xs.length vc, .int .i64 f, .int .i64 x] 31 (0, 0))) := Lib.hid (by
  rw [Below.heap_alloc _ _ _ (by simp)]
  have := heap_alloc_new (w.alloc (.cells #[.slice a ss.length cap, .int .i64 now] 41)) (.cells #[.int .i64 k, .int .i64 id, .slice va xs.length vc, .int .i64 f, .int .i64 x] 31)
  simpa only [World.size_alloc] using this)
 have BZ : Hid ((((w.alloc (.cells #[.slice a ss.length cap, .int .i64 now] 41)).alloc (.cells #[.int .i64 k, .int .i64 id, .slice va xs.length vc, .int .i64 f, .int .i64 x] 31)).alloc (.cells #[.slice none 0 0, .int .i64 0] 41)).heap[(w.heap.size + 2)]? = some (.cells #[.slice none 0 0, .int .i64 0] 41 (0, 0))) := Lib.hid (by
  have := heap_alloc_new ((w.alloc (.cells #[.slice a ss.length cap, .int .i64 now] 41)).alloc (.cells #[.int .i64 k, .int .i64 id, .slice va xs.length vc, .int .i64 f, .int .i64 x] 31)) (.cells #[.slice none 0 0, .int .i64 0] 41)
  simpa only [World.size_alloc] using this)
 have YW : Hid (w.heap.size + 2 < (((w.alloc (.cells #[.slice a ss.length cap, .int .i64 now] 41)).alloc (.cells #[.int .i64 k, .int .i64 id, .slice va xs.length vc, .int .i64 f, .int .i64 x] 31)).alloc (.cells #[.slice none 0 0, .int .i64 0] 41)).heap.size) := Lib.hid (by simp)
 go_enter Try.func15, Try.ntmps15
 go_wp2_with fail
 generalize (((w.alloc (.cells #[.slice a ss.length cap, .int .i64 now] 41)).alloc (.cells #[.int .i64 k, .int .i64 id, .slice va xs.length vc, .int .i64 f, .int .i64 x] 31)).alloc (.cells #[.slice none 0 0, .int .i64 0] 41)) = W at *
 refine (HC.out W (slR_below tVersionS_law H.out d.out)).mono ?_
 rintro e w4 ⟨cs, rfl, oc, c4⟩
 obtain ⟨fv, F4, rfl, of, q4⟩ := tStore_O (tStore_law.lt oc)
 obtain ⟨fa, fc, rfl⟩ := slO_len of
 have PF := Lib.hid (slO_mono of q4)
 replace B0 := Lib.hid ((c4.block w.heap.size (Array.getElem?_eq_some_iff.1 B0.out).1).trans B0.out)
 replace B1 := Lib.hid ((c4.block (w.heap.size + 1) (Array.getElem?_eq_some_iff.1 B1.out).1).trans B1.out)
 replace BZ := Lib.hid ((c4.block (w.heap.size + 2) (Array.getElem?_eq_some_iff.1 BZ.out).1).trans BZ.out)
 replace d := Lib.hid (d.out.trans (c4.mono d.out.size))
 have Z_w4 := Lib.hid (show W.heap.size ≤ w4.heap.size from c4.size)
 have QF := Lib.hid (fun q (h : since W q ∧ q < w4.heap.size) => (show W.heap.size ≤ q ∧ q < w4.heap.size from h))
 clear oc of q4 c4
 have hal : Below w4.heap.size w4 (w4.alloc (.cells #[.slice fa ss.length fc, .int .i64 now] 41)) := (Below.refl _ _).alloc (Nat.le_refl _) _
 have BX := Lib.hid (heap_alloc_new w4 (.cells #[.slice fa ss.length fc, .int .i64 now] 41))
 have Y_X := Lib.hid (show w4.heap.size < (w4.alloc (.cells #[.slice fa ss.length fc, .int .i64 now] 41)).heap.size by simp [World.size_alloc])
 replace B0 := Lib.hid ((hal.block w.heap.size (Array.getElem?_eq_some_iff.1 B0.out).1).trans B0.out)
 replace B1 := Lib.hid ((hal.block (w.heap.size + 1) (Array.getElem?_eq_some_iff.1 B1.out).1).trans B1.out)
 replace BZ := Lib.hid ((hal.block (w.heap.size + 2) (Array.getElem?_eq_some_iff.1 BZ.out).1).trans BZ.out)
 replace PF := Lib.hid (slO_fresh tVersionS_law PF.out hal)
 replace d := Lib.hid (d.out.trans (hal.mono d.out.size))
 clear hal
 have p_B0_0 := (cell_of_row (w4.alloc (.cells #[.slice fa ss.length fc, .int .i64 now] 41)) _ 0 _ _ _ B0.out).trans (show _ = some (Value.slice a ss.length cap) from rfl)
 have p_B0_1 := (cell_of_row (w4.alloc (.cells #[.slice fa ss.length fc, .int .i64 now] 41)) _ 1 _ _ _ B0.out).trans (show _ = some (Value.int .i64 now) from rfl)
 go_wp2_with fail
 clear p_B0_0 p_B0_1
 generalize w4.alloc (.cells #[.slice fa ss.length fc, .int .i64 now] 41) = w5 at *
 refine (HIS.out w5 (slR_below tVersionS_law H.out d.out)).mono ?_
 rintro e w6 ⟨rfl, cw6⟩
 replace B0 := Lib.hid ((cw6.block w.heap.size (Array.getElem?_eq_some_iff.1 B0.out).1).trans B0.out)
 replace B1 := Lib.hid ((cw6.block (w.heap.size + 1) (Array.getElem?_eq_some_iff.1 B1.out).1).trans B1.out)
 replace BZ := Lib.hid ((cw6.block (w.heap.size + 2) (Array.getElem?_eq_some_iff.1 BZ.out).1).trans BZ.out)
 replace BX := Lib.hid ((cw6.block w4.heap.size (Array.getElem?_eq_some_iff.1 BX.out).1).trans BX.out)
 replace PF := Lib.hid (slO_fresh tVersionS_law PF.out cw6)
 replace d := Lib.hid (d.out.trans (cw6.mono d.out.size))
 have Z_w6 := Lib.hid (show w5.heap.size ≤ w6.heap.size from cw6.size)
 clear cw6
 have p_B1_0 := (cell_of_row w6 _ 0 _ _ _ B1.out).trans (show _ = some (Value.int .i64 k) from rfl)
 have p_B1_1 := (cell_of_row w6 _ 1 _ _ _ B1.out).trans (show _ = some (Value.int .i64 id) from rfl)
 have p_B1_2 := (cell_of_row w6 _ 2 _ _ _ B1.out).trans (show _ = some (Value.slice va xs.length vc) from rfl)
 have p_B1_3 := (cell_of_row w6 _ 3 _ _ _ B1.out).trans (show _ = some (Value.int .i64 f) from rfl)
 have p_B1_4 := (cell_of_row w6 _ 4 _ _ _ B1.out).trans (show _ = some (Value.int .i64 x) from rfl)
 go_wp2_with fail
 clear p_B1_0 p_B1_1 p_B1_2 p_B1_3 p_B1_4
 refine (HIU.out w6 (slR_ints (slR_below tInt_law G.out d.out))).mono ?_
 rintro e w7 ⟨rfl, cw7⟩
 replace B0 := Lib.hid ((cw7.block w.heap.size (Array.getElem?_eq_some_iff.1 B0.out).1).trans B0.out)
 replace B1 := Lib.hid ((cw7.block (w.heap.size + 1) (Array.getElem?_eq_some_iff.1 B1.out).1).trans B1.out)
 replace BZ := Lib.hid ((cw7.block (w.heap.size + 2) (Array.getElem?_eq_some_iff.1 BZ.out).1).trans BZ.out)
 replace BX := Lib.hid ((cw7.block w4.heap.size (Array.getElem?_eq_some_iff.1 BX.out).1).trans BX.out)
 replace PF := Lib.hid (slO_fresh tVersionS_law PF.out cw7)
 replace d := Lib.hid (d.out.trans (cw7.mono d.out.size))
 have Z_w7 := Lib.hid (show w6.heap.size ≤ w7.heap.size from cw7.size)
 clear cw7
 have p_BX_0 := (cell_of_row w7 _ 0 _ _ _ BX.out).trans (show _ = some (Value.slice fa ss.length fc) from rfl)
 have p_BX_1 := (cell_of_row w7 _ 1 _ _ _ BX.out).trans (show _ = some (Value.int .i64 now) from rfl)
 have p_BZ_0 := (cell_of_row w7 _ 0 _ _ _ BZ.out).trans (show _ = some (Value.slice none 0 0) from rfl)
 have p_BZ_1 := (cell_of_row w7 _ 1 _ _ _ BZ.out).trans (show _ = some (Value.int .i64 0) from rfl)
 have f_BZ_0 := frozen_of_row w7 _ 0 _ _ BZ.out
 have f_BZ_1 := frozen_of_row w7 _ 1 _ _ BZ.out
 have tt : Turn (fun q => q = w.heap.size + 2) w7 ((w7.setCell ⟨w.heap.size + 2, 0, none⟩ (.slice fa ss.length fc)).setCell ⟨w.heap.size + 2, 1, none⟩ (.int .i64 now)) := ((Turn.refl (fun q => q = w.heap.size + 2) _).trans (turn_set (G := fun q => q = w.heap.size + 2) (g := w.heap.size + 2) (j := 0) (u := .slice fa ss.length fc) rfl)).trans (turn_set (G := fun q => q = w.heap.size + 2) (g := w.heap.size + 2) (j := 1) (u := .int .i64 now) rfl)
 have r := heap_setCell_same _ (w.heap.size + 2) 1 _ _ (.int .i64 now) (heap_setCell_same w7 (w.heap.size + 2) 0 _ _ (.slice fa ss.length fc) BZ.out)
 have e0 := cell_of_row _ _ 0 _ _ _ r
 have e1 := cell_of_row _ _ 1 _ _ _ r
 simp at e0 e1
 have y0 := YW.out
 have y1 := Z_w4.out
 have y2 := Y_X.out
 have y3 := Z_w6.out
 have y4 := Z_w7.out
 have DF := Lib.hid (below_turn d.out tt (fun q h => by omega) d.out.size)
 have PE := Lib.hid (slO_turn tVersionS_law PF.out tt (fun q h1 h2 => by have r1 := QF.out q h1; omega))
 have QE := Lib.hid (fun q h => (show w.heap.size ≤ q by have r1 := QF.out q h; omega))
 clear tt r y0 y1 y2 y3 y4
 go_wp2
 refine bodyPost_ret (v := .tuple #[.agg #[.slice fa ss.length fc, .int .i64 now], .bool false]) ?_ rfl ?_
 ·
  simp [results, Try.f15, go_sem, e0, e1]
 ·
  exact ⟨[.slice fa ss.length fc, .int .i64 now], _, rfl, tStore_mkO PE.out (fun q h => h), QE.out, DF.out⟩
set_option maxHeartbeats 32000000 in
set_option maxRecDepth 100000 in
theorem specApply_noTime (k id f x now : Int) (sv vv : Value) (ss : List (List VerD)) (xs : List Int) (w : World) (h : SlR tVersionS w sv ss) (hs : zL tVersionS ss ≤ 1048576) (g : SlR tInt w vv xs) (hn : xs.length ≤ 1048576) (h1 : storeB ss now = true) (h2 : updB (k, (id, xs), f, x) = true) (h3 : ¬ now < 100000) :
  Calls Try.prog 15 #[.agg #[sv, .int .i64 now], .agg #[.int .i64 k, .int .i64 id, vv, .int .i64 f, .int .i64 x]] w (FreshNew w (applyB (ss, now) (k, (id, xs), f, x))) := by
 obtain ⟨a, cap, rfl⟩ := slR_len h
 obtain ⟨va, vc, rfl⟩ := slR_len g
 have hlen := zL_len hs
 have H := Lib.hid h
 have G := Lib.hid g
 have HC := Lib.hid (fun W h => specCopy (.slice a ss.length cap) ss now W h hs)
 have HIS := Lib.hid (fun W h => specIsStore (.slice a ss.length cap) ss now W h hs)
 have HIU := Lib.hid (fun W g => specIsUpdate k id f x (.slice va xs.length vc) xs W g hn)
 have HFI := Lib.hid (fun W h => specFind (.slice a ss.length cap) ss now id W h hs)
 have HRO := Lib.hid (fun W h => specRoom (.slice a ss.length cap) ss now W h hs)
 clear h g hs hn
 rw [apply_no (fun q => h3 q.2.2.1)]
 rw [h1] at HIS
 rw [h2] at HIU
 have h4 : decide (100000 ≤ now) = true := decide_eq_true (by omega)
 have h5 : (100000 : Int) ≤ now := by omega
 clear h1 h2 h3
 have d := Lib.hid (show Below w.heap.size w (((w.alloc (.cells #[.slice a ss.length cap, .int .i64 now] 41)).alloc (.cells #[.int .i64 k, .int .i64 id, .slice va xs.length vc, .int .i64 f, .int .i64 x] 31)).alloc (.cells #[.slice none 0 0, .int .i64 0] 41)) from (((Below.refl _ _).alloc (Nat.le_refl _) _).alloc (by simp <;> omega) _).alloc (by simp <;> omega) _)
 have B0 : Hid ((((w.alloc (.cells #[.slice a ss.length cap, .int .i64 now] 41)).alloc (.cells #[.int .i64 k, .int .i64 id, .slice va xs.length vc, .int .i64 f, .int .i64 x] 31)).alloc (.cells #[.slice none 0 0, .int .i64 0] 41)).heap[w.heap.size]? = some (.cells #[.slice a ss.length cap, .int .i64 now] 41 (0, 0))) := Lib.hid (by
  rw [Below.heap_alloc _ _ _ (by simp <;> omega), Below.heap_alloc _ _ _ (by simp)]; exact heap_alloc_new w _)
 have B1 : Hid ((((w.alloc (.cells #[.slice a ss.length cap, .int .i64 now] 41)).alloc (.cells #[.int .i64 k, .int .i64 id, .slice va xs.length vc, .int .i64 f, .int .i64 x] 31)).alloc (.cells #[.slice none 0 0, .int .i64 0] 41)).heap[(w.heap.size + 1)]? = some (.cells #[.int .i64 k, .int .i64 id, .slice va xs.length vc, .int .i64 f, .int .i64 x] 31 (0, 0))) := Lib.hid (by
  rw [Below.heap_alloc _ _ _ (by simp)]
  have := heap_alloc_new (w.alloc (.cells #[.slice a ss.length cap, .int .i64 now] 41)) (.cells #[.int .i64 k, .int .i64 id, .slice va xs.length vc, .int .i64 f, .int .i64 x] 31)
  simpa only [World.size_alloc] using this)
 have BZ : Hid ((((w.alloc (.cells #[.slice a ss.length cap, .int .i64 now] 41)).alloc (.cells #[.int .i64 k, .int .i64 id, .slice va xs.length vc, .int .i64 f, .int .i64 x] 31)).alloc (.cells #[.slice none 0 0, .int .i64 0] 41)).heap[(w.heap.size + 2)]? = some (.cells #[.slice none 0 0, .int .i64 0] 41 (0, 0))) := Lib.hid (by
  have := heap_alloc_new ((w.alloc (.cells #[.slice a ss.length cap, .int .i64 now] 41)).alloc (.cells #[.int .i64 k, .int .i64 id, .slice va xs.length vc, .int .i64 f, .int .i64 x] 31)) (.cells #[.slice none 0 0, .int .i64 0] 41)
  simpa only [World.size_alloc] using this)
 have YW : Hid (w.heap.size + 2 < (((w.alloc (.cells #[.slice a ss.length cap, .int .i64 now] 41)).alloc (.cells #[.int .i64 k, .int .i64 id, .slice va xs.length vc, .int .i64 f, .int .i64 x] 31)).alloc (.cells #[.slice none 0 0, .int .i64 0] 41)).heap.size) := Lib.hid (by simp)
 go_enter Try.func15, Try.ntmps15
 go_wp2_with fail
 generalize (((w.alloc (.cells #[.slice a ss.length cap, .int .i64 now] 41)).alloc (.cells #[.int .i64 k, .int .i64 id, .slice va xs.length vc, .int .i64 f, .int .i64 x] 31)).alloc (.cells #[.slice none 0 0, .int .i64 0] 41)) = W at *
 refine (HC.out W (slR_below tVersionS_law H.out d.out)).mono ?_
 rintro e w4 ⟨cs, rfl, oc, c4⟩
 obtain ⟨fv, F4, rfl, of, q4⟩ := tStore_O (tStore_law.lt oc)
 obtain ⟨fa, fc, rfl⟩ := slO_len of
 have PF := Lib.hid (slO_mono of q4)
 replace B0 := Lib.hid ((c4.block w.heap.size (Array.getElem?_eq_some_iff.1 B0.out).1).trans B0.out)
 replace B1 := Lib.hid ((c4.block (w.heap.size + 1) (Array.getElem?_eq_some_iff.1 B1.out).1).trans B1.out)
 replace BZ := Lib.hid ((c4.block (w.heap.size + 2) (Array.getElem?_eq_some_iff.1 BZ.out).1).trans BZ.out)
 replace d := Lib.hid (d.out.trans (c4.mono d.out.size))
 have Z_w4 := Lib.hid (show W.heap.size ≤ w4.heap.size from c4.size)
 have QF := Lib.hid (fun q (h : since W q ∧ q < w4.heap.size) => (show W.heap.size ≤ q ∧ q < w4.heap.size from h))
 clear oc of q4 c4
 have hal : Below w4.heap.size w4 (w4.alloc (.cells #[.slice fa ss.length fc, .int .i64 now] 41)) := (Below.refl _ _).alloc (Nat.le_refl _) _
 have BX := Lib.hid (heap_alloc_new w4 (.cells #[.slice fa ss.length fc, .int .i64 now] 41))
 have Y_X := Lib.hid (show w4.heap.size < (w4.alloc (.cells #[.slice fa ss.length fc, .int .i64 now] 41)).heap.size by simp [World.size_alloc])
 replace B0 := Lib.hid ((hal.block w.heap.size (Array.getElem?_eq_some_iff.1 B0.out).1).trans B0.out)
 replace B1 := Lib.hid ((hal.block (w.heap.size + 1) (Array.getElem?_eq_some_iff.1 B1.out).1).trans B1.out)
 replace BZ := Lib.hid ((hal.block (w.heap.size + 2) (Array.getElem?_eq_some_iff.1 BZ.out).1).trans BZ.out)
 replace PF := Lib.hid (slO_fresh tVersionS_law PF.out hal)
 replace d := Lib.hid (d.out.trans (hal.mono d.out.size))
 clear hal
 have p_B0_0 := (cell_of_row (w4.alloc (.cells #[.slice fa ss.length fc, .int .i64 now] 41)) _ 0 _ _ _ B0.out).trans (show _ = some (Value.slice a ss.length cap) from rfl)
 have p_B0_1 := (cell_of_row (w4.alloc (.cells #[.slice fa ss.length fc, .int .i64 now] 41)) _ 1 _ _ _ B0.out).trans (show _ = some (Value.int .i64 now) from rfl)
 go_wp2_with fail
 clear p_B0_0 p_B0_1
 generalize w4.alloc (.cells #[.slice fa ss.length fc, .int .i64 now] 41) = w5 at *
 refine (HIS.out w5 (slR_below tVersionS_law H.out d.out)).mono ?_
 rintro e w6 ⟨rfl, cw6⟩
 replace B0 := Lib.hid ((cw6.block w.heap.size (Array.getElem?_eq_some_iff.1 B0.out).1).trans B0.out)
 replace B1 := Lib.hid ((cw6.block (w.heap.size + 1) (Array.getElem?_eq_some_iff.1 B1.out).1).trans B1.out)
 replace BZ := Lib.hid ((cw6.block (w.heap.size + 2) (Array.getElem?_eq_some_iff.1 BZ.out).1).trans BZ.out)
 replace BX := Lib.hid ((cw6.block w4.heap.size (Array.getElem?_eq_some_iff.1 BX.out).1).trans BX.out)
 replace PF := Lib.hid (slO_fresh tVersionS_law PF.out cw6)
 replace d := Lib.hid (d.out.trans (cw6.mono d.out.size))
 have Z_w6 := Lib.hid (show w5.heap.size ≤ w6.heap.size from cw6.size)
 clear cw6
 have p_B1_0 := (cell_of_row w6 _ 0 _ _ _ B1.out).trans (show _ = some (Value.int .i64 k) from rfl)
 have p_B1_1 := (cell_of_row w6 _ 1 _ _ _ B1.out).trans (show _ = some (Value.int .i64 id) from rfl)
 have p_B1_2 := (cell_of_row w6 _ 2 _ _ _ B1.out).trans (show _ = some (Value.slice va xs.length vc) from rfl)
 have p_B1_3 := (cell_of_row w6 _ 3 _ _ _ B1.out).trans (show _ = some (Value.int .i64 f) from rfl)
 have p_B1_4 := (cell_of_row w6 _ 4 _ _ _ B1.out).trans (show _ = some (Value.int .i64 x) from rfl)
 go_wp2_with fail
 clear p_B1_0 p_B1_1 p_B1_2 p_B1_3 p_B1_4
 refine (HIU.out w6 (slR_ints (slR_below tInt_law G.out d.out))).mono ?_
 rintro e w7 ⟨rfl, cw7⟩
 replace B0 := Lib.hid ((cw7.block w.heap.size (Array.getElem?_eq_some_iff.1 B0.out).1).trans B0.out)
 replace B1 := Lib.hid ((cw7.block (w.heap.size + 1) (Array.getElem?_eq_some_iff.1 B1.out).1).trans B1.out)
 replace BZ := Lib.hid ((cw7.block (w.heap.size + 2) (Array.getElem?_eq_some_iff.1 BZ.out).1).trans BZ.out)
 replace BX := Lib.hid ((cw7.block w4.heap.size (Array.getElem?_eq_some_iff.1 BX.out).1).trans BX.out)
 replace PF := Lib.hid (slO_fresh tVersionS_law PF.out cw7)
 replace d := Lib.hid (d.out.trans (cw7.mono d.out.size))
 have Z_w7 := Lib.hid (show w6.heap.size ≤ w7.heap.size from cw7.size)
 clear cw7
 have p_B0_0 := (cell_of_row w7 _ 0 _ _ _ B0.out).trans (show _ = some (Value.slice a ss.length cap) from rfl)
 have p_B0_1 := (cell_of_row w7 _ 1 _ _ _ B0.out).trans (show _ = some (Value.int .i64 now) from rfl)
 have p_BX_0 := (cell_of_row w7 _ 0 _ _ _ BX.out).trans (show _ = some (Value.slice fa ss.length fc) from rfl)
 have p_BX_1 := (cell_of_row w7 _ 1 _ _ _ BX.out).trans (show _ = some (Value.int .i64 now) from rfl)
 have p_BZ_0 := (cell_of_row w7 _ 0 _ _ _ BZ.out).trans (show _ = some (Value.slice none 0 0) from rfl)
 have p_BZ_1 := (cell_of_row w7 _ 1 _ _ _ BZ.out).trans (show _ = some (Value.int .i64 0) from rfl)
 have f_BZ_0 := frozen_of_row w7 _ 0 _ _ BZ.out
 have f_BZ_1 := frozen_of_row w7 _ 1 _ _ BZ.out
 have tt : Turn (fun q => q = w.heap.size + 2) w7 ((w7.setCell ⟨w.heap.size + 2, 0, none⟩ (.slice fa ss.length fc)).setCell ⟨w.heap.size + 2, 1, none⟩ (.int .i64 now)) := ((Turn.refl (fun q => q = w.heap.size + 2) _).trans (turn_set (G := fun q => q = w.heap.size + 2) (g := w.heap.size + 2) (j := 0) (u := .slice fa ss.length fc) rfl)).trans (turn_set (G := fun q => q = w.heap.size + 2) (g := w.heap.size + 2) (j := 1) (u := .int .i64 now) rfl)
 have r := heap_setCell_same _ (w.heap.size + 2) 1 _ _ (.int .i64 now) (heap_setCell_same w7 (w.heap.size + 2) 0 _ _ (.slice fa ss.length fc) BZ.out)
 have e0 := cell_of_row _ _ 0 _ _ _ r
 have e1 := cell_of_row _ _ 1 _ _ _ r
 simp at e0 e1
 have y0 := YW.out
 have y1 := Z_w4.out
 have y2 := Y_X.out
 have y3 := Z_w6.out
 have y4 := Z_w7.out
 have DF := Lib.hid (below_turn d.out tt (fun q h => by omega) d.out.size)
 have PE := Lib.hid (slO_turn tVersionS_law PF.out tt (fun q h1 h2 => by have r1 := QF.out q h1; omega))
 have QE := Lib.hid (fun q h => (show w.heap.size ≤ q by have r1 := QF.out q h; omega))
 clear tt r y0 y1 y2 y3 y4
 go_wp2
 refine bodyPost_ret (v := .tuple #[.agg #[.slice fa ss.length fc, .int .i64 now], .bool false]) ?_ rfl ?_
 ·
  simp [results, Try.f15, go_sem, e0, e1]
 ·
  exact ⟨[.slice fa ss.length fc, .int .i64 now], _, rfl, tStore_mkO PE.out (fun q h => h), QE.out, DF.out⟩
set_option maxHeartbeats 32000000 in
set_option maxRecDepth 100000 in
theorem specApply_insThere (id f x now : Int) (sv vv : Value) (ss : List (List VerD)) (xs : List Int) (w : World) (h : SlR tVersionS w sv ss) (hs : zL tVersionS ss ≤ 1048576) (g : SlR tInt w vv xs) (hn : xs.length ≤ 1048576) (h1 : storeB ss now = true) (h2 : updB (1, (id, xs), f, x) = true) (h3 : now < 100000) (hsg : segI ss id < ss.length) :
  Calls Try.prog 15 #[.agg #[sv, .int .i64 now], .agg #[.int .i64 1, .int .i64 id, vv, .int .i64 f, .int .i64 x]] w (FreshNew w (applyB (ss, now) (1, (id, xs), f, x))) := by
 obtain ⟨a, cap, rfl⟩ := slR_len h
 obtain ⟨va, vc, rfl⟩ := slR_len g
 have hlen := zL_len hs
 have H := Lib.hid h
 have G := Lib.hid g
 have HC := Lib.hid (fun W h => specCopy (.slice a ss.length cap) ss now W h hs)
 have HIS := Lib.hid (fun W h => specIsStore (.slice a ss.length cap) ss now W h hs)
 have HIU := Lib.hid (fun W g => specIsUpdate 1 id f x (.slice va xs.length vc) xs W g hn)
 have HFI := Lib.hid (fun W h => specFind (.slice a ss.length cap) ss now id W h hs)
 have HRO := Lib.hid (fun W h => specRoom (.slice a ss.length cap) ss now W h hs)
 clear h g hs hn
 rw [apply_no (fun q => (q.2.2.2.1.1 rfl) hsg)]
 rw [h1] at HIS
 rw [h2] at HIU
 have h4 : decide (100000 ≤ now) = false := decide_eq_false (by omega)
 have h5 : ¬ (100000 : Int) ≤ now := by omega
 have HS1 : idxI ss.length (segI ss id) = (segI ss id : Int) := if_pos hsg
 have HS2 : fndJ ss id = (verI (ss.getD (segI ss id) []) id : Int) := if_pos hsg
 rw [HS1, HS2] at HFI
 have i0 : ¬ (segI ss id : Int) < 0 := by omega
 have i1 : decide ((segI ss id : Int) < 0) = false := decide_eq_false (by omega)
 have i2 : (0 : Int) ≤ (segI ss id : Int) := by omega
 clear h1 h2 h3 HS1 HS2 hsg
 have d := Lib.hid (show Below w.heap.size w (((w.alloc (.cells #[.slice a ss.length cap, .int .i64 now] 41)).alloc (.cells #[.int .i64 1, .int .i64 id, .slice va xs.length vc, .int .i64 f, .int .i64 x] 31)).alloc (.cells #[.slice none 0 0, .int .i64 0] 41)) from (((Below.refl _ _).alloc (Nat.le_refl _) _).alloc (by simp <;> omega) _).alloc (by simp <;> omega) _)
 have B0 : Hid ((((w.alloc (.cells #[.slice a ss.length cap, .int .i64 now] 41)).alloc (.cells #[.int .i64 1, .int .i64 id, .slice va xs.length vc, .int .i64 f, .int .i64 x] 31)).alloc (.cells #[.slice none 0 0, .int .i64 0] 41)).heap[w.heap.size]? = some (.cells #[.slice a ss.length cap, .int .i64 now] 41 (0, 0))) := Lib.hid (by
  rw [Below.heap_alloc _ _ _ (by simp <;> omega), Below.heap_alloc _ _ _ (by simp)]; exact heap_alloc_new w _)
 have B1 : Hid ((((w.alloc (.cells #[.slice a ss.length cap, .int .i64 now] 41)).alloc (.cells #[.int .i64 1, .int .i64 id, .slice va xs.length vc, .int .i64 f, .int .i64 x] 31)).alloc (.cells #[.slice none 0 0, .int .i64 0] 41)).heap[(w.heap.size + 1)]? = some (.cells #[.int .i64 1, .int .i64 id, .slice va xs.length vc, .int .i64 f, .int .i64 x] 31 (0, 0))) := Lib.hid (by
  rw [Below.heap_alloc _ _ _ (by simp)]
  have := heap_alloc_new (w.alloc (.cells #[.slice a ss.length cap, .int .i64 now] 41)) (.cells #[.int .i64 1, .int .i64 id, .slice va xs.length vc, .int .i64 f, .int .i64 x] 31)
  simpa only [World.size_alloc] using this)
 have BZ : Hid ((((w.alloc (.cells #[.slice a ss.length cap, .int .i64 now] 41)).alloc (.cells #[.int .i64 1, .int .i64 id, .slice va xs.length vc, .int .i64 f, .int .i64 x] 31)).alloc (.cells #[.slice none 0 0, .int .i64 0] 41)).heap[(w.heap.size + 2)]? = some (.cells #[.slice none 0 0, .int .i64 0] 41 (0, 0))) := Lib.hid (by
  have := heap_alloc_new ((w.alloc (.cells #[.slice a ss.length cap, .int .i64 now] 41)).alloc (.cells #[.int .i64 1, .int .i64 id, .slice va xs.length vc, .int .i64 f, .int .i64 x] 31)) (.cells #[.slice none 0 0, .int .i64 0] 41)
  simpa only [World.size_alloc] using this)
 have YW : Hid (w.heap.size + 2 < (((w.alloc (.cells #[.slice a ss.length cap, .int .i64 now] 41)).alloc (.cells #[.int .i64 1, .int .i64 id, .slice va xs.length vc, .int .i64 f, .int .i64 x] 31)).alloc (.cells #[.slice none 0 0, .int .i64 0] 41)).heap.size) := Lib.hid (by simp)
 go_enter Try.func15, Try.ntmps15
 go_wp2_with fail
 generalize (((w.alloc (.cells #[.slice a ss.length cap, .int .i64 now] 41)).alloc (.cells #[.int .i64 1, .int .i64 id, .slice va xs.length vc, .int .i64 f, .int .i64 x] 31)).alloc (.cells #[.slice none 0 0, .int .i64 0] 41)) = W at *
 refine (HC.out W (slR_below tVersionS_law H.out d.out)).mono ?_
 rintro e w4 ⟨cs, rfl, oc, c4⟩
 obtain ⟨fv, F4, rfl, of, q4⟩ := tStore_O (tStore_law.lt oc)
 obtain ⟨fa, fc, rfl⟩ := slO_len of
 have PF := Lib.hid (slO_mono of q4)
 replace B0 := Lib.hid ((c4.block w.heap.size (Array.getElem?_eq_some_iff.1 B0.out).1).trans B0.out)
 replace B1 := Lib.hid ((c4.block (w.heap.size + 1) (Array.getElem?_eq_some_iff.1 B1.out).1).trans B1.out)
 replace BZ := Lib.hid ((c4.block (w.heap.size + 2) (Array.getElem?_eq_some_iff.1 BZ.out).1).trans BZ.out)
 replace d := Lib.hid (d.out.trans (c4.mono d.out.size))
 have Z_w4 := Lib.hid (show W.heap.size ≤ w4.heap.size from c4.size)
 have QF := Lib.hid (fun q (h : since W q ∧ q < w4.heap.size) => (show W.heap.size ≤ q ∧ q < w4.heap.size from h))
 clear oc of q4 c4
 have hal : Below w4.heap.size w4 (w4.alloc (.cells #[.slice fa ss.length fc, .int .i64 now] 41)) := (Below.refl _ _).alloc (Nat.le_refl _) _
 have BX := Lib.hid (heap_alloc_new w4 (.cells #[.slice fa ss.length fc, .int .i64 now] 41))
 have Y_X := Lib.hid (show w4.heap.size < (w4.alloc (.cells #[.slice fa ss.length fc, .int .i64 now] 41)).heap.size by simp [World.size_alloc])
 replace B0 := Lib.hid ((hal.block w.heap.size (Array.getElem?_eq_some_iff.1 B0.out).1).trans B0.out)
 replace B1 := Lib.hid ((hal.block (w.heap.size + 1) (Array.getElem?_eq_some_iff.1 B1.out).1).trans B1.out)
 replace BZ := Lib.hid ((hal.block (w.heap.size + 2) (Array.getElem?_eq_some_iff.1 BZ.out).1).trans BZ.out)
 replace PF := Lib.hid (slO_fresh tVersionS_law PF.out hal)
 replace d := Lib.hid (d.out.trans (hal.mono d.out.size))
 clear hal
 have p_B0_0 := (cell_of_row (w4.alloc (.cells #[.slice fa ss.length fc, .int .i64 now] 41)) _ 0 _ _ _ B0.out).trans (show _ = some (Value.slice a ss.length cap) from rfl)
 have p_B0_1 := (cell_of_row (w4.alloc (.cells #[.slice fa ss.length fc, .int .i64 now] 41)) _ 1 _ _ _ B0.out).trans (show _ = some (Value.int .i64 now) from rfl)
 go_wp2_with fail
 clear p_B0_0 p_B0_1
 generalize w4.alloc (.cells #[.slice fa ss.length fc, .int .i64 now] 41) = w5 at *
 refine (HIS.out w5 (slR_below tVersionS_law H.out d.out)).mono ?_
 rintro e w6 ⟨rfl, cw6⟩
 replace B0 := Lib.hid ((cw6.block w.heap.size (Array.getElem?_eq_some_iff.1 B0.out).1).trans B0.out)
 replace B1 := Lib.hid ((cw6.block (w.heap.size + 1) (Array.getElem?_eq_some_iff.1 B1.out).1).trans B1.out)
 replace BZ := Lib.hid ((cw6.block (w.heap.size + 2) (Array.getElem?_eq_some_iff.1 BZ.out).1).trans BZ.out)
 replace BX := Lib.hid ((cw6.block w4.heap.size (Array.getElem?_eq_some_iff.1 BX.out).1).trans BX.out)
 replace PF := Lib.hid (slO_fresh tVersionS_law PF.out cw6)
 replace d := Lib.hid (d.out.trans (cw6.mono d.out.size))
 have Z_w6 := Lib.hid (show w5.heap.size ≤ w6.heap.size from cw6.size)
 clear cw6
 have p_B1_0 := (cell_of_row w6 _ 0 _ _ _ B1.out).trans (show _ = some (Value.int .i64 1) from rfl)
 have p_B1_1 := (cell_of_row w6 _ 1 _ _ _ B1.out).trans (show _ = some (Value.int .i64 id) from rfl)
 have p_B1_2 := (cell_of_row w6 _ 2 _ _ _ B1.out).trans (show _ = some (Value.slice va xs.length vc) from rfl)
 have p_B1_3 := (cell_of_row w6 _ 3 _ _ _ B1.out).trans (show _ = some (Value.int .i64 f) from rfl)
 have p_B1_4 := (cell_of_row w6 _ 4 _ _ _ B1.out).trans (show _ = some (Value.int .i64 x) from rfl)
 go_wp2_with fail
 clear p_B1_0 p_B1_1 p_B1_2 p_B1_3 p_B1_4
 refine (HIU.out w6 (slR_ints (slR_below tInt_law G.out d.out))).mono ?_
 rintro e w7 ⟨rfl, cw7⟩
 replace B0 := Lib.hid ((cw7.block w.heap.size (Array.getElem?_eq_some_iff.1 B0.out).1).trans B0.out)
 replace B1 := Lib.hid ((cw7.block (w.heap.size + 1) (Array.getElem?_eq_some_iff.1 B1.out).1).trans B1.out)
 replace BZ := Lib.hid ((cw7.block (w.heap.size + 2) (Array.getElem?_eq_some_iff.1 BZ.out).1).trans BZ.out)
 replace BX := Lib.hid ((cw7.block w4.heap.size (Array.getElem?_eq_some_iff.1 BX.out).1).trans BX.out)
 replace PF := Lib.hid (slO_fresh tVersionS_law PF.out cw7)
 replace d := Lib.hid (d.out.trans (cw7.mono d.out.size))
 have Z_w7 := Lib.hid (show w6.heap.size ≤ w7.heap.size from cw7.size)
 clear cw7
 have p_B0_0 := (cell_of_row w7 _ 0 _ _ _ B0.out).trans (show _ = some (Value.slice a ss.length cap) from rfl)
 have p_B0_1 := (cell_of_row w7 _ 1 _ _ _ B0.out).trans (show _ = some (Value.int .i64 now) from rfl)
 have p_B1_0 := (cell_of_row w7 _ 0 _ _ _ B1.out).trans (show _ = some (Value.int .i64 1) from rfl)
 have p_B1_1 := (cell_of_row w7 _ 1 _ _ _ B1.out).trans (show _ = some (Value.int .i64 id) from rfl)
 have p_B1_2 := (cell_of_row w7 _ 2 _ _ _ B1.out).trans (show _ = some (Value.slice va xs.length vc) from rfl)
 have p_B1_3 := (cell_of_row w7 _ 3 _ _ _ B1.out).trans (show _ = some (Value.int .i64 f) from rfl)
 have p_B1_4 := (cell_of_row w7 _ 4 _ _ _ B1.out).trans (show _ = some (Value.int .i64 x) from rfl)
 go_wp2_with fail
 clear p_B0_0 p_B0_1 p_B1_0 p_B1_1 p_B1_2 p_B1_3 p_B1_4
 refine (HFI.out w7 (slR_below tVersionS_law H.out d.out)).mono ?_
 rintro e w8 ⟨rfl, cw8⟩
 replace B0 := Lib.hid ((cw8.block w.heap.size (Array.getElem?_eq_some_iff.1 B0.out).1).trans B0.out)
 replace B1 := Lib.hid ((cw8.block (w.heap.size + 1) (Array.getElem?_eq_some_iff.1 B1.out).1).trans B1.out)
 replace BZ := Lib.hid ((cw8.block (w.heap.size + 2) (Array.getElem?_eq_some_iff.1 BZ.out).1).trans BZ.out)
 replace BX := Lib.hid ((cw8.block w4.heap.size (Array.getElem?_eq_some_iff.1 BX.out).1).trans BX.out)
 replace PF := Lib.hid (slO_fresh tVersionS_law PF.out cw8)
 replace d := Lib.hid (d.out.trans (cw8.mono d.out.size))
 have Z_w8 := Lib.hid (show w7.heap.size ≤ w8.heap.size from cw8.size)
 clear cw8
 have p_B0_0 := (cell_of_row w8 _ 0 _ _ _ B0.out).trans (show _ = some (Value.slice a ss.length cap) from rfl)
 have p_B0_1 := (cell_of_row w8 _ 1 _ _ _ B0.out).trans (show _ = some (Value.int .i64 now) from rfl)
 go_wp2_with fail
 clear p_B0_0 p_B0_1
 refine (HRO.out w8 (slR_below tVersionS_law H.out d.out)).mono ?_
 rintro e w9 ⟨rfl, cw9⟩
 replace B0 := Lib.hid ((cw9.block w.heap.size (Array.getElem?_eq_some_iff.1 B0.out).1).trans B0.out)
 replace B1 := Lib.hid ((cw9.block (w.heap.size + 1) (Array.getElem?_eq_some_iff.1 B1.out).1).trans B1.out)
 replace BZ := Lib.hid ((cw9.block (w.heap.size + 2) (Array.getElem?_eq_some_iff.1 BZ.out).1).trans BZ.out)
 replace BX := Lib.hid ((cw9.block w4.heap.size (Array.getElem?_eq_some_iff.1 BX.out).1).trans BX.out)
 replace PF := Lib.hid (slO_fresh tVersionS_law PF.out cw9)
 replace d := Lib.hid (d.out.trans (cw9.mono d.out.size))
 have Z_w9 := Lib.hid (show w8.heap.size ≤ w9.heap.size from cw9.size)
 clear cw9
 have p_B1_0 := (cell_of_row w9 _ 0 _ _ _ B1.out).trans (show _ = some (Value.int .i64 1) from rfl)
 have p_B1_1 := (cell_of_row w9 _ 1 _ _ _ B1.out).trans (show _ = some (Value.int .i64 id) from rfl)
 have p_B1_2 := (cell_of_row w9 _ 2 _ _ _ B1.out).trans (show _ = some (Value.slice va xs.length vc) from rfl)
 have p_B1_3 := (cell_of_row w9 _ 3 _ _ _ B1.out).trans (show _ = some (Value.int .i64 f) from rfl)
 have p_B1_4 := (cell_of_row w9 _ 4 _ _ _ B1.out).trans (show _ = some (Value.int .i64 x) from rfl)
 have p_BX_0 := (cell_of_row w9 _ 0 _ _ _ BX.out).trans (show _ = some (Value.slice fa ss.length fc) from rfl)
 have p_BX_1 := (cell_of_row w9 _ 1 _ _ _ BX.out).trans (show _ = some (Value.int .i64 now) from rfl)
 have p_BZ_0 := (cell_of_row w9 _ 0 _ _ _ BZ.out).trans (show _ = some (Value.slice none 0 0) from rfl)
 have p_BZ_1 := (cell_of_row w9 _ 1 _ _ _ BZ.out).trans (show _ = some (Value.int .i64 0) from rfl)
 have f_BZ_0 := frozen_of_row w9 _ 0 _ _ BZ.out
 have f_BZ_1 := frozen_of_row w9 _ 1 _ _ BZ.out
 have tt : Turn (fun q => q = w.heap.size + 2) w9 ((w9.setCell ⟨w.heap.size + 2, 0, none⟩ (.slice fa ss.length fc)).setCell ⟨w.heap.size + 2, 1, none⟩ (.int .i64 now)) := ((Turn.refl (fun q => q = w.heap.size + 2) _).trans (turn_set (G := fun q => q = w.heap.size + 2) (g := w.heap.size + 2) (j := 0) (u := .slice fa ss.length fc) rfl)).trans (turn_set (G := fun q => q = w.heap.size + 2) (g := w.heap.size + 2) (j := 1) (u := .int .i64 now) rfl)
 have r := heap_setCell_same _ (w.heap.size + 2) 1 _ _ (.int .i64 now) (heap_setCell_same w9 (w.heap.size + 2) 0 _ _ (.slice fa ss.length fc) BZ.out)
 have e0 := cell_of_row _ _ 0 _ _ _ r
 have e1 := cell_of_row _ _ 1 _ _ _ r
 simp at e0 e1
 have y0 := YW.out
 have y1 := Z_w4.out
 have y2 := Y_X.out
 have y3 := Z_w6.out
 have y4 := Z_w7.out
 have y5 := Z_w8.out
 have y6 := Z_w9.out
 have DF := Lib.hid (below_turn d.out tt (fun q h => by omega) d.out.size)
 have PE := Lib.hid (slO_turn tVersionS_law PF.out tt (fun q h1 h2 => by have r1 := QF.out q h1; omega))
 have QE := Lib.hid (fun q h => (show w.heap.size ≤ q by have r1 := QF.out q h; omega))
 clear tt r y0 y1 y2 y3 y4 y5 y6
 go_wp2
 refine bodyPost_ret (v := .tuple #[.agg #[.slice fa ss.length fc, .int .i64 now], .bool false]) ?_ rfl ?_
 ·
  simp [results, Try.f15, go_sem, e0, e1]
 ·
  exact ⟨[.slice fa ss.length fc, .int .i64 now], _, rfl, tStore_mkO PE.out (fun q h => h), QE.out, DF.out⟩
set_option maxHeartbeats 32000000 in
set_option maxRecDepth 100000 in
theorem specApply_insFull (id f x now : Int) (sv vv : Value) (ss : List (List VerD)) (xs : List Int) (w : World) (h : SlR tVersionS w sv ss) (hs : zL tVersionS ss ≤ 1048576) (g : SlR tInt w vv xs) (hn : xs.length ≤ 1048576) (h1 : storeB ss now = true) (h2 : updB (1, (id, xs), f, x) = true) (h3 : now < 100000) (hsg : ¬ segI ss id < ss.length) (hrm : ¬ roomI ss < ss.length) :
  Calls Try.prog 15 #[.agg #[sv, .int .i64 now], .agg #[.int .i64 1, .int .i64 id, vv, .int .i64 f, .int .i64 x]] w (FreshNew w (applyB (ss, now) (1, (id, xs), f, x))) := by
 obtain ⟨a, cap, rfl⟩ := slR_len h
 obtain ⟨va, vc, rfl⟩ := slR_len g
 have hlen := zL_len hs
 have H := Lib.hid h
 have G := Lib.hid g
 have HC := Lib.hid (fun W h => specCopy (.slice a ss.length cap) ss now W h hs)
 have HIS := Lib.hid (fun W h => specIsStore (.slice a ss.length cap) ss now W h hs)
 have HIU := Lib.hid (fun W g => specIsUpdate 1 id f x (.slice va xs.length vc) xs W g hn)
 have HFI := Lib.hid (fun W h => specFind (.slice a ss.length cap) ss now id W h hs)
 have HRO := Lib.hid (fun W h => specRoom (.slice a ss.length cap) ss now W h hs)
 clear h g hs hn
 rw [apply_no (fun q => hrm (q.2.2.2.2 (show (1 : Int) ≠ 2 by decide)))]
 rw [h1] at HIS
 rw [h2] at HIU
 have h4 : decide (100000 ≤ now) = false := decide_eq_false (by omega)
 have h5 : ¬ (100000 : Int) ≤ now := by omega
 have HS1 : idxI ss.length (segI ss id) = -1 := if_neg hsg
 rw [HS1] at HFI
 have HR1 : idxI ss.length (roomI ss) = -1 := if_neg hrm
 rw [HR1] at HRO
 clear h1 h2 h3 HS1 HR1 hsg hrm
 have d := Lib.hid (show Below w.heap.size w (((w.alloc (.cells #[.slice a ss.length cap, .int .i64 now] 41)).alloc (.cells #[.int .i64 1, .int .i64 id, .slice va xs.length vc, .int .i64 f, .int .i64 x] 31)).alloc (.cells #[.slice none 0 0, .int .i64 0] 41)) from (((Below.refl _ _).alloc (Nat.le_refl _) _).alloc (by simp <;> omega) _).alloc (by simp <;> omega) _)
 have B0 : Hid ((((w.alloc (.cells #[.slice a ss.length cap, .int .i64 now] 41)).alloc (.cells #[.int .i64 1, .int .i64 id, .slice va xs.length vc, .int .i64 f, .int .i64 x] 31)).alloc (.cells #[.slice none 0 0, .int .i64 0] 41)).heap[w.heap.size]? = some (.cells #[.slice a ss.length cap, .int .i64 now] 41 (0, 0))) := Lib.hid (by
  rw [Below.heap_alloc _ _ _ (by simp <;> omega), Below.heap_alloc _ _ _ (by simp)]; exact heap_alloc_new w _)
 have B1 : Hid ((((w.alloc (.cells #[.slice a ss.length cap, .int .i64 now] 41)).alloc (.cells #[.int .i64 1, .int .i64 id, .slice va xs.length vc, .int .i64 f, .int .i64 x] 31)).alloc (.cells #[.slice none 0 0, .int .i64 0] 41)).heap[(w.heap.size + 1)]? = some (.cells #[.int .i64 1, .int .i64 id, .slice va xs.length vc, .int .i64 f, .int .i64 x] 31 (0, 0))) := Lib.hid (by
  rw [Below.heap_alloc _ _ _ (by simp)]
  have := heap_alloc_new (w.alloc (.cells #[.slice a ss.length cap, .int .i64 now] 41)) (.cells #[.int .i64 1, .int .i64 id, .slice va xs.length vc, .int .i64 f, .int .i64 x] 31)
  simpa only [World.size_alloc] using this)
 have BZ : Hid ((((w.alloc (.cells #[.slice a ss.length cap, .int .i64 now] 41)).alloc (.cells #[.int .i64 1, .int .i64 id, .slice va xs.length vc, .int .i64 f, .int .i64 x] 31)).alloc (.cells #[.slice none 0 0, .int .i64 0] 41)).heap[(w.heap.size + 2)]? = some (.cells #[.slice none 0 0, .int .i64 0] 41 (0, 0))) := Lib.hid (by
  have := heap_alloc_new ((w.alloc (.cells #[.slice a ss.length cap, .int .i64 now] 41)).alloc (.cells #[.int .i64 1, .int .i64 id, .slice va xs.length vc, .int .i64 f, .int .i64 x] 31)) (.cells #[.slice none 0 0, .int .i64 0] 41)
  simpa only [World.size_alloc] using this)
 have YW : Hid (w.heap.size + 2 < (((w.alloc (.cells #[.slice a ss.length cap, .int .i64 now] 41)).alloc (.cells #[.int .i64 1, .int .i64 id, .slice va xs.length vc, .int .i64 f, .int .i64 x] 31)).alloc (.cells #[.slice none 0 0, .int .i64 0] 41)).heap.size) := Lib.hid (by simp)
 go_enter Try.func15, Try.ntmps15
 go_wp2_with fail
 generalize (((w.alloc (.cells #[.slice a ss.length cap, .int .i64 now] 41)).alloc (.cells #[.int .i64 1, .int .i64 id, .slice va xs.length vc, .int .i64 f, .int .i64 x] 31)).alloc (.cells #[.slice none 0 0, .int .i64 0] 41)) = W at *
 refine (HC.out W (slR_below tVersionS_law H.out d.out)).mono ?_
 rintro e w4 ⟨cs, rfl, oc, c4⟩
 obtain ⟨fv, F4, rfl, of, q4⟩ := tStore_O (tStore_law.lt oc)
 obtain ⟨fa, fc, rfl⟩ := slO_len of
 have PF := Lib.hid (slO_mono of q4)
 replace B0 := Lib.hid ((c4.block w.heap.size (Array.getElem?_eq_some_iff.1 B0.out).1).trans B0.out)
 replace B1 := Lib.hid ((c4.block (w.heap.size + 1) (Array.getElem?_eq_some_iff.1 B1.out).1).trans B1.out)
 replace BZ := Lib.hid ((c4.block (w.heap.size + 2) (Array.getElem?_eq_some_iff.1 BZ.out).1).trans BZ.out)
 replace d := Lib.hid (d.out.trans (c4.mono d.out.size))
 have Z_w4 := Lib.hid (show W.heap.size ≤ w4.heap.size from c4.size)
 have QF := Lib.hid (fun q (h : since W q ∧ q < w4.heap.size) => (show W.heap.size ≤ q ∧ q < w4.heap.size from h))
 clear oc of q4 c4
 have hal : Below w4.heap.size w4 (w4.alloc (.cells #[.slice fa ss.length fc, .int .i64 now] 41)) := (Below.refl _ _).alloc (Nat.le_refl _) _
 have BX := Lib.hid (heap_alloc_new w4 (.cells #[.slice fa ss.length fc, .int .i64 now] 41))
 have Y_X := Lib.hid (show w4.heap.size < (w4.alloc (.cells #[.slice fa ss.length fc, .int .i64 now] 41)).heap.size by simp [World.size_alloc])
 replace B0 := Lib.hid ((hal.block w.heap.size (Array.getElem?_eq_some_iff.1 B0.out).1).trans B0.out)
 replace B1 := Lib.hid ((hal.block (w.heap.size + 1) (Array.getElem?_eq_some_iff.1 B1.out).1).trans B1.out)
 replace BZ := Lib.hid ((hal.block (w.heap.size + 2) (Array.getElem?_eq_some_iff.1 BZ.out).1).trans BZ.out)
 replace PF := Lib.hid (slO_fresh tVersionS_law PF.out hal)
 replace d := Lib.hid (d.out.trans (hal.mono d.out.size))
 clear hal
 have p_B0_0 := (cell_of_row (w4.alloc (.cells #[.slice fa ss.length fc, .int .i64 now] 41)) _ 0 _ _ _ B0.out).trans (show _ = some (Value.slice a ss.length cap) from rfl)
 have p_B0_1 := (cell_of_row (w4.alloc (.cells #[.slice fa ss.length fc, .int .i64 now] 41)) _ 1 _ _ _ B0.out).trans (show _ = some (Value.int .i64 now) from rfl)
 go_wp2_with fail
 clear p_B0_0 p_B0_1
 generalize w4.alloc (.cells #[.slice fa ss.length fc, .int .i64 now] 41) = w5 at *
 refine (HIS.out w5 (slR_below tVersionS_law H.out d.out)).mono ?_
 rintro e w6 ⟨rfl, cw6⟩
 replace B0 := Lib.hid ((cw6.block w.heap.size (Array.getElem?_eq_some_iff.1 B0.out).1).trans B0.out)
 replace B1 := Lib.hid ((cw6.block (w.heap.size + 1) (Array.getElem?_eq_some_iff.1 B1.out).1).trans B1.out)
 replace BZ := Lib.hid ((cw6.block (w.heap.size + 2) (Array.getElem?_eq_some_iff.1 BZ.out).1).trans BZ.out)
 replace BX := Lib.hid ((cw6.block w4.heap.size (Array.getElem?_eq_some_iff.1 BX.out).1).trans BX.out)
 replace PF := Lib.hid (slO_fresh tVersionS_law PF.out cw6)
 replace d := Lib.hid (d.out.trans (cw6.mono d.out.size))
 have Z_w6 := Lib.hid (show w5.heap.size ≤ w6.heap.size from cw6.size)
 clear cw6
 have p_B1_0 := (cell_of_row w6 _ 0 _ _ _ B1.out).trans (show _ = some (Value.int .i64 1) from rfl)
 have p_B1_1 := (cell_of_row w6 _ 1 _ _ _ B1.out).trans (show _ = some (Value.int .i64 id) from rfl)
 have p_B1_2 := (cell_of_row w6 _ 2 _ _ _ B1.out).trans (show _ = some (Value.slice va xs.length vc) from rfl)
 have p_B1_3 := (cell_of_row w6 _ 3 _ _ _ B1.out).trans (show _ = some (Value.int .i64 f) from rfl)
 have p_B1_4 := (cell_of_row w6 _ 4 _ _ _ B1.out).trans (show _ = some (Value.int .i64 x) from rfl)
 go_wp2_with fail
 clear p_B1_0 p_B1_1 p_B1_2 p_B1_3 p_B1_4
 refine (HIU.out w6 (slR_ints (slR_below tInt_law G.out d.out))).mono ?_
 rintro e w7 ⟨rfl, cw7⟩
 replace B0 := Lib.hid ((cw7.block w.heap.size (Array.getElem?_eq_some_iff.1 B0.out).1).trans B0.out)
 replace B1 := Lib.hid ((cw7.block (w.heap.size + 1) (Array.getElem?_eq_some_iff.1 B1.out).1).trans B1.out)
 replace BZ := Lib.hid ((cw7.block (w.heap.size + 2) (Array.getElem?_eq_some_iff.1 BZ.out).1).trans BZ.out)
 replace BX := Lib.hid ((cw7.block w4.heap.size (Array.getElem?_eq_some_iff.1 BX.out).1).trans BX.out)
 replace PF := Lib.hid (slO_fresh tVersionS_law PF.out cw7)
 replace d := Lib.hid (d.out.trans (cw7.mono d.out.size))
 have Z_w7 := Lib.hid (show w6.heap.size ≤ w7.heap.size from cw7.size)
 clear cw7
 have p_B0_0 := (cell_of_row w7 _ 0 _ _ _ B0.out).trans (show _ = some (Value.slice a ss.length cap) from rfl)
 have p_B0_1 := (cell_of_row w7 _ 1 _ _ _ B0.out).trans (show _ = some (Value.int .i64 now) from rfl)
 have p_B1_0 := (cell_of_row w7 _ 0 _ _ _ B1.out).trans (show _ = some (Value.int .i64 1) from rfl)
 have p_B1_1 := (cell_of_row w7 _ 1 _ _ _ B1.out).trans (show _ = some (Value.int .i64 id) from rfl)
 have p_B1_2 := (cell_of_row w7 _ 2 _ _ _ B1.out).trans (show _ = some (Value.slice va xs.length vc) from rfl)
 have p_B1_3 := (cell_of_row w7 _ 3 _ _ _ B1.out).trans (show _ = some (Value.int .i64 f) from rfl)
 have p_B1_4 := (cell_of_row w7 _ 4 _ _ _ B1.out).trans (show _ = some (Value.int .i64 x) from rfl)
 go_wp2_with fail
 clear p_B0_0 p_B0_1 p_B1_0 p_B1_1 p_B1_2 p_B1_3 p_B1_4
 refine (HFI.out w7 (slR_below tVersionS_law H.out d.out)).mono ?_
 rintro e w8 ⟨rfl, cw8⟩
 replace B0 := Lib.hid ((cw8.block w.heap.size (Array.getElem?_eq_some_iff.1 B0.out).1).trans B0.out)
 replace B1 := Lib.hid ((cw8.block (w.heap.size + 1) (Array.getElem?_eq_some_iff.1 B1.out).1).trans B1.out)
 replace BZ := Lib.hid ((cw8.block (w.heap.size + 2) (Array.getElem?_eq_some_iff.1 BZ.out).1).trans BZ.out)
 replace BX := Lib.hid ((cw8.block w4.heap.size (Array.getElem?_eq_some_iff.1 BX.out).1).trans BX.out)
 replace PF := Lib.hid (slO_fresh tVersionS_law PF.out cw8)
 replace d := Lib.hid (d.out.trans (cw8.mono d.out.size))
 have Z_w8 := Lib.hid (show w7.heap.size ≤ w8.heap.size from cw8.size)
 clear cw8
 have p_B0_0 := (cell_of_row w8 _ 0 _ _ _ B0.out).trans (show _ = some (Value.slice a ss.length cap) from rfl)
 have p_B0_1 := (cell_of_row w8 _ 1 _ _ _ B0.out).trans (show _ = some (Value.int .i64 now) from rfl)
 go_wp2_with fail
 clear p_B0_0 p_B0_1
 refine (HRO.out w8 (slR_below tVersionS_law H.out d.out)).mono ?_
 rintro e w9 ⟨rfl, cw9⟩
 replace B0 := Lib.hid ((cw9.block w.heap.size (Array.getElem?_eq_some_iff.1 B0.out).1).trans B0.out)
 replace B1 := Lib.hid ((cw9.block (w.heap.size + 1) (Array.getElem?_eq_some_iff.1 B1.out).1).trans B1.out)
 replace BZ := Lib.hid ((cw9.block (w.heap.size + 2) (Array.getElem?_eq_some_iff.1 BZ.out).1).trans BZ.out)
 replace BX := Lib.hid ((cw9.block w4.heap.size (Array.getElem?_eq_some_iff.1 BX.out).1).trans BX.out)
 replace PF := Lib.hid (slO_fresh tVersionS_law PF.out cw9)
 replace d := Lib.hid (d.out.trans (cw9.mono d.out.size))
 have Z_w9 := Lib.hid (show w8.heap.size ≤ w9.heap.size from cw9.size)
 clear cw9
 have p_B1_0 := (cell_of_row w9 _ 0 _ _ _ B1.out).trans (show _ = some (Value.int .i64 1) from rfl)
 have p_B1_1 := (cell_of_row w9 _ 1 _ _ _ B1.out).trans (show _ = some (Value.int .i64 id) from rfl)
 have p_B1_2 := (cell_of_row w9 _ 2 _ _ _ B1.out).trans (show _ = some (Value.slice va xs.length vc) from rfl)
 have p_B1_3 := (cell_of_row w9 _ 3 _ _ _ B1.out).trans (show _ = some (Value.int .i64 f) from rfl)
 have p_B1_4 := (cell_of_row w9 _ 4 _ _ _ B1.out).trans (show _ = some (Value.int .i64 x) from rfl)
 have p_BX_0 := (cell_of_row w9 _ 0 _ _ _ BX.out).trans (show _ = some (Value.slice fa ss.length fc) from rfl)
 have p_BX_1 := (cell_of_row w9 _ 1 _ _ _ BX.out).trans (show _ = some (Value.int .i64 now) from rfl)
 have p_BZ_0 := (cell_of_row w9 _ 0 _ _ _ BZ.out).trans (show _ = some (Value.slice none 0 0) from rfl)
 have p_BZ_1 := (cell_of_row w9 _ 1 _ _ _ BZ.out).trans (show _ = some (Value.int .i64 0) from rfl)
 have f_BZ_0 := frozen_of_row w9 _ 0 _ _ BZ.out
 have f_BZ_1 := frozen_of_row w9 _ 1 _ _ BZ.out
 have tt : Turn (fun q => q = w.heap.size + 2) w9 ((w9.setCell ⟨w.heap.size + 2, 0, none⟩ (.slice fa ss.length fc)).setCell ⟨w.heap.size + 2, 1, none⟩ (.int .i64 now)) := ((Turn.refl (fun q => q = w.heap.size + 2) _).trans (turn_set (G := fun q => q = w.heap.size + 2) (g := w.heap.size + 2) (j := 0) (u := .slice fa ss.length fc) rfl)).trans (turn_set (G := fun q => q = w.heap.size + 2) (g := w.heap.size + 2) (j := 1) (u := .int .i64 now) rfl)
 have r := heap_setCell_same _ (w.heap.size + 2) 1 _ _ (.int .i64 now) (heap_setCell_same w9 (w.heap.size + 2) 0 _ _ (.slice fa ss.length fc) BZ.out)
 have e0 := cell_of_row _ _ 0 _ _ _ r
 have e1 := cell_of_row _ _ 1 _ _ _ r
 simp at e0 e1
 have y0 := YW.out
 have y1 := Z_w4.out
 have y2 := Y_X.out
 have y3 := Z_w6.out
 have y4 := Z_w7.out
 have y5 := Z_w8.out
 have y6 := Z_w9.out
 have DF := Lib.hid (below_turn d.out tt (fun q h => by omega) d.out.size)
 have PE := Lib.hid (slO_turn tVersionS_law PF.out tt (fun q h1 h2 => by have r1 := QF.out q h1; omega))
 have QE := Lib.hid (fun q h => (show w.heap.size ≤ q by have r1 := QF.out q h; omega))
 clear tt r y0 y1 y2 y3 y4 y5 y6
 go_wp2
 refine bodyPost_ret (v := .tuple #[.agg #[.slice fa ss.length fc, .int .i64 now], .bool false]) ?_ rfl ?_
 ·
  simp [results, Try.f15, go_sem, e0, e1]
 ·
  exact ⟨[.slice fa ss.length fc, .int .i64 now], _, rfl, tStore_mkO PE.out (fun q h => h), QE.out, DF.out⟩
set_option maxHeartbeats 32000000 in
set_option maxRecDepth 100000 in
theorem specApply_delNone (id f x now : Int) (sv vv : Value) (ss : List (List VerD)) (xs : List Int) (w : World) (h : SlR tVersionS w sv ss) (hs : zL tVersionS ss ≤ 1048576) (g : SlR tInt w vv xs) (hn : xs.length ≤ 1048576) (h1 : storeB ss now = true) (h2 : updB (2, (id, xs), f, x) = true) (h3 : now < 100000) (hsg : ¬ segI ss id < ss.length) :
  Calls Try.prog 15 #[.agg #[sv, .int .i64 now], .agg #[.int .i64 2, .int .i64 id, vv, .int .i64 f, .int .i64 x]] w (FreshNew w (applyB (ss, now) (2, (id, xs), f, x))) := by
 obtain ⟨a, cap, rfl⟩ := slR_len h
 obtain ⟨va, vc, rfl⟩ := slR_len g
 have hlen := zL_len hs
 have H := Lib.hid h
 have G := Lib.hid g
 have HC := Lib.hid (fun W h => specCopy (.slice a ss.length cap) ss now W h hs)
 have HIS := Lib.hid (fun W h => specIsStore (.slice a ss.length cap) ss now W h hs)
 have HIU := Lib.hid (fun W g => specIsUpdate 2 id f x (.slice va xs.length vc) xs W g hn)
 have HFI := Lib.hid (fun W h => specFind (.slice a ss.length cap) ss now id W h hs)
 have HRO := Lib.hid (fun W h => specRoom (.slice a ss.length cap) ss now W h hs)
 clear h g hs hn
 rw [apply_no (fun q => absurd (q.2.2.2.1.2 hsg) (show ¬ (2 : Int) = 1 by decide))]
 rw [h1] at HIS
 rw [h2] at HIU
 have h4 : decide (100000 ≤ now) = false := decide_eq_false (by omega)
 have h5 : ¬ (100000 : Int) ≤ now := by omega
 have HS1 : idxI ss.length (segI ss id) = -1 := if_neg hsg
 rw [HS1] at HFI
 clear h1 h2 h3 HS1 hsg
 have d := Lib.hid (show Below w.heap.size w (((w.alloc (.cells #[.slice a ss.length cap, .int .i64 now] 41)).alloc (.cells #[.int .i64 2, .int .i64 id, .slice va xs.length vc, .int .i64 f, .int .i64 x] 31)).alloc (.cells #[.slice none 0 0, .int .i64 0] 41)) from (((Below.refl _ _).alloc (Nat.le_refl _) _).alloc (by simp <;> omega) _).alloc (by simp <;> omega) _)
 have B0 : Hid ((((w.alloc (.cells #[.slice a ss.length cap, .int .i64 now] 41)).alloc (.cells #[.int .i64 2, .int .i64 id, .slice va xs.length vc, .int .i64 f, .int .i64 x] 31)).alloc (.cells #[.slice none 0 0, .int .i64 0] 41)).heap[w.heap.size]? = some (.cells #[.slice a ss.length cap, .int .i64 now] 41 (0, 0))) := Lib.hid (by
  rw [Below.heap_alloc _ _ _ (by simp <;> omega), Below.heap_alloc _ _ _ (by simp)]; exact heap_alloc_new w _)
 have B1 : Hid ((((w.alloc (.cells #[.slice a ss.length cap, .int .i64 now] 41)).alloc (.cells #[.int .i64 2, .int .i64 id, .slice va xs.length vc, .int .i64 f, .int .i64 x] 31)).alloc (.cells #[.slice none 0 0, .int .i64 0] 41)).heap[(w.heap.size + 1)]? = some (.cells #[.int .i64 2, .int .i64 id, .slice va xs.length vc, .int .i64 f, .int .i64 x] 31 (0, 0))) := Lib.hid (by
  rw [Below.heap_alloc _ _ _ (by simp)]
  have := heap_alloc_new (w.alloc (.cells #[.slice a ss.length cap, .int .i64 now] 41)) (.cells #[.int .i64 2, .int .i64 id, .slice va xs.length vc, .int .i64 f, .int .i64 x] 31)
  simpa only [World.size_alloc] using this)
 have BZ : Hid ((((w.alloc (.cells #[.slice a ss.length cap, .int .i64 now] 41)).alloc (.cells #[.int .i64 2, .int .i64 id, .slice va xs.length vc, .int .i64 f, .int .i64 x] 31)).alloc (.cells #[.slice none 0 0, .int .i64 0] 41)).heap[(w.heap.size + 2)]? = some (.cells #[.slice none 0 0, .int .i64 0] 41 (0, 0))) := Lib.hid (by
  have := heap_alloc_new ((w.alloc (.cells #[.slice a ss.length cap, .int .i64 now] 41)).alloc (.cells #[.int .i64 2, .int .i64 id, .slice va xs.length vc, .int .i64 f, .int .i64 x] 31)) (.cells #[.slice none 0 0, .int .i64 0] 41)
  simpa only [World.size_alloc] using this)
 have YW : Hid (w.heap.size + 2 < (((w.alloc (.cells #[.slice a ss.length cap, .int .i64 now] 41)).alloc (.cells #[.int .i64 2, .int .i64 id, .slice va xs.length vc, .int .i64 f, .int .i64 x] 31)).alloc (.cells #[.slice none 0 0, .int .i64 0] 41)).heap.size) := Lib.hid (by simp)
 go_enter Try.func15, Try.ntmps15
 go_wp2_with fail
 generalize (((w.alloc (.cells #[.slice a ss.length cap, .int .i64 now] 41)).alloc (.cells #[.int .i64 2, .int .i64 id, .slice va xs.length vc, .int .i64 f, .int .i64 x] 31)).alloc (.cells #[.slice none 0 0, .int .i64 0] 41)) = W at *
 refine (HC.out W (slR_below tVersionS_law H.out d.out)).mono ?_
 rintro e w4 ⟨cs, rfl, oc, c4⟩
 obtain ⟨fv, F4, rfl, of, q4⟩ := tStore_O (tStore_law.lt oc)
 obtain ⟨fa, fc, rfl⟩ := slO_len of
 have PF := Lib.hid (slO_mono of q4)
 replace B0 := Lib.hid ((c4.block w.heap.size (Array.getElem?_eq_some_iff.1 B0.out).1).trans B0.out)
 replace B1 := Lib.hid ((c4.block (w.heap.size + 1) (Array.getElem?_eq_some_iff.1 B1.out).1).trans B1.out)
 replace BZ := Lib.hid ((c4.block (w.heap.size + 2) (Array.getElem?_eq_some_iff.1 BZ.out).1).trans BZ.out)
 replace d := Lib.hid (d.out.trans (c4.mono d.out.size))
 have Z_w4 := Lib.hid (show W.heap.size ≤ w4.heap.size from c4.size)
 have QF := Lib.hid (fun q (h : since W q ∧ q < w4.heap.size) => (show W.heap.size ≤ q ∧ q < w4.heap.size from h))
 clear oc of q4 c4
 have hal : Below w4.heap.size w4 (w4.alloc (.cells #[.slice fa ss.length fc, .int .i64 now] 41)) := (Below.refl _ _).alloc (Nat.le_refl _) _
 have BX := Lib.hid (heap_alloc_new w4 (.cells #[.slice fa ss.length fc, .int .i64 now] 41))
 have Y_X := Lib.hid (show w4.heap.size < (w4.alloc (.cells #[.slice fa ss.length fc, .int .i64 now] 41)).heap.size by simp [World.size_alloc])
 replace B0 := Lib.hid ((hal.block w.heap.size (Array.getElem?_eq_some_iff.1 B0.out).1).trans B0.out)
 replace B1 := Lib.hid ((hal.block (w.heap.size + 1) (Array.getElem?_eq_some_iff.1 B1.out).1).trans B1.out)
 replace BZ := Lib.hid ((hal.block (w.heap.size + 2) (Array.getElem?_eq_some_iff.1 BZ.out).1).trans BZ.out)
 replace PF := Lib.hid (slO_fresh tVersionS_law PF.out hal)
 replace d := Lib.hid (d.out.trans (hal.mono d.out.size))
 clear hal
 have p_B0_0 := (cell_of_row (w4.alloc (.cells #[.slice fa ss.length fc, .int .i64 now] 41)) _ 0 _ _ _ B0.out).trans (show _ = some (Value.slice a ss.length cap) from rfl)
 have p_B0_1 := (cell_of_row (w4.alloc (.cells #[.slice fa ss.length fc, .int .i64 now] 41)) _ 1 _ _ _ B0.out).trans (show _ = some (Value.int .i64 now) from rfl)
 go_wp2_with fail
 clear p_B0_0 p_B0_1
 generalize w4.alloc (.cells #[.slice fa ss.length fc, .int .i64 now] 41) = w5 at *
 refine (HIS.out w5 (slR_below tVersionS_law H.out d.out)).mono ?_
 rintro e w6 ⟨rfl, cw6⟩
 replace B0 := Lib.hid ((cw6.block w.heap.size (Array.getElem?_eq_some_iff.1 B0.out).1).trans B0.out)
 replace B1 := Lib.hid ((cw6.block (w.heap.size + 1) (Array.getElem?_eq_some_iff.1 B1.out).1).trans B1.out)
 replace BZ := Lib.hid ((cw6.block (w.heap.size + 2) (Array.getElem?_eq_some_iff.1 BZ.out).1).trans BZ.out)
 replace BX := Lib.hid ((cw6.block w4.heap.size (Array.getElem?_eq_some_iff.1 BX.out).1).trans BX.out)
 replace PF := Lib.hid (slO_fresh tVersionS_law PF.out cw6)
 replace d := Lib.hid (d.out.trans (cw6.mono d.out.size))
 have Z_w6 := Lib.hid (show w5.heap.size ≤ w6.heap.size from cw6.size)
 clear cw6
 have p_B1_0 := (cell_of_row w6 _ 0 _ _ _ B1.out).trans (show _ = some (Value.int .i64 2) from rfl)
 have p_B1_1 := (cell_of_row w6 _ 1 _ _ _ B1.out).trans (show _ = some (Value.int .i64 id) from rfl)
 have p_B1_2 := (cell_of_row w6 _ 2 _ _ _ B1.out).trans (show _ = some (Value.slice va xs.length vc) from rfl)
 have p_B1_3 := (cell_of_row w6 _ 3 _ _ _ B1.out).trans (show _ = some (Value.int .i64 f) from rfl)
 have p_B1_4 := (cell_of_row w6 _ 4 _ _ _ B1.out).trans (show _ = some (Value.int .i64 x) from rfl)
 go_wp2_with fail
 clear p_B1_0 p_B1_1 p_B1_2 p_B1_3 p_B1_4
 refine (HIU.out w6 (slR_ints (slR_below tInt_law G.out d.out))).mono ?_
 rintro e w7 ⟨rfl, cw7⟩
 replace B0 := Lib.hid ((cw7.block w.heap.size (Array.getElem?_eq_some_iff.1 B0.out).1).trans B0.out)
 replace B1 := Lib.hid ((cw7.block (w.heap.size + 1) (Array.getElem?_eq_some_iff.1 B1.out).1).trans B1.out)
 replace BZ := Lib.hid ((cw7.block (w.heap.size + 2) (Array.getElem?_eq_some_iff.1 BZ.out).1).trans BZ.out)
 replace BX := Lib.hid ((cw7.block w4.heap.size (Array.getElem?_eq_some_iff.1 BX.out).1).trans BX.out)
 replace PF := Lib.hid (slO_fresh tVersionS_law PF.out cw7)
 replace d := Lib.hid (d.out.trans (cw7.mono d.out.size))
 have Z_w7 := Lib.hid (show w6.heap.size ≤ w7.heap.size from cw7.size)
 clear cw7
 have p_B0_0 := (cell_of_row w7 _ 0 _ _ _ B0.out).trans (show _ = some (Value.slice a ss.length cap) from rfl)
 have p_B0_1 := (cell_of_row w7 _ 1 _ _ _ B0.out).trans (show _ = some (Value.int .i64 now) from rfl)
 have p_B1_0 := (cell_of_row w7 _ 0 _ _ _ B1.out).trans (show _ = some (Value.int .i64 2) from rfl)
 have p_B1_1 := (cell_of_row w7 _ 1 _ _ _ B1.out).trans (show _ = some (Value.int .i64 id) from rfl)
 have p_B1_2 := (cell_of_row w7 _ 2 _ _ _ B1.out).trans (show _ = some (Value.slice va xs.length vc) from rfl)
 have p_B1_3 := (cell_of_row w7 _ 3 _ _ _ B1.out).trans (show _ = some (Value.int .i64 f) from rfl)
 have p_B1_4 := (cell_of_row w7 _ 4 _ _ _ B1.out).trans (show _ = some (Value.int .i64 x) from rfl)
 go_wp2_with fail
 clear p_B0_0 p_B0_1 p_B1_0 p_B1_1 p_B1_2 p_B1_3 p_B1_4
 refine (HFI.out w7 (slR_below tVersionS_law H.out d.out)).mono ?_
 rintro e w8 ⟨rfl, cw8⟩
 replace B0 := Lib.hid ((cw8.block w.heap.size (Array.getElem?_eq_some_iff.1 B0.out).1).trans B0.out)
 replace B1 := Lib.hid ((cw8.block (w.heap.size + 1) (Array.getElem?_eq_some_iff.1 B1.out).1).trans B1.out)
 replace BZ := Lib.hid ((cw8.block (w.heap.size + 2) (Array.getElem?_eq_some_iff.1 BZ.out).1).trans BZ.out)
 replace BX := Lib.hid ((cw8.block w4.heap.size (Array.getElem?_eq_some_iff.1 BX.out).1).trans BX.out)
 replace PF := Lib.hid (slO_fresh tVersionS_law PF.out cw8)
 replace d := Lib.hid (d.out.trans (cw8.mono d.out.size))
 have Z_w8 := Lib.hid (show w7.heap.size ≤ w8.heap.size from cw8.size)
 clear cw8
 have p_B0_0 := (cell_of_row w8 _ 0 _ _ _ B0.out).trans (show _ = some (Value.slice a ss.length cap) from rfl)
 have p_B0_1 := (cell_of_row w8 _ 1 _ _ _ B0.out).trans (show _ = some (Value.int .i64 now) from rfl)
 go_wp2_with fail
 clear p_B0_0 p_B0_1
 refine (HRO.out w8 (slR_below tVersionS_law H.out d.out)).mono ?_
 rintro e w9 ⟨rfl, cw9⟩
 replace B0 := Lib.hid ((cw9.block w.heap.size (Array.getElem?_eq_some_iff.1 B0.out).1).trans B0.out)
 replace B1 := Lib.hid ((cw9.block (w.heap.size + 1) (Array.getElem?_eq_some_iff.1 B1.out).1).trans B1.out)
 replace BZ := Lib.hid ((cw9.block (w.heap.size + 2) (Array.getElem?_eq_some_iff.1 BZ.out).1).trans BZ.out)
 replace BX := Lib.hid ((cw9.block w4.heap.size (Array.getElem?_eq_some_iff.1 BX.out).1).trans BX.out)
 replace PF := Lib.hid (slO_fresh tVersionS_law PF.out cw9)
 replace d := Lib.hid (d.out.trans (cw9.mono d.out.size))
 have Z_w9 := Lib.hid (show w8.heap.size ≤ w9.heap.size from cw9.size)
 clear cw9
 have p_B1_0 := (cell_of_row w9 _ 0 _ _ _ B1.out).trans (show _ = some (Value.int .i64 2) from rfl)
 have p_B1_1 := (cell_of_row w9 _ 1 _ _ _ B1.out).trans (show _ = some (Value.int .i64 id) from rfl)
 have p_B1_2 := (cell_of_row w9 _ 2 _ _ _ B1.out).trans (show _ = some (Value.slice va xs.length vc) from rfl)
 have p_B1_3 := (cell_of_row w9 _ 3 _ _ _ B1.out).trans (show _ = some (Value.int .i64 f) from rfl)
 have p_B1_4 := (cell_of_row w9 _ 4 _ _ _ B1.out).trans (show _ = some (Value.int .i64 x) from rfl)
 have p_BX_0 := (cell_of_row w9 _ 0 _ _ _ BX.out).trans (show _ = some (Value.slice fa ss.length fc) from rfl)
 have p_BX_1 := (cell_of_row w9 _ 1 _ _ _ BX.out).trans (show _ = some (Value.int .i64 now) from rfl)
 have p_BZ_0 := (cell_of_row w9 _ 0 _ _ _ BZ.out).trans (show _ = some (Value.slice none 0 0) from rfl)
 have p_BZ_1 := (cell_of_row w9 _ 1 _ _ _ BZ.out).trans (show _ = some (Value.int .i64 0) from rfl)
 have f_BZ_0 := frozen_of_row w9 _ 0 _ _ BZ.out
 have f_BZ_1 := frozen_of_row w9 _ 1 _ _ BZ.out
 have tt : Turn (fun q => q = w.heap.size + 2) w9 ((w9.setCell ⟨w.heap.size + 2, 0, none⟩ (.slice fa ss.length fc)).setCell ⟨w.heap.size + 2, 1, none⟩ (.int .i64 now)) := ((Turn.refl (fun q => q = w.heap.size + 2) _).trans (turn_set (G := fun q => q = w.heap.size + 2) (g := w.heap.size + 2) (j := 0) (u := .slice fa ss.length fc) rfl)).trans (turn_set (G := fun q => q = w.heap.size + 2) (g := w.heap.size + 2) (j := 1) (u := .int .i64 now) rfl)
 have r := heap_setCell_same _ (w.heap.size + 2) 1 _ _ (.int .i64 now) (heap_setCell_same w9 (w.heap.size + 2) 0 _ _ (.slice fa ss.length fc) BZ.out)
 have e0 := cell_of_row _ _ 0 _ _ _ r
 have e1 := cell_of_row _ _ 1 _ _ _ r
 simp at e0 e1
 have y0 := YW.out
 have y1 := Z_w4.out
 have y2 := Y_X.out
 have y3 := Z_w6.out
 have y4 := Z_w7.out
 have y5 := Z_w8.out
 have y6 := Z_w9.out
 have DF := Lib.hid (below_turn d.out tt (fun q h => by omega) d.out.size)
 have PE := Lib.hid (slO_turn tVersionS_law PF.out tt (fun q h1 h2 => by have r1 := QF.out q h1; omega))
 have QE := Lib.hid (fun q h => (show w.heap.size ≤ q by have r1 := QF.out q h; omega))
 clear tt r y0 y1 y2 y3 y4 y5 y6
 go_wp2
 refine bodyPost_ret (v := .tuple #[.agg #[.slice fa ss.length fc, .int .i64 now], .bool false]) ?_ rfl ?_
 ·
  simp [results, Try.f15, go_sem, e0, e1]
 ·
  exact ⟨[.slice fa ss.length fc, .int .i64 now], _, rfl, tStore_mkO PE.out (fun q h => h), QE.out, DF.out⟩
set_option maxHeartbeats 32000000 in
set_option maxRecDepth 100000 in
theorem specApply_setNone (id f x now : Int) (sv vv : Value) (ss : List (List VerD)) (xs : List Int) (w : World) (h : SlR tVersionS w sv ss) (hs : zL tVersionS ss ≤ 1048576) (g : SlR tInt w vv xs) (hn : xs.length ≤ 1048576) (h1 : storeB ss now = true) (h2 : updB (3, (id, xs), f, x) = true) (h3 : now < 100000) (hsg : ¬ segI ss id < ss.length) :
  Calls Try.prog 15 #[.agg #[sv, .int .i64 now], .agg #[.int .i64 3, .int .i64 id, vv, .int .i64 f, .int .i64 x]] w (FreshNew w (applyB (ss, now) (3, (id, xs), f, x))) := by
 obtain ⟨a, cap, rfl⟩ := slR_len h
 obtain ⟨va, vc, rfl⟩ := slR_len g
 have hlen := zL_len hs
 have H := Lib.hid h
 have G := Lib.hid g
 have HC := Lib.hid (fun W h => specCopy (.slice a ss.length cap) ss now W h hs)
 have HIS := Lib.hid (fun W h => specIsStore (.slice a ss.length cap) ss now W h hs)
 have HIU := Lib.hid (fun W g => specIsUpdate 3 id f x (.slice va xs.length vc) xs W g hn)
 have HFI := Lib.hid (fun W h => specFind (.slice a ss.length cap) ss now id W h hs)
 have HRO := Lib.hid (fun W h => specRoom (.slice a ss.length cap) ss now W h hs)
 clear h g hs hn
 rw [apply_no (fun q => absurd (q.2.2.2.1.2 hsg) (show ¬ (3 : Int) = 1 by decide))]
 rw [h1] at HIS
 rw [h2] at HIU
 have h4 : decide (100000 ≤ now) = false := decide_eq_false (by omega)
 have h5 : ¬ (100000 : Int) ≤ now := by omega
 have HS1 : idxI ss.length (segI ss id) = -1 := if_neg hsg
 rw [HS1] at HFI
 clear h1 h2 h3 HS1 hsg
 have d := Lib.hid (show Below w.heap.size w (((w.alloc (.cells #[.slice a ss.length cap, .int .i64 now] 41)).alloc (.cells #[.int .i64 3, .int .i64 id, .slice va xs.length vc, .int .i64 f, .int .i64 x] 31)).alloc (.cells #[.slice none 0 0, .int .i64 0] 41)) from (((Below.refl _ _).alloc (Nat.le_refl _) _).alloc (by simp <;> omega) _).alloc (by simp <;> omega) _)
 have B0 : Hid ((((w.alloc (.cells #[.slice a ss.length cap, .int .i64 now] 41)).alloc (.cells #[.int .i64 3, .int .i64 id, .slice va xs.length vc, .int .i64 f, .int .i64 x] 31)).alloc (.cells #[.slice none 0 0, .int .i64 0] 41)).heap[w.heap.size]? = some (.cells #[.slice a ss.length cap, .int .i64 now] 41 (0, 0))) := Lib.hid (by
  rw [Below.heap_alloc _ _ _ (by simp <;> omega), Below.heap_alloc _ _ _ (by simp)]; exact heap_alloc_new w _)
 have B1 : Hid ((((w.alloc (.cells #[.slice a ss.length cap, .int .i64 now] 41)).alloc (.cells #[.int .i64 3, .int .i64 id, .slice va xs.length vc, .int .i64 f, .int .i64 x] 31)).alloc (.cells #[.slice none 0 0, .int .i64 0] 41)).heap[(w.heap.size + 1)]? = some (.cells #[.int .i64 3, .int .i64 id, .slice va xs.length vc, .int .i64 f, .int .i64 x] 31 (0, 0))) := Lib.hid (by
  rw [Below.heap_alloc _ _ _ (by simp)]
  have := heap_alloc_new (w.alloc (.cells #[.slice a ss.length cap, .int .i64 now] 41)) (.cells #[.int .i64 3, .int .i64 id, .slice va xs.length vc, .int .i64 f, .int .i64 x] 31)
  simpa only [World.size_alloc] using this)
 have BZ : Hid ((((w.alloc (.cells #[.slice a ss.length cap, .int .i64 now] 41)).alloc (.cells #[.int .i64 3, .int .i64 id, .slice va xs.length vc, .int .i64 f, .int .i64 x] 31)).alloc (.cells #[.slice none 0 0, .int .i64 0] 41)).heap[(w.heap.size + 2)]? = some (.cells #[.slice none 0 0, .int .i64 0] 41 (0, 0))) := Lib.hid (by
  have := heap_alloc_new ((w.alloc (.cells #[.slice a ss.length cap, .int .i64 now] 41)).alloc (.cells #[.int .i64 3, .int .i64 id, .slice va xs.length vc, .int .i64 f, .int .i64 x] 31)) (.cells #[.slice none 0 0, .int .i64 0] 41)
  simpa only [World.size_alloc] using this)
 have YW : Hid (w.heap.size + 2 < (((w.alloc (.cells #[.slice a ss.length cap, .int .i64 now] 41)).alloc (.cells #[.int .i64 3, .int .i64 id, .slice va xs.length vc, .int .i64 f, .int .i64 x] 31)).alloc (.cells #[.slice none 0 0, .int .i64 0] 41)).heap.size) := Lib.hid (by simp)
 go_enter Try.func15, Try.ntmps15
 go_wp2_with fail
 generalize (((w.alloc (.cells #[.slice a ss.length cap, .int .i64 now] 41)).alloc (.cells #[.int .i64 3, .int .i64 id, .slice va xs.length vc, .int .i64 f, .int .i64 x] 31)).alloc (.cells #[.slice none 0 0, .int .i64 0] 41)) = W at *
 refine (HC.out W (slR_below tVersionS_law H.out d.out)).mono ?_
 rintro e w4 ⟨cs, rfl, oc, c4⟩
 obtain ⟨fv, F4, rfl, of, q4⟩ := tStore_O (tStore_law.lt oc)
 obtain ⟨fa, fc, rfl⟩ := slO_len of
 have PF := Lib.hid (slO_mono of q4)
 replace B0 := Lib.hid ((c4.block w.heap.size (Array.getElem?_eq_some_iff.1 B0.out).1).trans B0.out)
 replace B1 := Lib.hid ((c4.block (w.heap.size + 1) (Array.getElem?_eq_some_iff.1 B1.out).1).trans B1.out)
 replace BZ := Lib.hid ((c4.block (w.heap.size + 2) (Array.getElem?_eq_some_iff.1 BZ.out).1).trans BZ.out)
 replace d := Lib.hid (d.out.trans (c4.mono d.out.size))
 have Z_w4 := Lib.hid (show W.heap.size ≤ w4.heap.size from c4.size)
 have QF := Lib.hid (fun q (h : since W q ∧ q < w4.heap.size) => (show W.heap.size ≤ q ∧ q < w4.heap.size from h))
 clear oc of q4 c4
 have hal : Below w4.heap.size w4 (w4.alloc (.cells #[.slice fa ss.length fc, .int .i64 now] 41)) := (Below.refl _ _).alloc (Nat.le_refl _) _
 have BX := Lib.hid (heap_alloc_new w4 (.cells #[.slice fa ss.length fc, .int .i64 now] 41))
 have Y_X := Lib.hid (show w4.heap.size < (w4.alloc (.cells #[.slice fa ss.length fc, .int .i64 now] 41)).heap.size by simp [World.size_alloc])
 replace B0 := Lib.hid ((hal.block w.heap.size (Array.getElem?_eq_some_iff.1 B0.out).1).trans B0.out)
 replace B1 := Lib.hid ((hal.block (w.heap.size + 1) (Array.getElem?_eq_some_iff.1 B1.out).1).trans B1.out)
 replace BZ := Lib.hid ((hal.block (w.heap.size + 2) (Array.getElem?_eq_some_iff.1 BZ.out).1).trans BZ.out)
 replace PF := Lib.hid (slO_fresh tVersionS_law PF.out hal)
 replace d := Lib.hid (d.out.trans (hal.mono d.out.size))
 clear hal
 have p_B0_0 := (cell_of_row (w4.alloc (.cells #[.slice fa ss.length fc, .int .i64 now] 41)) _ 0 _ _ _ B0.out).trans (show _ = some (Value.slice a ss.length cap) from rfl)
 have p_B0_1 := (cell_of_row (w4.alloc (.cells #[.slice fa ss.length fc, .int .i64 now] 41)) _ 1 _ _ _ B0.out).trans (show _ = some (Value.int .i64 now) from rfl)
 go_wp2_with fail
 clear p_B0_0 p_B0_1
 generalize w4.alloc (.cells #[.slice fa ss.length fc, .int .i64 now] 41) = w5 at *
 refine (HIS.out w5 (slR_below tVersionS_law H.out d.out)).mono ?_
 rintro e w6 ⟨rfl, cw6⟩
 replace B0 := Lib.hid ((cw6.block w.heap.size (Array.getElem?_eq_some_iff.1 B0.out).1).trans B0.out)
 replace B1 := Lib.hid ((cw6.block (w.heap.size + 1) (Array.getElem?_eq_some_iff.1 B1.out).1).trans B1.out)
 replace BZ := Lib.hid ((cw6.block (w.heap.size + 2) (Array.getElem?_eq_some_iff.1 BZ.out).1).trans BZ.out)
 replace BX := Lib.hid ((cw6.block w4.heap.size (Array.getElem?_eq_some_iff.1 BX.out).1).trans BX.out)
 replace PF := Lib.hid (slO_fresh tVersionS_law PF.out cw6)
 replace d := Lib.hid (d.out.trans (cw6.mono d.out.size))
 have Z_w6 := Lib.hid (show w5.heap.size ≤ w6.heap.size from cw6.size)
 clear cw6
 have p_B1_0 := (cell_of_row w6 _ 0 _ _ _ B1.out).trans (show _ = some (Value.int .i64 3) from rfl)
 have p_B1_1 := (cell_of_row w6 _ 1 _ _ _ B1.out).trans (show _ = some (Value.int .i64 id) from rfl)
 have p_B1_2 := (cell_of_row w6 _ 2 _ _ _ B1.out).trans (show _ = some (Value.slice va xs.length vc) from rfl)
 have p_B1_3 := (cell_of_row w6 _ 3 _ _ _ B1.out).trans (show _ = some (Value.int .i64 f) from rfl)
 have p_B1_4 := (cell_of_row w6 _ 4 _ _ _ B1.out).trans (show _ = some (Value.int .i64 x) from rfl)
 go_wp2_with fail
 clear p_B1_0 p_B1_1 p_B1_2 p_B1_3 p_B1_4
 refine (HIU.out w6 (slR_ints (slR_below tInt_law G.out d.out))).mono ?_
 rintro e w7 ⟨rfl, cw7⟩
 replace B0 := Lib.hid ((cw7.block w.heap.size (Array.getElem?_eq_some_iff.1 B0.out).1).trans B0.out)
 replace B1 := Lib.hid ((cw7.block (w.heap.size + 1) (Array.getElem?_eq_some_iff.1 B1.out).1).trans B1.out)
 replace BZ := Lib.hid ((cw7.block (w.heap.size + 2) (Array.getElem?_eq_some_iff.1 BZ.out).1).trans BZ.out)
 replace BX := Lib.hid ((cw7.block w4.heap.size (Array.getElem?_eq_some_iff.1 BX.out).1).trans BX.out)
 replace PF := Lib.hid (slO_fresh tVersionS_law PF.out cw7)
 replace d := Lib.hid (d.out.trans (cw7.mono d.out.size))
 have Z_w7 := Lib.hid (show w6.heap.size ≤ w7.heap.size from cw7.size)
 clear cw7
 have p_B0_0 := (cell_of_row w7 _ 0 _ _ _ B0.out).trans (show _ = some (Value.slice a ss.length cap) from rfl)
 have p_B0_1 := (cell_of_row w7 _ 1 _ _ _ B0.out).trans (show _ = some (Value.int .i64 now) from rfl)
 have p_B1_0 := (cell_of_row w7 _ 0 _ _ _ B1.out).trans (show _ = some (Value.int .i64 3) from rfl)
 have p_B1_1 := (cell_of_row w7 _ 1 _ _ _ B1.out).trans (show _ = some (Value.int .i64 id) from rfl)
 have p_B1_2 := (cell_of_row w7 _ 2 _ _ _ B1.out).trans (show _ = some (Value.slice va xs.length vc) from rfl)
 have p_B1_3 := (cell_of_row w7 _ 3 _ _ _ B1.out).trans (show _ = some (Value.int .i64 f) from rfl)
 have p_B1_4 := (cell_of_row w7 _ 4 _ _ _ B1.out).trans (show _ = some (Value.int .i64 x) from rfl)
 go_wp2_with fail
 clear p_B0_0 p_B0_1 p_B1_0 p_B1_1 p_B1_2 p_B1_3 p_B1_4
 refine (HFI.out w7 (slR_below tVersionS_law H.out d.out)).mono ?_
 rintro e w8 ⟨rfl, cw8⟩
 replace B0 := Lib.hid ((cw8.block w.heap.size (Array.getElem?_eq_some_iff.1 B0.out).1).trans B0.out)
 replace B1 := Lib.hid ((cw8.block (w.heap.size + 1) (Array.getElem?_eq_some_iff.1 B1.out).1).trans B1.out)
 replace BZ := Lib.hid ((cw8.block (w.heap.size + 2) (Array.getElem?_eq_some_iff.1 BZ.out).1).trans BZ.out)
 replace BX := Lib.hid ((cw8.block w4.heap.size (Array.getElem?_eq_some_iff.1 BX.out).1).trans BX.out)
 replace PF := Lib.hid (slO_fresh tVersionS_law PF.out cw8)
 replace d := Lib.hid (d.out.trans (cw8.mono d.out.size))
 have Z_w8 := Lib.hid (show w7.heap.size ≤ w8.heap.size from cw8.size)
 clear cw8
 have p_B0_0 := (cell_of_row w8 _ 0 _ _ _ B0.out).trans (show _ = some (Value.slice a ss.length cap) from rfl)
 have p_B0_1 := (cell_of_row w8 _ 1 _ _ _ B0.out).trans (show _ = some (Value.int .i64 now) from rfl)
 go_wp2_with fail
 clear p_B0_0 p_B0_1
 refine (HRO.out w8 (slR_below tVersionS_law H.out d.out)).mono ?_
 rintro e w9 ⟨rfl, cw9⟩
 replace B0 := Lib.hid ((cw9.block w.heap.size (Array.getElem?_eq_some_iff.1 B0.out).1).trans B0.out)
 replace B1 := Lib.hid ((cw9.block (w.heap.size + 1) (Array.getElem?_eq_some_iff.1 B1.out).1).trans B1.out)
 replace BZ := Lib.hid ((cw9.block (w.heap.size + 2) (Array.getElem?_eq_some_iff.1 BZ.out).1).trans BZ.out)
 replace BX := Lib.hid ((cw9.block w4.heap.size (Array.getElem?_eq_some_iff.1 BX.out).1).trans BX.out)
 replace PF := Lib.hid (slO_fresh tVersionS_law PF.out cw9)
 replace d := Lib.hid (d.out.trans (cw9.mono d.out.size))
 have Z_w9 := Lib.hid (show w8.heap.size ≤ w9.heap.size from cw9.size)
 clear cw9
 have p_B1_0 := (cell_of_row w9 _ 0 _ _ _ B1.out).trans (show _ = some (Value.int .i64 3) from rfl)
 have p_B1_1 := (cell_of_row w9 _ 1 _ _ _ B1.out).trans (show _ = some (Value.int .i64 id) from rfl)
 have p_B1_2 := (cell_of_row w9 _ 2 _ _ _ B1.out).trans (show _ = some (Value.slice va xs.length vc) from rfl)
 have p_B1_3 := (cell_of_row w9 _ 3 _ _ _ B1.out).trans (show _ = some (Value.int .i64 f) from rfl)
 have p_B1_4 := (cell_of_row w9 _ 4 _ _ _ B1.out).trans (show _ = some (Value.int .i64 x) from rfl)
 have p_BX_0 := (cell_of_row w9 _ 0 _ _ _ BX.out).trans (show _ = some (Value.slice fa ss.length fc) from rfl)
 have p_BX_1 := (cell_of_row w9 _ 1 _ _ _ BX.out).trans (show _ = some (Value.int .i64 now) from rfl)
 have p_BZ_0 := (cell_of_row w9 _ 0 _ _ _ BZ.out).trans (show _ = some (Value.slice none 0 0) from rfl)
 have p_BZ_1 := (cell_of_row w9 _ 1 _ _ _ BZ.out).trans (show _ = some (Value.int .i64 0) from rfl)
 have f_BZ_0 := frozen_of_row w9 _ 0 _ _ BZ.out
 have f_BZ_1 := frozen_of_row w9 _ 1 _ _ BZ.out
 have tt : Turn (fun q => q = w.heap.size + 2) w9 ((w9.setCell ⟨w.heap.size + 2, 0, none⟩ (.slice fa ss.length fc)).setCell ⟨w.heap.size + 2, 1, none⟩ (.int .i64 now)) := ((Turn.refl (fun q => q = w.heap.size + 2) _).trans (turn_set (G := fun q => q = w.heap.size + 2) (g := w.heap.size + 2) (j := 0) (u := .slice fa ss.length fc) rfl)).trans (turn_set (G := fun q => q = w.heap.size + 2) (g := w.heap.size + 2) (j := 1) (u := .int .i64 now) rfl)
 have r := heap_setCell_same _ (w.heap.size + 2) 1 _ _ (.int .i64 now) (heap_setCell_same w9 (w.heap.size + 2) 0 _ _ (.slice fa ss.length fc) BZ.out)
 have e0 := cell_of_row _ _ 0 _ _ _ r
 have e1 := cell_of_row _ _ 1 _ _ _ r
 simp at e0 e1
 have y0 := YW.out
 have y1 := Z_w4.out
 have y2 := Y_X.out
 have y3 := Z_w6.out
 have y4 := Z_w7.out
 have y5 := Z_w8.out
 have y6 := Z_w9.out
 have DF := Lib.hid (below_turn d.out tt (fun q h => by omega) d.out.size)
 have PE := Lib.hid (slO_turn tVersionS_law PF.out tt (fun q h1 h2 => by have r1 := QF.out q h1; omega))
 have QE := Lib.hid (fun q h => (show w.heap.size ≤ q by have r1 := QF.out q h; omega))
 clear tt r y0 y1 y2 y3 y4 y5 y6
 go_wp2
 refine bodyPost_ret (v := .tuple #[.agg #[.slice fa ss.length fc, .int .i64 now], .bool false]) ?_ rfl ?_
 ·
  simp [results, Try.f15, go_sem, e0, e1]
 ·
  exact ⟨[.slice fa ss.length fc, .int .i64 now], _, rfl, tStore_mkO PE.out (fun q h => h), QE.out, DF.out⟩
set_option maxHeartbeats 32000000 in
set_option maxRecDepth 100000 in
theorem specApply_setFull (id f x now : Int) (sv vv : Value) (ss : List (List VerD)) (xs : List Int) (w : World) (h : SlR tVersionS w sv ss) (hs : zL tVersionS ss ≤ 1048576) (g : SlR tInt w vv xs) (hn : xs.length ≤ 1048576) (h1 : storeB ss now = true) (h2 : updB (3, (id, xs), f, x) = true) (h3 : now < 100000) (hsg : segI ss id < ss.length) (hrm : ¬ roomI ss < ss.length) :
  Calls Try.prog 15 #[.agg #[sv, .int .i64 now], .agg #[.int .i64 3, .int .i64 id, vv, .int .i64 f, .int .i64 x]] w (FreshNew w (applyB (ss, now) (3, (id, xs), f, x))) := by
 obtain ⟨a, cap, rfl⟩ := slR_len h
 obtain ⟨va, vc, rfl⟩ := slR_len g
 have hlen := zL_len hs
 have H := Lib.hid h
 have G := Lib.hid g
 have HC := Lib.hid (fun W h => specCopy (.slice a ss.length cap) ss now W h hs)
 have HIS := Lib.hid (fun W h => specIsStore (.slice a ss.length cap) ss now W h hs)
 have HIU := Lib.hid (fun W g => specIsUpdate 3 id f x (.slice va xs.length vc) xs W g hn)
 have HFI := Lib.hid (fun W h => specFind (.slice a ss.length cap) ss now id W h hs)
 have HRO := Lib.hid (fun W h => specRoom (.slice a ss.length cap) ss now W h hs)
 clear h g hs hn
 rw [apply_no (fun q => hrm (q.2.2.2.2 (show (3 : Int) ≠ 2 by decide)))]
 rw [h1] at HIS
 rw [h2] at HIU
 have h4 : decide (100000 ≤ now) = false := decide_eq_false (by omega)
 have h5 : ¬ (100000 : Int) ≤ now := by omega
 have HS1 : idxI ss.length (segI ss id) = (segI ss id : Int) := if_pos hsg
 have HS2 : fndJ ss id = (verI (ss.getD (segI ss id) []) id : Int) := if_pos hsg
 rw [HS1, HS2] at HFI
 have i0 : ¬ (segI ss id : Int) < 0 := by omega
 have i1 : decide ((segI ss id : Int) < 0) = false := decide_eq_false (by omega)
 have i2 : (0 : Int) ≤ (segI ss id : Int) := by omega
 have HR1 : idxI ss.length (roomI ss) = -1 := if_neg hrm
 rw [HR1] at HRO
 clear h1 h2 h3 HS1 HS2 HR1 hsg hrm
 have d := Lib.hid (show Below w.heap.size w (((w.alloc (.cells #[.slice a ss.length cap, .int .i64 now] 41)).alloc (.cells #[.int .i64 3, .int .i64 id, .slice va xs.length vc, .int .i64 f, .int .i64 x] 31)).alloc (.cells #[.slice none 0 0, .int .i64 0] 41)) from (((Below.refl _ _).alloc (Nat.le_refl _) _).alloc (by simp <;> omega) _).alloc (by simp <;> omega) _)
 have B0 : Hid ((((w.alloc (.cells #[.slice a ss.length cap, .int .i64 now] 41)).alloc (.cells #[.int .i64 3, .int .i64 id, .slice va xs.length vc, .int .i64 f, .int .i64 x] 31)).alloc (.cells #[.slice none 0 0, .int .i64 0] 41)).heap[w.heap.size]? = some (.cells #[.slice a ss.length cap, .int .i64 now] 41 (0, 0))) := Lib.hid (by
  rw [Below.heap_alloc _ _ _ (by simp <;> omega), Below.heap_alloc _ _ _ (by simp)]; exact heap_alloc_new w _)
 have B1 : Hid ((((w.alloc (.cells #[.slice a ss.length cap, .int .i64 now] 41)).alloc (.cells #[.int .i64 3, .int .i64 id, .slice va xs.length vc, .int .i64 f, .int .i64 x] 31)).alloc (.cells #[.slice none 0 0, .int .i64 0] 41)).heap[(w.heap.size + 1)]? = some (.cells #[.int .i64 3, .int .i64 id, .slice va xs.length vc, .int .i64 f, .int .i64 x] 31 (0, 0))) := Lib.hid (by
  rw [Below.heap_alloc _ _ _ (by simp)]
  have := heap_alloc_new (w.alloc (.cells #[.slice a ss.length cap, .int .i64 now] 41)) (.cells #[.int .i64 3, .int .i64 id, .slice va xs.length vc, .int .i64 f, .int .i64 x] 31)
  simpa only [World.size_alloc] using this)
 have BZ : Hid ((((w.alloc (.cells #[.slice a ss.length cap, .int .i64 now] 41)).alloc (.cells #[.int .i64 3, .int .i64 id, .slice va xs.length vc, .int .i64 f, .int .i64 x] 31)).alloc (.cells #[.slice none 0 0, .int .i64 0] 41)).heap[(w.heap.size + 2)]? = some (.cells #[.slice none 0 0, .int .i64 0] 41 (0, 0))) := Lib.hid (by
  have := heap_alloc_new ((w.alloc (.cells #[.slice a ss.length cap, .int .i64 now] 41)).alloc (.cells #[.int .i64 3, .int .i64 id, .slice va xs.length vc, .int .i64 f, .int .i64 x] 31)) (.cells #[.slice none 0 0, .int .i64 0] 41)
  simpa only [World.size_alloc] using this)
 have YW : Hid (w.heap.size + 2 < (((w.alloc (.cells #[.slice a ss.length cap, .int .i64 now] 41)).alloc (.cells #[.int .i64 3, .int .i64 id, .slice va xs.length vc, .int .i64 f, .int .i64 x] 31)).alloc (.cells #[.slice none 0 0, .int .i64 0] 41)).heap.size) := Lib.hid (by simp)
 go_enter Try.func15, Try.ntmps15
 go_wp2_with fail
 generalize (((w.alloc (.cells #[.slice a ss.length cap, .int .i64 now] 41)).alloc (.cells #[.int .i64 3, .int .i64 id, .slice va xs.length vc, .int .i64 f, .int .i64 x] 31)).alloc (.cells #[.slice none 0 0, .int .i64 0] 41)) = W at *
 refine (HC.out W (slR_below tVersionS_law H.out d.out)).mono ?_
 rintro e w4 ⟨cs, rfl, oc, c4⟩
 obtain ⟨fv, F4, rfl, of, q4⟩ := tStore_O (tStore_law.lt oc)
 obtain ⟨fa, fc, rfl⟩ := slO_len of
 have PF := Lib.hid (slO_mono of q4)
 replace B0 := Lib.hid ((c4.block w.heap.size (Array.getElem?_eq_some_iff.1 B0.out).1).trans B0.out)
 replace B1 := Lib.hid ((c4.block (w.heap.size + 1) (Array.getElem?_eq_some_iff.1 B1.out).1).trans B1.out)
 replace BZ := Lib.hid ((c4.block (w.heap.size + 2) (Array.getElem?_eq_some_iff.1 BZ.out).1).trans BZ.out)
 replace d := Lib.hid (d.out.trans (c4.mono d.out.size))
 have Z_w4 := Lib.hid (show W.heap.size ≤ w4.heap.size from c4.size)
 have QF := Lib.hid (fun q (h : since W q ∧ q < w4.heap.size) => (show W.heap.size ≤ q ∧ q < w4.heap.size from h))
 clear oc of q4 c4
 have hal : Below w4.heap.size w4 (w4.alloc (.cells #[.slice fa ss.length fc, .int .i64 now] 41)) := (Below.refl _ _).alloc (Nat.le_refl _) _
 have BX := Lib.hid (heap_alloc_new w4 (.cells #[.slice fa ss.length fc, .int .i64 now] 41))
 have Y_X := Lib.hid (show w4.heap.size < (w4.alloc (.cells #[.slice fa ss.length fc, .int .i64 now] 41)).heap.size by simp [World.size_alloc])
 replace B0 := Lib.hid ((hal.block w.heap.size (Array.getElem?_eq_some_iff.1 B0.out).1).trans B0.out)
 replace B1 := Lib.hid ((hal.block (w.heap.size + 1) (Array.getElem?_eq_some_iff.1 B1.out).1).trans B1.out)
 replace BZ := Lib.hid ((hal.block (w.heap.size + 2) (Array.getElem?_eq_some_iff.1 BZ.out).1).trans BZ.out)
 replace PF := Lib.hid (slO_fresh tVersionS_law PF.out hal)
 replace d := Lib.hid (d.out.trans (hal.mono d.out.size))
 clear hal
 have p_B0_0 := (cell_of_row (w4.alloc (.cells #[.slice fa ss.length fc, .int .i64 now] 41)) _ 0 _ _ _ B0.out).trans (show _ = some (Value.slice a ss.length cap) from rfl)
 have p_B0_1 := (cell_of_row (w4.alloc (.cells #[.slice fa ss.length fc, .int .i64 now] 41)) _ 1 _ _ _ B0.out).trans (show _ = some (Value.int .i64 now) from rfl)
 go_wp2_with fail
 clear p_B0_0 p_B0_1
 generalize w4.alloc (.cells #[.slice fa ss.length fc, .int .i64 now] 41) = w5 at *
 refine (HIS.out w5 (slR_below tVersionS_law H.out d.out)).mono ?_
 rintro e w6 ⟨rfl, cw6⟩
 replace B0 := Lib.hid ((cw6.block w.heap.size (Array.getElem?_eq_some_iff.1 B0.out).1).trans B0.out)
 replace B1 := Lib.hid ((cw6.block (w.heap.size + 1) (Array.getElem?_eq_some_iff.1 B1.out).1).trans B1.out)
 replace BZ := Lib.hid ((cw6.block (w.heap.size + 2) (Array.getElem?_eq_some_iff.1 BZ.out).1).trans BZ.out)
 replace BX := Lib.hid ((cw6.block w4.heap.size (Array.getElem?_eq_some_iff.1 BX.out).1).trans BX.out)
 replace PF := Lib.hid (slO_fresh tVersionS_law PF.out cw6)
 replace d := Lib.hid (d.out.trans (cw6.mono d.out.size))
 have Z_w6 := Lib.hid (show w5.heap.size ≤ w6.heap.size from cw6.size)
 clear cw6
 have p_B1_0 := (cell_of_row w6 _ 0 _ _ _ B1.out).trans (show _ = some (Value.int .i64 3) from rfl)
 have p_B1_1 := (cell_of_row w6 _ 1 _ _ _ B1.out).trans (show _ = some (Value.int .i64 id) from rfl)
 have p_B1_2 := (cell_of_row w6 _ 2 _ _ _ B1.out).trans (show _ = some (Value.slice va xs.length vc) from rfl)
 have p_B1_3 := (cell_of_row w6 _ 3 _ _ _ B1.out).trans (show _ = some (Value.int .i64 f) from rfl)
 have p_B1_4 := (cell_of_row w6 _ 4 _ _ _ B1.out).trans (show _ = some (Value.int .i64 x) from rfl)
 go_wp2_with fail
 clear p_B1_0 p_B1_1 p_B1_2 p_B1_3 p_B1_4
 refine (HIU.out w6 (slR_ints (slR_below tInt_law G.out d.out))).mono ?_
 rintro e w7 ⟨rfl, cw7⟩
 replace B0 := Lib.hid ((cw7.block w.heap.size (Array.getElem?_eq_some_iff.1 B0.out).1).trans B0.out)
 replace B1 := Lib.hid ((cw7.block (w.heap.size + 1) (Array.getElem?_eq_some_iff.1 B1.out).1).trans B1.out)
 replace BZ := Lib.hid ((cw7.block (w.heap.size + 2) (Array.getElem?_eq_some_iff.1 BZ.out).1).trans BZ.out)
 replace BX := Lib.hid ((cw7.block w4.heap.size (Array.getElem?_eq_some_iff.1 BX.out).1).trans BX.out)
 replace PF := Lib.hid (slO_fresh tVersionS_law PF.out cw7)
 replace d := Lib.hid (d.out.trans (cw7.mono d.out.size))
 have Z_w7 := Lib.hid (show w6.heap.size ≤ w7.heap.size from cw7.size)
 clear cw7
 have p_B0_0 := (cell_of_row w7 _ 0 _ _ _ B0.out).trans (show _ = some (Value.slice a ss.length cap) from rfl)
 have p_B0_1 := (cell_of_row w7 _ 1 _ _ _ B0.out).trans (show _ = some (Value.int .i64 now) from rfl)
 have p_B1_0 := (cell_of_row w7 _ 0 _ _ _ B1.out).trans (show _ = some (Value.int .i64 3) from rfl)
 have p_B1_1 := (cell_of_row w7 _ 1 _ _ _ B1.out).trans (show _ = some (Value.int .i64 id) from rfl)
 have p_B1_2 := (cell_of_row w7 _ 2 _ _ _ B1.out).trans (show _ = some (Value.slice va xs.length vc) from rfl)
 have p_B1_3 := (cell_of_row w7 _ 3 _ _ _ B1.out).trans (show _ = some (Value.int .i64 f) from rfl)
 have p_B1_4 := (cell_of_row w7 _ 4 _ _ _ B1.out).trans (show _ = some (Value.int .i64 x) from rfl)
 go_wp2_with fail
 clear p_B0_0 p_B0_1 p_B1_0 p_B1_1 p_B1_2 p_B1_3 p_B1_4
 refine (HFI.out w7 (slR_below tVersionS_law H.out d.out)).mono ?_
 rintro e w8 ⟨rfl, cw8⟩
 replace B0 := Lib.hid ((cw8.block w.heap.size (Array.getElem?_eq_some_iff.1 B0.out).1).trans B0.out)
 replace B1 := Lib.hid ((cw8.block (w.heap.size + 1) (Array.getElem?_eq_some_iff.1 B1.out).1).trans B1.out)
 replace BZ := Lib.hid ((cw8.block (w.heap.size + 2) (Array.getElem?_eq_some_iff.1 BZ.out).1).trans BZ.out)
 replace BX := Lib.hid ((cw8.block w4.heap.size (Array.getElem?_eq_some_iff.1 BX.out).1).trans BX.out)
 replace PF := Lib.hid (slO_fresh tVersionS_law PF.out cw8)
 replace d := Lib.hid (d.out.trans (cw8.mono d.out.size))
 have Z_w8 := Lib.hid (show w7.heap.size ≤ w8.heap.size from cw8.size)
 clear cw8
 have p_B0_0 := (cell_of_row w8 _ 0 _ _ _ B0.out).trans (show _ = some (Value.slice a ss.length cap) from rfl)
 have p_B0_1 := (cell_of_row w8 _ 1 _ _ _ B0.out).trans (show _ = some (Value.int .i64 now) from rfl)
 go_wp2_with fail
 clear p_B0_0 p_B0_1
 refine (HRO.out w8 (slR_below tVersionS_law H.out d.out)).mono ?_
 rintro e w9 ⟨rfl, cw9⟩
 replace B0 := Lib.hid ((cw9.block w.heap.size (Array.getElem?_eq_some_iff.1 B0.out).1).trans B0.out)
 replace B1 := Lib.hid ((cw9.block (w.heap.size + 1) (Array.getElem?_eq_some_iff.1 B1.out).1).trans B1.out)
 replace BZ := Lib.hid ((cw9.block (w.heap.size + 2) (Array.getElem?_eq_some_iff.1 BZ.out).1).trans BZ.out)
 replace BX := Lib.hid ((cw9.block w4.heap.size (Array.getElem?_eq_some_iff.1 BX.out).1).trans BX.out)
 replace PF := Lib.hid (slO_fresh tVersionS_law PF.out cw9)
 replace d := Lib.hid (d.out.trans (cw9.mono d.out.size))
 have Z_w9 := Lib.hid (show w8.heap.size ≤ w9.heap.size from cw9.size)
 clear cw9
 have p_B1_0 := (cell_of_row w9 _ 0 _ _ _ B1.out).trans (show _ = some (Value.int .i64 3) from rfl)
 have p_B1_1 := (cell_of_row w9 _ 1 _ _ _ B1.out).trans (show _ = some (Value.int .i64 id) from rfl)
 have p_B1_2 := (cell_of_row w9 _ 2 _ _ _ B1.out).trans (show _ = some (Value.slice va xs.length vc) from rfl)
 have p_B1_3 := (cell_of_row w9 _ 3 _ _ _ B1.out).trans (show _ = some (Value.int .i64 f) from rfl)
 have p_B1_4 := (cell_of_row w9 _ 4 _ _ _ B1.out).trans (show _ = some (Value.int .i64 x) from rfl)
 have p_BX_0 := (cell_of_row w9 _ 0 _ _ _ BX.out).trans (show _ = some (Value.slice fa ss.length fc) from rfl)
 have p_BX_1 := (cell_of_row w9 _ 1 _ _ _ BX.out).trans (show _ = some (Value.int .i64 now) from rfl)
 have p_BZ_0 := (cell_of_row w9 _ 0 _ _ _ BZ.out).trans (show _ = some (Value.slice none 0 0) from rfl)
 have p_BZ_1 := (cell_of_row w9 _ 1 _ _ _ BZ.out).trans (show _ = some (Value.int .i64 0) from rfl)
 have f_BZ_0 := frozen_of_row w9 _ 0 _ _ BZ.out
 have f_BZ_1 := frozen_of_row w9 _ 1 _ _ BZ.out
 have tt : Turn (fun q => q = w.heap.size + 2) w9 ((w9.setCell ⟨w.heap.size + 2, 0, none⟩ (.slice fa ss.length fc)).setCell ⟨w.heap.size + 2, 1, none⟩ (.int .i64 now)) := ((Turn.refl (fun q => q = w.heap.size + 2) _).trans (turn_set (G := fun q => q = w.heap.size + 2) (g := w.heap.size + 2) (j := 0) (u := .slice fa ss.length fc) rfl)).trans (turn_set (G := fun q => q = w.heap.size + 2) (g := w.heap.size + 2) (j := 1) (u := .int .i64 now) rfl)
 have r := heap_setCell_same _ (w.heap.size + 2) 1 _ _ (.int .i64 now) (heap_setCell_same w9 (w.heap.size + 2) 0 _ _ (.slice fa ss.length fc) BZ.out)
 have e0 := cell_of_row _ _ 0 _ _ _ r
 have e1 := cell_of_row _ _ 1 _ _ _ r
 simp at e0 e1
 have y0 := YW.out
 have y1 := Z_w4.out
 have y2 := Y_X.out
 have y3 := Z_w6.out
 have y4 := Z_w7.out
 have y5 := Z_w8.out
 have y6 := Z_w9.out
 have DF := Lib.hid (below_turn d.out tt (fun q h => by omega) d.out.size)
 have PE := Lib.hid (slO_turn tVersionS_law PF.out tt (fun q h1 h2 => by have r1 := QF.out q h1; omega))
 have QE := Lib.hid (fun q h => (show w.heap.size ≤ q by have r1 := QF.out q h; omega))
 clear tt r y0 y1 y2 y3 y4 y5 y6
 go_wp2
 refine bodyPost_ret (v := .tuple #[.agg #[.slice fa ss.length fc, .int .i64 now], .bool false]) ?_ rfl ?_
 ·
  simp [results, Try.f15, go_sem, e0, e1]
 ·
  exact ⟨[.slice fa ss.length fc, .int .i64 now], _, rfl, tStore_mkO PE.out (fun q h => h), QE.out, DF.out⟩
end Go.Proofs.Ythiiaiholcfhhaa
