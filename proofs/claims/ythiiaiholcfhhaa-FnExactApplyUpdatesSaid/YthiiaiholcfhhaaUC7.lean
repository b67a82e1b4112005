/-
 Texts of the proof, merged: UpdSpec6.
-/
import Derived.Test.YthiiaiholcfhhaaUC2
import Derived.Test.YthiiaiholcfhhaaUC6
import Derived.Deep.Cut
namespace Go.Proofs.Ythiiaiholcfhhaa
open Go.RowKit
set_option linter.unusedVariables false
set_option linter.unusedSimpArgs false
set_option maxHeartbeats 32000000 in
set_option maxRecDepth 100000 in
theorem specApply_ins (id f x now : Int) (sv vv : Value) (ss : List (List VerD)) (xs : List Int) (w : World) (h : SlR tVersionS w sv ss) (hs : zL tVersionS ss ≤ 1048576) (g : SlR tInt w vv xs) (hn : xs.length ≤ 1048576) (h1 : storeB ss now = true) (h2 : updB (1, (id, xs), f, x) = true) (h3 : now < 100000) (hsg : ¬ segI ss id < ss.length) (hrm : roomI ss < ss.length) :
  Calls Try.prog 15 #[.agg #[sv, .int .i64 now], .agg #[.int .i64 1, .int .i64 id, vv, .int .i64 f, .int .i64 x]] w (FreshNew w (applyB (ss, now) (1, (id, xs), f, x))) := by
 obtain ⟨a, cap, rfl⟩ := slR_len h
 obtain ⟨va, vc, rfl⟩ := slR_len g
 have hlen := zL_len hs
 have H := Lib.hid h
 have G := Lib.hid g
 have HC := Lib.hid (fun W h => specCopy (.slice a ss.length cap) ss now W h hs)
 have HIS := Lib.hid (fun W h => specIsStore (.slice a ss.length cap) ss now W h hs)
 have HIU := Lib.hid (fun W g => specIsUpdate 1 id f x (.slice va xs.length vc) xs W g hn)
 have HFI := Lib.hid (fun W h => specFind (.slice a ss.length cap) ss now id W h hs)
 have HRO := Lib.hid (fun W h => specRoom (.slice a ss.length cap) ss now W h hs)
 clear h g hs hn
 have hok : okP ss now (1, (id, xs), f, x) := ⟨h1, h2, h3, ⟨fun _ => hsg, fun _ => rfl⟩, fun _ => hrm⟩
 have HDN : doneL ss (now + 1) (1, (id, xs), f, x) = addL ss (roomI ss) (id, xs, now + 1, -1) := by unfold doneL; rw [if_pos rfl]
 rw [apply_yes hok, HDN]
 have hrl := room_len hrm
 rw [h1] at HIS
 rw [h2] at HIU
 have h4 : decide (100000 ≤ now) = false := decide_eq_false (by omega)
 have h5 : ¬ (100000 : Int) ≤ now := by omega
 have HS1 : idxI ss.length (segI ss id) = -1 := if_neg hsg
 rw [HS1] at HFI
 have HR1 : idxI ss.length (roomI ss) = (roomI ss : Int) := if_pos hrm
 rw [HR1] at HRO
 have r0 : ¬ (roomI ss : Int) < 0 := by omega
 have r1 : decide ((roomI ss : Int) < 0) = false := decide_eq_false (by omega)
 have r2 : (0 : Int) ≤ (roomI ss : Int) := by omega
 have hnow := (store_iff h1).1.2
 have n0 : 0 ≤ now := hnow.1
 have n1 : now < 100000 := h3
 have HXN : Hid (xs.length ≤ 1048576) := Lib.hid (by
  rcases upd_cases h2 with q | q | q
  ·
   have q2 : xs.length = 3 := rowB_len3 q.2.1; omega
  ·
   exact absurd q.1 (show ¬ (1 : Int) = 2 by decide)
  ·
   exact absurd q.1 (show ¬ (1 : Int) = 3 by decide))
 have HR := Lib.hid hrm
 obtain ⟨l, hl⟩ : ∃ l, l = ss.getD (roomI ss) [] := ⟨_, rfl⟩
 have HLL := Lib.hid hl
 have HRL : Hid (l.length ≤ 1048576) := Lib.hid (by rw [hl]; omega)
 have HAPL : Hid ((l ++ [((id, xs, now + 1, -1) : VerD)]).length = l.length + 1) := Lib.hid (by simp)
 have rr := hrm
 have r3 : (roomI ss : Int) < (ss.length : Int) := by omega
 clear h1 h2 h3 hok HDN HS1 HR1 hsg hrm hnow hrl rr hl
 generalize roomI ss = rmi at *
 have d := Lib.hid (show Below w.heap.size w (((w.alloc (.cells #[.slice a ss.length cap, .int .i64 now] 41)).alloc (.cells #[.int .i64 1, .int .i64 id, .slice va xs.length vc, .int .i64 f, .int .i64 x] 31)).alloc (.cells #[.slice none 0 0, .int .i64 0] 41)) from (((Below.refl _ _).alloc (Nat.le_refl _) _).alloc (by simp <;> omega) _).alloc (by simp <;> omega) _)
 have B0 : Hid ((((w.alloc (.cells #[.slice a ss.length cap, .int .i64 now] 41)).alloc (.cells #[.int .i64 1, .int .i64 id, .slice va xs.length vc, .int .i64 f, .int .i64 x] 31)).alloc (.cells #[.slice none 0 0, .int .i64 0] 41)).heap[w.heap.size]? = some (.cells #[.slice a ss.length cap, .int .i64 now] 41 (0, 0))) := Lib.hid (by
  rw [Below.heap_alloc _ _ _ (by simp <;> omega), Below.heap_alloc _ _ _ (by simp)]; exact heap_alloc_new w _)
 have B1 : Hid ((((w.alloc (.cells #[.slice a ss.length cap, .int .i64 now] 41)).alloc (.cells #[.int .i64 1, .int .i64 id, .slice va xs.length vc, .int .i64 f, .int .i64 x] 31)).alloc (.cells #[.slice none 0 0, .int .i64 0] 41)).heap[(w.heap.size + 1)]? = some (.cells #[.int .i64 1, .int .i64 id, .slice va xs.length vc, .int .i64 f, .int .i64 x] 31 (0, 0))) := Lib.hid (by
  rw [Below.heap_alloc _ _ _ (by simp)]
  have := heap_alloc_new (w.alloc (.cells #[.slice a ss.length cap, .int .i64 now] 41)) (.cells #[.int .i64 1, .int .i64 id, .slice va xs.length vc, .int .i64 f, .int .i64 x] 31)
  simpa only [World.size_alloc] using this)
 have BZ : Hid ((((w.alloc (.cells #[.slice a ss.length cap, .int .i64 now] 41)).alloc (.cells #[.int .i64 1, .int .i64 id, .slice va xs.length vc, .int .i64 f, .int .i64 x] 31)).alloc (.cells #[.slice none 0 0, .int .i64 0] 41)).heap[(w.heap.size + 2)]? = some (.cells #[.slice none 0 0, .int .i64 0] 41 (0, 0))) := Lib.hid (by
  have := heap_alloc_new ((w.alloc (.cells #[.slice a ss.length cap, .int .i64 now] 41)).alloc (.cells #[.int .i64 1, .int .i64 id, .slice va xs.length vc, .int .i64 f, .int .i64 x] 31)) (.cells #[.slice none 0 0, .int .i64 0] 41)
  simpa only [World.size_alloc] using this)
 have YW : Hid (w.heap.size + 2 < (((w.alloc (.cells #[.slice a ss.length cap, .int .i64 now] 41)).alloc (.cells #[.int .i64 1, .int .i64 id, .slice va xs.length vc, .int .i64 f, .int .i64 x] 31)).alloc (.cells #[.slice none 0 0, .int .i64 0] 41)).heap.size) := Lib.hid (by simp)
 go_enter Try.func15, Try.ntmps15
 go_wp2_with fail
 generalize (((w.alloc (.cells #[.slice a ss.length cap, .int .i64 now] 41)).alloc (.cells #[.int .i64 1, .int .i64 id, .slice va xs.length vc, .int .i64 f, .int .i64 x] 31)).alloc (.cells #[.slice none 0 0, .int .i64 0] 41)) = W at *
 refine (HC.out W (slR_below tVersionS_law H.out d.out)).mono ?_
 rintro e w4 ⟨cs, rfl, oc, c4⟩
 obtain ⟨fv, F4, rfl, of, q4⟩ := tStore_O (tStore_law.lt oc)
 obtain ⟨fa, fc, rfl⟩ := slO_len of
 have PF := Lib.hid (slO_mono of q4)
 replace B0 := Lib.hid ((c4.block w.heap.size (Array.getElem?_eq_some_iff.1 B0.out).1).trans B0.out)
 replace B1 := Lib.hid ((c4.block (w.heap.size + 1) (Array.getElem?_eq_some_iff.1 B1.out).1).trans B1.out)
 replace BZ := Lib.hid ((c4.block (w.heap.size + 2) (Array.getElem?_eq_some_iff.1 BZ.out).1).trans BZ.out)
 replace d := Lib.hid (d.out.trans (c4.mono d.out.size))
 have Z_w4 := Lib.hid (show W.heap.size ≤ w4.heap.size from c4.size)
 have QF := Lib.hid (fun q (h : since W q ∧ q < w4.heap.size) => (show W.heap.size ≤ q ∧ q < w4.heap.size from h))
 clear oc of q4 c4
 have hal : Below w4.heap.size w4 (w4.alloc (.cells #[.slice fa ss.length fc, .int .i64 now] 41)) := (Below.refl _ _).alloc (Nat.le_refl _) _
 have BX := Lib.hid (heap_alloc_new w4 (.cells #[.slice fa ss.length fc, .int .i64 now] 41))
 have Y_X := Lib.hid (show w4.heap.size < (w4.alloc (.cells #[.slice fa ss.length fc, .int .i64 now] 41)).heap.size by simp [World.size_alloc])
 replace B0 := Lib.hid ((hal.block w.heap.size (Array.getElem?_eq_some_iff.1 B0.out).1).trans B0.out)
 replace B1 := Lib.hid ((hal.block (w.heap.size + 1) (Array.getElem?_eq_some_iff.1 B1.out).1).trans B1.out)
 replace BZ := Lib.hid ((hal.block (w.heap.size + 2) (Array.getElem?_eq_some_iff.1 BZ.out).1).trans BZ.out)
 replace PF := Lib.hid (slO_fresh tVersionS_law PF.out hal)
 replace d := Lib.hid (d.out.trans (hal.mono d.out.size))
 clear hal
 have p_B0_0 := (cell_of_row (w4.alloc (.cells #[.slice fa ss.length fc, .int .i64 now] 41)) _ 0 _ _ _ B0.out).trans (show _ = some (Value.slice a ss.length cap) from rfl)
 have p_B0_1 := (cell_of_row (w4.alloc (.cells #[.slice fa ss.length fc, .int .i64 now] 41)) _ 1 _ _ _ B0.out).trans (show _ = some (Value.int .i64 now) from rfl)
 go_wp2_with fail
 clear p_B0_0 p_B0_1
 generalize w4.alloc (.cells #[.slice fa ss.length fc, .int .i64 now] 41) = w5 at *
 refine (HIS.out w5 (slR_below tVersionS_law H.out d.out)).mono ?_
 rintro e w6 ⟨rfl, cw6⟩
 replace B0 := Lib.hid ((cw6.block w.heap.size (Array.getElem?_eq_some_iff.1 B0.out).1).trans B0.out)
 replace B1 := Lib.hid ((cw6.block (w.heap.size + 1) (Array.getElem?_eq_some_iff.1 B1.out).1).trans B1.out)
 replace BZ := Lib.hid ((cw6.block (w.heap.size + 2) (Array.getElem?_eq_some_iff.1 BZ.out).1).trans BZ.out)
 replace BX := Lib.hid ((cw6.block w4.heap.size (Array.getElem?_eq_some_iff.1 BX.out).1).trans BX.out)
 replace PF := Lib.hid (slO_fresh tVersionS_law PF.out cw6)
 replace d := Lib.hid (d.out.trans (cw6.mono d.out.size))
 have Z_w6 := Lib.hid (show w5.heap.size ≤ w6.heap.size from cw6.size)
 clear cw6
 have p_B1_0 := (cell_of_row w6 _ 0 _ _ _ B1.out).trans (show _ = some (Value.int .i64 1) from rfl)
 have p_B1_1 := (cell_of_row w6 _ 1 _ _ _ B1.out).trans (show _ = some (Value.int .i64 id) from rfl)
 have p_B1_2 := (cell_of_row w6 _ 2 _ _ _ B1.out).trans (show _ = some (Value.slice va xs.length vc) from rfl)
 have p_B1_3 := (cell_of_row w6 _ 3 _ _ _ B1.out).trans (show _ = some (Value.int .i64 f) from rfl)
 have p_B1_4 := (cell_of_row w6 _ 4 _ _ _ B1.out).trans (show _ = some (Value.int .i64 x) from rfl)
 go_wp2_with fail
 clear p_B1_0 p_B1_1 p_B1_2 p_B1_3 p_B1_4
 refine (HIU.out w6 (slR_ints (slR_below tInt_law G.out d.out))).mono ?_
 rintro e w7 ⟨rfl, cw7⟩
 replace B0 := Lib.hid ((cw7.block w.heap.size (Array.getElem?_eq_some_iff.1 B0.out).1).trans B0.out)
 replace B1 := Lib.hid ((cw7.block (w.heap.size + 1) (Array.getElem?_eq_some_iff.1 B1.out).1).trans B1.out)
 replace BZ := Lib.hid ((cw7.block (w.heap.size + 2) (Array.getElem?_eq_some_iff.1 BZ.out).1).trans BZ.out)
 replace BX := Lib.hid ((cw7.block w4.heap.size (Array.getElem?_eq_some_iff.1 BX.out).1).trans BX.out)
 replace PF := Lib.hid (slO_fresh tVersionS_law PF.out cw7)
 replace d := Lib.hid (d.out.trans (cw7.mono d.out.size))
 have Z_w7 := Lib.hid (show w6.heap.size ≤ w7.heap.size from cw7.size)
 clear cw7
 have p_B0_0 := (cell_of_row w7 _ 0 _ _ _ B0.out).trans (show _ = some (Value.slice a ss.length cap) from rfl)
 have p_B0_1 := (cell_of_row w7 _ 1 _ _ _ B0.out).trans (show _ = some (Value.int .i64 now) from rfl)
 have p_B1_0 := (cell_of_row w7 _ 0 _ _ _ B1.out).trans (show _ = some (Value.int .i64 1) from rfl)
 have p_B1_1 := (cell_of_row w7 _ 1 _ _ _ B1.out).trans (show _ = some (Value.int .i64 id) from rfl)
 have p_B1_2 := (cell_of_row w7 _ 2 _ _ _ B1.out).trans (show _ = some (Value.slice va xs.length vc) from rfl)
 have p_B1_3 := (cell_of_row w7 _ 3 _ _ _ B1.out).trans (show _ = some (Value.int .i64 f) from rfl)
 have p_B1_4 := (cell_of_row w7 _ 4 _ _ _ B1.out).trans (show _ = some (Value.int .i64 x) from rfl)
 go_wp2_with fail
 clear p_B0_0 p_B0_1 p_B1_0 p_B1_1 p_B1_2 p_B1_3 p_B1_4
 refine (HFI.out w7 (slR_below tVersionS_law H.out d.out)).mono ?_
 rintro e w8 ⟨rfl, cw8⟩
 replace B0 := Lib.hid ((cw8.block w.heap.size (Array.getElem?_eq_some_iff.1 B0.out).1).trans B0.out)
 replace B1 := Lib.hid ((cw8.block (w.heap.size + 1) (Array.getElem?_eq_some_iff.1 B1.out).1).trans B1.out)
 replace BZ := Lib.hid ((cw8.block (w.heap.size + 2) (Array.getElem?_eq_some_iff.1 BZ.out).1).trans BZ.out)
 replace BX := Lib.hid ((cw8.block w4.heap.size (Array.getElem?_eq_some_iff.1 BX.out).1).trans BX.out)
 replace PF := Lib.hid (slO_fresh tVersionS_law PF.out cw8)
 replace d := Lib.hid (d.out.trans (cw8.mono d.out.size))
 have Z_w8 := Lib.hid (show w7.heap.size ≤ w8.heap.size from cw8.size)
 clear cw8
 have p_B0_0 := (cell_of_row w8 _ 0 _ _ _ B0.out).trans (show _ = some (Value.slice a ss.length cap) from rfl)
 have p_B0_1 := (cell_of_row w8 _ 1 _ _ _ B0.out).trans (show _ = some (Value.int .i64 now) from rfl)
 go_wp2_with fail
 clear p_B0_0 p_B0_1
 refine (HRO.out w8 (slR_below tVersionS_law H.out d.out)).mono ?_
 rintro e w9 ⟨rfl, cw9⟩
 replace B0 := Lib.hid ((cw9.block w.heap.size (Array.getElem?_eq_some_iff.1 B0.out).1).trans B0.out)
 replace B1 := Lib.hid ((cw9.block (w.heap.size + 1) (Array.getElem?_eq_some_iff.1 B1.out).1).trans B1.out)
 replace BZ := Lib.hid ((cw9.block (w.heap.size + 2) (Array.getElem?_eq_some_iff.1 BZ.out).1).trans BZ.out)
 replace BX := Lib.hid ((cw9.block w4.heap.size (Array.getElem?_eq_some_iff.1 BX.out).1).trans BX.out)
 replace PF := Lib.hid (slO_fresh tVersionS_law PF.out cw9)
 replace d := Lib.hid (d.out.trans (cw9.mono d.out.size))
 have Z_w9 := Lib.hid (show w8.heap.size ≤ w9.heap.size from cw9.size)
 clear cw9
 have p_B0_0 := (cell_of_row w9 _ 0 _ _ _ B0.out).trans (show _ = some (Value.slice a ss.length cap) from rfl)
 have p_B0_1 := (cell_of_row w9 _ 1 _ _ _ B0.out).trans (show _ = some (Value.int .i64 now) from rfl)
 have p_B1_0 := (cell_of_row w9 _ 0 _ _ _ B1.out).trans (show _ = some (Value.int .i64 1) from rfl)
 have p_B1_1 := (cell_of_row w9 _ 1 _ _ _ B1.out).trans (show _ = some (Value.int .i64 id) from rfl)
 have p_B1_2 := (cell_of_row w9 _ 2 _ _ _ B1.out).trans (show _ = some (Value.slice va xs.length vc) from rfl)
 have p_B1_3 := (cell_of_row w9 _ 3 _ _ _ B1.out).trans (show _ = some (Value.int .i64 f) from rfl)
 have p_B1_4 := (cell_of_row w9 _ 4 _ _ _ B1.out).trans (show _ = some (Value.int .i64 x) from rfl)
 have p_BX_0 := (cell_of_row w9 _ 0 _ _ _ BX.out).trans (show _ = some (Value.slice fa ss.length fc) from rfl)
 have p_BX_1 := (cell_of_row w9 _ 1 _ _ _ BX.out).trans (show _ = some (Value.int .i64 now) from rfl)
 have f_BX_1 := frozen_of_row w9 _ 1 _ _ BX.out
 go_upto_region 9 with fail
 clear p_B0_0 p_B0_1 p_B1_0 p_B1_1 p_B1_2 p_B1_3 p_B1_4 p_BX_0 p_BX_1 f_BX_1
 have tt : Turn (fun q => q = w4.heap.size) w9 (w9.setCell ⟨w4.heap.size, 1, none⟩ (.int .i64 (now + 1))) := turn_set (G := fun q => q = w4.heap.size) (g := w4.heap.size) (j := 1) (u := .int .i64 (now + 1)) rfl
 have r := heap_setCell_same w9 (w4.heap.size) 1 _ _ (.int .i64 (now + 1)) BX.out
 simp at r
 generalize (w9.setCell ⟨w4.heap.size, 1, none⟩ (.int .i64 (now + 1))) = w10 at *
 have y0 := YW.out
 have y1 := Z_w4.out
 have y2 := Y_X.out
 have y3 := Z_w6.out
 have y4 := Z_w7.out
 have y5 := Z_w8.out
 have y6 := Z_w9.out
 have yd : w.heap.size ≤ w9.heap.size := d.out.size
 replace B0 := Lib.hid ((tt.block w.heap.size (Array.getElem?_eq_some_iff.1 B0.out).1 (fun h => by have r2 : _ = w4.heap.size := h; omega)).trans B0.out)
 replace B1 := Lib.hid ((tt.block (w.heap.size + 1) (Array.getElem?_eq_some_iff.1 B1.out).1 (fun h => by have r2 : _ = w4.heap.size := h; omega)).trans B1.out)
 replace BZ := Lib.hid ((tt.block (w.heap.size + 2) (Array.getElem?_eq_some_iff.1 BZ.out).1 (fun h => by have r2 : _ = w4.heap.size := h; omega)).trans BZ.out)
 replace PF := Lib.hid (slO_turn tVersionS_law PF.out tt (fun b h1 h2 => by have r1 := QF.out b h1; have r2 : _ = w4.heap.size := h2; omega))
 replace d := Lib.hid (below_turn d.out tt (fun b h => by have r2 : _ = w4.heap.size := h; omega) (by omega))
 have Z_w10 := Lib.hid (show w9.heap.size ≤ w10.heap.size from tt.size)
 clear yd y0 y1 y2 y3 y4 y5 y6
 replace BX : Hid (w10.heap[w4.heap.size]? = some (.cells #[.slice fa ss.length fc, .int .i64 (now + 1)] 41 (0, 0))) := Lib.hid r
 clear r tt
 go_cut [10] from 57 (fun s10 wx => ∃ (V : Nat) (ua : Option Addr) (uc : Nat) (KV : Nat → Prop), s10 = .pointer (some ⟨V, 0, none⟩) ∧ wx.heap[V]? = some (.cells #[.int .i64 id, .slice ua xs.length uc, .int .i64 (now + 1), .int .i64 (-1)] 88 (0, 0)) ∧ w10.heap.size ≤ V ∧ V < wx.heap.size ∧ SlO 3 tInt wx KV (.slice ua xs.length uc) xs ∧ (∀ q, KV q → w10.heap.size ≤ q ∧ q < wx.heap.size ∧ q ≠ V) ∧ Below w10.heap.size w10 wx)
 case first =>
  have DD := d
  clear d
  replace G := Lib.hid (slR_below tInt_law G.out DD.out)
  have d := Lib.hid (Below.refl w10.heap.size w10)
  go_wp2
  have p_B1_0 := (cell_of_row w10 _ 0 _ _ _ B1.out).trans (show _ = some (Value.int .i64 1) from rfl)
  have p_B1_1 := (cell_of_row w10 _ 1 _ _ _ B1.out).trans (show _ = some (Value.int .i64 id) from rfl)
  have p_B1_2 := (cell_of_row w10 _ 2 _ _ _ B1.out).trans (show _ = some (Value.slice va xs.length vc) from rfl)
  have p_B1_3 := (cell_of_row w10 _ 3 _ _ _ B1.out).trans (show _ = some (Value.int .i64 f) from rfl)
  have p_B1_4 := (cell_of_row w10 _ 4 _ _ _ B1.out).trans (show _ = some (Value.int .i64 x) from rfl)
  have p_BX_0 := (cell_of_row w10 _ 0 _ _ _ BX.out).trans (show _ = some (Value.slice fa ss.length fc) from rfl)
  have p_BX_1 := (cell_of_row w10 _ 1 _ _ _ BX.out).trans (show _ = some (Value.int .i64 (now + 1)) from rfl)
  refine wp_region_held_drew (S := fun w' => w'.cell? ⟨(w.heap.size + 1), 0, none⟩ = some (Value.int .i64 1) ∧ w'.cell? ⟨(w.heap.size + 1), 1, none⟩ = some (Value.int .i64 id) ∧ w'.cell? ⟨(w.heap.size + 1), 2, none⟩ = some (Value.slice va xs.length vc) ∧ w'.cell? ⟨(w.heap.size + 1), 3, none⟩ = some (Value.int .i64 f) ∧ w'.cell? ⟨(w.heap.size + 1), 4, none⟩ = some (Value.int .i64 x) ∧ w'.cell? ⟨w4.heap.size, 0, none⟩ = some (Value.slice fa ss.length fc) ∧ w'.cell? ⟨w4.heap.size, 1, none⟩ = some (Value.int .i64 (now + 1))) (by kernel_rfl) ⟨p_B1_0, p_B1_1, p_B1_2, p_B1_3, p_B1_4, p_BX_0, p_BX_1⟩ (fun hHeld => ?_)
  clear p_B1_0 p_B1_1 p_B1_2 p_B1_3 p_B1_4 p_BX_0 p_BX_1
  have cdr : Below w10.heap.size w10 w10.drew := below_drew (Below.refl _ _)
  replace B1 := Lib.hid ((cdr.block (w.heap.size + 1) (Array.getElem?_eq_some_iff.1 B1.out).1).trans B1.out)
  replace BX := Lib.hid ((cdr.block w4.heap.size (Array.getElem?_eq_some_iff.1 BX.out).1).trans BX.out)
  replace d := Lib.hid (d.out.trans (cdr.mono d.out.size))
  clear cdr
  have Z_dr := Lib.hid (show w10.heap.size ≤ w10.drew.heap.size from Nat.le_refl _)
  generalize w10.drew = Wd at *
  refine tR (i := 0) (v := ?_) ?_ ?_; rotate_left
  ·
   intro w hSw; (try dsimp only at hSw); go_simp; try (with_reducible rfl)
  try simp only [Act.put, lA, lB, lC]
  refine tR (i := 1) (v := ?_) ?_ ?_; rotate_left
  ·
   intro w hSw; (try dsimp only at hSw); go_simp; try (with_reducible rfl)
  try simp only [Act.put, lA, lB, lC]
  refine tR (i := 2) (v := ?_) ?_ ?_; rotate_left
  ·
   intro w hSw; (try dsimp only at hSw); go_simp; try (with_reducible rfl)
  try simp only [Act.put, lA, lB, lC]
  refine tR (i := 4) (v := ?_) ?_ ?_; rotate_left
  ·
   intro w hSw; (try dsimp only at hSw); go_simp; try (with_reducible rfl)
  try simp only [Act.put, lA, lB, lC]
  refine tR (i := 5) (v := ?_) ?_ ?_; rotate_left
  ·
   intro w hSw; (try dsimp only at hSw); go_simp; try (with_reducible rfl)
  try simp only [Act.put, lA, lB, lC]
  refine tR (i := 6) (v := ?_) ?_ ?_; rotate_left
  ·
   intro w hSw; (try dsimp only at hSw); go_simp; try (with_reducible rfl)
  try simp only [Act.put, lA, lB, lC]
  refine tR (i := 8) (v := ?_) ?_ ?_; rotate_left
  ·
   intro w hSw; (try dsimp only at hSw); go_simp; try (with_reducible rfl)
  try simp only [Act.put, lA, lB, lC]
  refine tR (i := 9) (v := ?_) ?_ ?_; rotate_left
  ·
   intro w hSw; (try dsimp only at hSw); go_simp; try (with_reducible rfl)
  try simp only [Act.put, lA, lB, lC]
  refine wpAnyH_ready (rs := [3, 11]) (by kernel_rfl) (by simp) ?_
  refine (AllReadyH.cons (o := _) (by simp only [hA, hB, hC]; rfl) (fun K hK => ?_) (AllReadyH.cons (o := _) (by simp only [hA, hB, hC]; rfl) (fun K hK => ?_) AllReadyH.nil))
  ·
   go_simp
   have hal : Below Wd.heap.size Wd (Wd.alloc (.cells #[] 3)) := (Below.refl _ _).alloc (Nat.le_refl _) _
   have Y_i := Lib.hid (show Wd.heap.size < (Wd.alloc (.cells #[] 3)).heap.size by simp [World.size_alloc])
   replace B1 := Lib.hid ((hal.block (w.heap.size + 1) (Array.getElem?_eq_some_iff.1 B1.out).1).trans B1.out)
   replace BX := Lib.hid ((hal.block w4.heap.size (Array.getElem?_eq_some_iff.1 BX.out).1).trans BX.out)
   replace d := Lib.hid (d.out.trans (hal.mono d.out.size))
   have PI := Lib.hid (slO_empty (T := tInt) Wd 3 (fun b => b = Wd.heap.size) rfl)
   have QI := Lib.hid (fun b (h : b = Wd.heap.size) => h)
   clear hal
   generalize (Wd.alloc (.cells #[] 3)) = V1 at *
   have p_B1_0 := (cell_of_row V1 _ 0 _ _ _ B1.out).trans (show _ = some (Value.int .i64 1) from rfl)
   have p_B1_1 := (cell_of_row V1 _ 1 _ _ _ B1.out).trans (show _ = some (Value.int .i64 id) from rfl)
   have p_B1_2 := (cell_of_row V1 _ 2 _ _ _ B1.out).trans (show _ = some (Value.slice va xs.length vc) from rfl)
   have p_B1_3 := (cell_of_row V1 _ 3 _ _ _ B1.out).trans (show _ = some (Value.int .i64 f) from rfl)
   have p_B1_4 := (cell_of_row V1 _ 4 _ _ _ B1.out).trans (show _ = some (Value.int .i64 x) from rfl)
   have p_BX_0 := (cell_of_row V1 _ 0 _ _ _ BX.out).trans (show _ = some (Value.slice fa ss.length fc) from rfl)
   have p_BX_1 := (cell_of_row V1 _ 1 _ _ _ BX.out).trans (show _ = some (Value.int .i64 (now + 1)) from rfl)
   refine hK.out _ _ ⟨p_B1_0, p_B1_1, p_B1_2, p_B1_3, p_B1_4, p_BX_0, p_BX_1⟩ (fun hHeld => ?_)
   clear p_B1_0 p_B1_1 p_B1_2 p_B1_3 p_B1_4 p_BX_0 p_BX_1
   clear hK K
   try simp only [Act.put, lA, lB, lC]
   refine wpAnyH_ready (rs := [7, 11]) (by kernel_rfl) (by simp) ?_
   refine (AllReadyH.cons (o := _) (by simp only [hA, hB, hC]; rfl) (fun K hK => ?_) (AllReadyH.cons (o := _) (by simp only [hA, hB, hC]; rfl) (fun K hK => ?_) AllReadyH.nil))
   ·
    refine step_append_flat tInt_law flat_int info_T_int Try.underlying22 rfl rfl (.tmp 60) (.tmp 63) rfl (fun b => b = Wd.heap.size) (fun b => (fun b => b = Wd.heap.size) b ∨ b = V1.heap.size) _ _ [] xs rfl rfl PI.out (slR_below tInt_law G.out d.out) (fun b h => Or.inl h) (Or.inr rfl) (by have := HXN.out; simp; omega) ?_
    intro u V2 oB tB
    rw [List.nil_append] at oB
    obtain ⟨ua, uc, rfl⟩ := slO_len oB
    have y0 := YW.out
    have y1 := Z_w4.out
    have y2 := Y_X.out
    have y3 := Z_w6.out
    have y4 := Z_w7.out
    have y5 := Z_w8.out
    have y6 := Z_w9.out
    have y7 := Z_w10.out
    have y8 := Z_dr.out
    have y9 := Y_i.out
    have yd : w10.heap.size ≤ V1.heap.size := d.out.size
    replace B1 := Lib.hid ((tB.block (w.heap.size + 1) (Array.getElem?_eq_some_iff.1 B1.out).1 (fun h => by have r2 := QI.out _ h; omega)).trans B1.out)
    replace BX := Lib.hid ((tB.block w4.heap.size (Array.getElem?_eq_some_iff.1 BX.out).1 (fun h => by have r2 := QI.out _ h; omega)).trans BX.out)
    replace d := Lib.hid (below_turn d.out tB (fun b h => by have r2 := QI.out _ h; omega) (by omega))
    have Z_V2 := Lib.hid (show V1.heap.size ≤ V2.heap.size from tB.size)
    clear yd y0 y1 y2 y3 y4 y5 y6 y7 y8 y9
    replace PI := Lib.hid (slO_lt tInt_law oB)
    replace QI := Lib.hid (fun b (h : ((fun b => b = Wd.heap.size) b ∨ b = V1.heap.size) ∧ b < V2.heap.size) => (show (b = Wd.heap.size ∨ b = V1.heap.size) ∧ b < V2.heap.size from h))
    clear oB tB
    have p_B1_0 := (cell_of_row V2 _ 0 _ _ _ B1.out).trans (show _ = some (Value.int .i64 1) from rfl)
    have p_B1_1 := (cell_of_row V2 _ 1 _ _ _ B1.out).trans (show _ = some (Value.int .i64 id) from rfl)
    have p_B1_2 := (cell_of_row V2 _ 2 _ _ _ B1.out).trans (show _ = some (Value.slice va xs.length vc) from rfl)
    have p_B1_3 := (cell_of_row V2 _ 3 _ _ _ B1.out).trans (show _ = some (Value.int .i64 f) from rfl)
    have p_B1_4 := (cell_of_row V2 _ 4 _ _ _ B1.out).trans (show _ = some (Value.int .i64 x) from rfl)
    have p_BX_0 := (cell_of_row V2 _ 0 _ _ _ BX.out).trans (show _ = some (Value.slice fa ss.length fc) from rfl)
    have p_BX_1 := (cell_of_row V2 _ 1 _ _ _ BX.out).trans (show _ = some (Value.int .i64 (now + 1)) from rfl)
    refine hK.out _ _ ⟨p_B1_0, p_B1_1, p_B1_2, p_B1_3, p_B1_4, p_BX_0, p_BX_1⟩ (fun hHeld => ?_)
    clear p_B1_0 p_B1_1 p_B1_2 p_B1_3 p_B1_4 p_BX_0 p_BX_1
    clear hK K
    try simp only [Act.put, lA, lB, lC]
    refine tR (i := 10) (v := ?_) ?_ ?_; rotate_left
    ·
     intro w hSw; (try dsimp only at hSw); go_simp; try (with_reducible rfl)
    try simp only [Act.put, lA, lB, lC]
    refine wpAnyH_ready (rs := [11]) (by kernel_rfl) (by simp) ?_
    refine (AllReadyH.cons (o := _) (by simp only [hA, hB, hC]; rfl) (fun K hK => ?_) AllReadyH.nil)
    go_simp
    have hal : Below V2.heap.size V2 (V2.alloc (.cells #[.int .i64 0, .slice none 0 0, .int .i64 0, .int .i64 0] 88)) := (Below.refl _ _).alloc (Nat.le_refl _) _
    have BV := Lib.hid (heap_alloc_new V2 (.cells #[.int .i64 0, .slice none 0 0, .int .i64 0, .int .i64 0] 88))
    have Y_v := Lib.hid (show V2.heap.size < (V2.alloc (.cells #[.int .i64 0, .slice none 0 0, .int .i64 0, .int .i64 0] 88)).heap.size by simp [World.size_alloc])
    replace B1 := Lib.hid ((hal.block (w.heap.size + 1) (Array.getElem?_eq_some_iff.1 B1.out).1).trans B1.out)
    replace BX := Lib.hid ((hal.block w4.heap.size (Array.getElem?_eq_some_iff.1 BX.out).1).trans BX.out)
    replace PI := Lib.hid (slO_fresh tInt_law PI.out hal)
    replace d := Lib.hid (d.out.trans (hal.mono d.out.size))
    clear hal
    generalize (V2.alloc (.cells #[.int .i64 0, .slice none 0 0, .int .i64 0, .int .i64 0] 88)) = V3 at *
    have p_B1_0 := (cell_of_row V3 _ 0 _ _ _ B1.out).trans (show _ = some (Value.int .i64 1) from rfl)
    have p_B1_1 := (cell_of_row V3 _ 1 _ _ _ B1.out).trans (show _ = some (Value.int .i64 id) from rfl)
    have p_B1_2 := (cell_of_row V3 _ 2 _ _ _ B1.out).trans (show _ = some (Value.slice va xs.length vc) from rfl)
    have p_B1_3 := (cell_of_row V3 _ 3 _ _ _ B1.out).trans (show _ = some (Value.int .i64 f) from rfl)
    have p_B1_4 := (cell_of_row V3 _ 4 _ _ _ B1.out).trans (show _ = some (Value.int .i64 x) from rfl)
    have p_BX_0 := (cell_of_row V3 _ 0 _ _ _ BX.out).trans (show _ = some (Value.slice fa ss.length fc) from rfl)
    have p_BX_1 := (cell_of_row V3 _ 1 _ _ _ BX.out).trans (show _ = some (Value.int .i64 (now + 1)) from rfl)
    refine hK.out _ _ ⟨p_B1_0, p_B1_1, p_B1_2, p_B1_3, p_B1_4, p_BX_0, p_BX_1⟩ (fun hHeld => ?_)
    clear p_B1_0 p_B1_1 p_B1_2 p_B1_3 p_B1_4 p_BX_0 p_BX_1
    clear hK K
    try simp only [Act.put, lA, lB, lC]
    refine wpAnyH_ready (rs := [12]) (by kernel_rfl) (by simp) ?_
    refine (AllReadyH.cons (o := _) (by simp only [hA, hB, hC]; rfl) (fun K hK => ?_) AllReadyH.nil)
    have p_BV_0 := (cell_of_row V3 _ 0 _ _ _ BV.out).trans (show _ = some (Value.int .i64 0) from rfl)
    have p_BV_1 := (cell_of_row V3 _ 1 _ _ _ BV.out).trans (show _ = some (Value.slice none 0 0) from rfl)
    have p_BV_2 := (cell_of_row V3 _ 2 _ _ _ BV.out).trans (show _ = some (Value.int .i64 0) from rfl)
    have p_BV_3 := (cell_of_row V3 _ 3 _ _ _ BV.out).trans (show _ = some (Value.int .i64 0) from rfl)
    have f_BV_0 := frozen_of_row V3 _ 0 _ _ BV.out
    have f_BV_1 := frozen_of_row V3 _ 1 _ _ BV.out
    have f_BV_2 := frozen_of_row V3 _ 2 _ _ BV.out
    have f_BV_3 := frozen_of_row V3 _ 3 _ _ BV.out
    go_simp
    clear p_BV_0 p_BV_1 p_BV_2 p_BV_3 f_BV_0 f_BV_1 f_BV_2 f_BV_3
    have tt : Turn (fun q => q = V2.heap.size) V3 ((((V3.setCell ⟨V2.heap.size, 0, none⟩ (.int .i64 id)).setCell ⟨V2.heap.size, 1, none⟩ (.slice ua xs.length uc)).setCell ⟨V2.heap.size, 2, none⟩ (.int .i64 (now + 1))).setCell ⟨V2.heap.size, 3, none⟩ (.int .i64 (-1))) := (((((Turn.refl (fun q => q = V2.heap.size) V3).trans (turn_set (G := fun q => q = V2.heap.size) (g := V2.heap.size) (j := 0) (u := .int .i64 id) rfl)).trans (turn_set (G := fun q => q = V2.heap.size) (g := V2.heap.size) (j := 1) (u := .slice ua xs.length uc) rfl)).trans (turn_set (G := fun q => q = V2.heap.size) (g := V2.heap.size) (j := 2) (u := .int .i64 (now + 1)) rfl)).trans (turn_set (G := fun q => q = V2.heap.size) (g := V2.heap.size) (j := 3) (u := .int .i64 (-1)) rfl))
    have r := (heap_setCell_same _ (V2.heap.size) 3 _ _ (.int .i64 (-1)) (heap_setCell_same _ (V2.heap.size) 2 _ _ (.int .i64 (now + 1)) (heap_setCell_same _ (V2.heap.size) 1 _ _ (.slice ua xs.length uc) (heap_setCell_same V3 (V2.heap.size) 0 _ _ (.int .i64 id) BV.out))))
    simp at r
    generalize ((((V3.setCell ⟨V2.heap.size, 0, none⟩ (.int .i64 id)).setCell ⟨V2.heap.size, 1, none⟩ (.slice ua xs.length uc)).setCell ⟨V2.heap.size, 2, none⟩ (.int .i64 (now + 1))).setCell ⟨V2.heap.size, 3, none⟩ (.int .i64 (-1))) = V4 at *
    have y0 := YW.out
    have y1 := Z_w4.out
    have y2 := Y_X.out
    have y3 := Z_w6.out
    have y4 := Z_w7.out
    have y5 := Z_w8.out
    have y6 := Z_w9.out
    have y7 := Z_w10.out
    have y8 := Z_dr.out
    have y9 := Y_i.out
    have y10 := Z_V2.out
    have y11 := Y_v.out
    have yd : w10.heap.size ≤ V3.heap.size := d.out.size
    replace B1 := Lib.hid ((tt.block (w.heap.size + 1) (Array.getElem?_eq_some_iff.1 B1.out).1 (fun h => by have r2 : _ = V2.heap.size := h; omega)).trans B1.out)
    replace BX := Lib.hid ((tt.block w4.heap.size (Array.getElem?_eq_some_iff.1 BX.out).1 (fun h => by have r2 : _ = V2.heap.size := h; omega)).trans BX.out)
    replace PI := Lib.hid (slO_turn tInt_law PI.out tt (fun b h1 h2 => by have r1 := QI.out b h1; have r2 : _ = V2.heap.size := h2; omega))
    replace d := Lib.hid (below_turn d.out tt (fun b h => by have r2 : _ = V2.heap.size := h; omega) (by omega))
    have Z_V4 := Lib.hid (show V3.heap.size ≤ V4.heap.size from tt.size)
    clear yd y0 y1 y2 y3 y4 y5 y6 y7 y8 y9 y10 y11
    replace BV : Hid (V4.heap[V2.heap.size]? = some (.cells #[.int .i64 id, .slice ua xs.length uc, .int .i64 (now + 1), .int .i64 (-1)] 88 (0, 0))) := Lib.hid r
    clear r tt
    have p_B1_0 := (cell_of_row V4 _ 0 _ _ _ B1.out).trans (show _ = some (Value.int .i64 1) from rfl)
    have p_B1_1 := (cell_of_row V4 _ 1 _ _ _ B1.out).trans (show _ = some (Value.int .i64 id) from rfl)
    have p_B1_2 := (cell_of_row V4 _ 2 _ _ _ B1.out).trans (show _ = some (Value.slice va xs.length vc) from rfl)
    have p_B1_3 := (cell_of_row V4 _ 3 _ _ _ B1.out).trans (show _ = some (Value.int .i64 f) from rfl)
    have p_B1_4 := (cell_of_row V4 _ 4 _ _ _ B1.out).trans (show _ = some (Value.int .i64 x) from rfl)
    have p_BX_0 := (cell_of_row V4 _ 0 _ _ _ BX.out).trans (show _ = some (Value.slice fa ss.length fc) from rfl)
    have p_BX_1 := (cell_of_row V4 _ 1 _ _ _ BX.out).trans (show _ = some (Value.int .i64 (now + 1)) from rfl)
    refine hK.out _ _ ⟨p_B1_0, p_B1_1, p_B1_2, p_B1_3, p_B1_4, p_BX_0, p_BX_1⟩ (fun hHeld => ?_)
    clear p_B1_0 p_B1_1 p_B1_2 p_B1_3 p_B1_4 p_BX_0 p_BX_1
    clear hK K
    try simp only [Act.put, lA, lB, lC]
    refine wpAnyH_done (by kernel_rfl) ?_ _
    clear hHeld
    go_wp2
    go_meet
    have y0 := YW.out
    have y1 := Z_w4.out
    have y2 := Y_X.out
    have y3 := Z_w6.out
    have y4 := Z_w7.out
    have y5 := Z_w8.out
    have y6 := Z_w9.out
    have y7 := Z_w10.out
    have y8 := Z_dr.out
    have y9 := Y_i.out
    have y10 := Z_V2.out
    have y11 := Y_v.out
    have y12 := Z_V4.out
    case rel => exact ⟨_, _, _, _, rfl, BV.out, by omega, (Array.getElem?_eq_some_iff.1 BV.out).1, PI.out, fun q hq => (by have r := QI.out q hq; omega), d.out⟩
   ·
    go_simp
    have hal : Below V1.heap.size V1 (V1.alloc (.cells #[.int .i64 0, .slice none 0 0, .int .i64 0, .int .i64 0] 88)) := (Below.refl _ _).alloc (Nat.le_refl _) _
    have BV := Lib.hid (heap_alloc_new V1 (.cells #[.int .i64 0, .slice none 0 0, .int .i64 0, .int .i64 0] 88))
    have Y_v := Lib.hid (show V1.heap.size < (V1.alloc (.cells #[.int .i64 0, .slice none 0 0, .int .i64 0, .int .i64 0] 88)).heap.size by simp [World.size_alloc])
    replace B1 := Lib.hid ((hal.block (w.heap.size + 1) (Array.getElem?_eq_some_iff.1 B1.out).1).trans B1.out)
    replace BX := Lib.hid ((hal.block w4.heap.size (Array.getElem?_eq_some_iff.1 BX.out).1).trans BX.out)
    replace PI := Lib.hid (slO_fresh tInt_law PI.out hal)
    replace d := Lib.hid (d.out.trans (hal.mono d.out.size))
    clear hal
    generalize (V1.alloc (.cells #[.int .i64 0, .slice none 0 0, .int .i64 0, .int .i64 0] 88)) = V2 at *
    have p_B1_0 := (cell_of_row V2 _ 0 _ _ _ B1.out).trans (show _ = some (Value.int .i64 1) from rfl)
    have p_B1_1 := (cell_of_row V2 _ 1 _ _ _ B1.out).trans (show _ = some (Value.int .i64 id) from rfl)
    have p_B1_2 := (cell_of_row V2 _ 2 _ _ _ B1.out).trans (show _ = some (Value.slice va xs.length vc) from rfl)
    have p_B1_3 := (cell_of_row V2 _ 3 _ _ _ B1.out).trans (show _ = some (Value.int .i64 f) from rfl)
    have p_B1_4 := (cell_of_row V2 _ 4 _ _ _ B1.out).trans (show _ = some (Value.int .i64 x) from rfl)
    have p_BX_0 := (cell_of_row V2 _ 0 _ _ _ BX.out).trans (show _ = some (Value.slice fa ss.length fc) from rfl)
    have p_BX_1 := (cell_of_row V2 _ 1 _ _ _ BX.out).trans (show _ = some (Value.int .i64 (now + 1)) from rfl)
    refine hK.out _ _ ⟨p_B1_0, p_B1_1, p_B1_2, p_B1_3, p_B1_4, p_BX_0, p_BX_1⟩ (fun hHeld => ?_)
    clear p_B1_0 p_B1_1 p_B1_2 p_B1_3 p_B1_4 p_BX_0 p_BX_1
    clear hK K
    try simp only [Act.put, lA, lB, lC]
    refine wpAnyH_ready (rs := [7]) (by kernel_rfl) (by simp) ?_
    refine (AllReadyH.cons (o := _) (by simp only [hA, hB, hC]; rfl) (fun K hK => ?_) AllReadyH.nil)
    refine step_append_flat tInt_law flat_int info_T_int Try.underlying22 rfl rfl (.tmp 60) (.tmp 63) rfl (fun b => b = Wd.heap.size) (fun b => (fun b => b = Wd.heap.size) b ∨ b = V2.heap.size) _ _ [] xs rfl rfl PI.out (slR_below tInt_law G.out d.out) (fun b h => Or.inl h) (Or.inr rfl) (by have := HXN.out; simp; omega) ?_
    intro u V3 oB tB
    rw [List.nil_append] at oB
    obtain ⟨ua, uc, rfl⟩ := slO_len oB
    have y0 := YW.out
    have y1 := Z_w4.out
    have y2 := Y_X.out
    have y3 := Z_w6.out
    have y4 := Z_w7.out
    have y5 := Z_w8.out
    have y6 := Z_w9.out
    have y7 := Z_w10.out
    have y8 := Z_dr.out
    have y9 := Y_i.out
    have y10 := Y_v.out
    have yd : w10.heap.size ≤ V2.heap.size := d.out.size
    replace B1 := Lib.hid ((tB.block (w.heap.size + 1) (Array.getElem?_eq_some_iff.1 B1.out).1 (fun h => by have r2 := QI.out _ h; omega)).trans B1.out)
    replace BX := Lib.hid ((tB.block w4.heap.size (Array.getElem?_eq_some_iff.1 BX.out).1 (fun h => by have r2 := QI.out _ h; omega)).trans BX.out)
    replace BV := Lib.hid ((tB.block V1.heap.size (Array.getElem?_eq_some_iff.1 BV.out).1 (fun h => by have r2 := QI.out _ h; omega)).trans BV.out)
    replace d := Lib.hid (below_turn d.out tB (fun b h => by have r2 := QI.out _ h; omega) (by omega))
    have Z_V3 := Lib.hid (show V2.heap.size ≤ V3.heap.size from tB.size)
    clear yd y0 y1 y2 y3 y4 y5 y6 y7 y8 y9 y10
    replace PI := Lib.hid (slO_lt tInt_law oB)
    replace QI := Lib.hid (fun b (h : ((fun b => b = Wd.heap.size) b ∨ b = V2.heap.size) ∧ b < V3.heap.size) => (show (b = Wd.heap.size ∨ b = V2.heap.size) ∧ b < V3.heap.size from h))
    clear oB tB
    have p_B1_0 := (cell_of_row V3 _ 0 _ _ _ B1.out).trans (show _ = some (Value.int .i64 1) from rfl)
    have p_B1_1 := (cell_of_row V3 _ 1 _ _ _ B1.out).trans (show _ = some (Value.int .i64 id) from rfl)
    have p_B1_2 := (cell_of_row V3 _ 2 _ _ _ B1.out).trans (show _ = some (Value.slice va xs.length vc) from rfl)
    have p_B1_3 := (cell_of_row V3 _ 3 _ _ _ B1.out).trans (show _ = some (Value.int .i64 f) from rfl)
    have p_B1_4 := (cell_of_row V3 _ 4 _ _ _ B1.out).trans (show _ = some (Value.int .i64 x) from rfl)
    have p_BX_0 := (cell_of_row V3 _ 0 _ _ _ BX.out).trans (show _ = some (Value.slice fa ss.length fc) from rfl)
    have p_BX_1 := (cell_of_row V3 _ 1 _ _ _ BX.out).trans (show _ = some (Value.int .i64 (now + 1)) from rfl)
    refine hK.out _ _ ⟨p_B1_0, p_B1_1, p_B1_2, p_B1_3, p_B1_4, p_BX_0, p_BX_1⟩ (fun hHeld => ?_)
    clear p_B1_0 p_B1_1 p_B1_2 p_B1_3 p_B1_4 p_BX_0 p_BX_1
    clear hK K
    try simp only [Act.put, lA, lB, lC]
    refine tR (i := 10) (v := ?_) ?_ ?_; rotate_left
    ·
     intro w hSw; (try dsimp only at hSw); go_simp; try (with_reducible rfl)
    try simp only [Act.put, lA, lB, lC]
    refine wpAnyH_ready (rs := [12]) (by kernel_rfl) (by simp) ?_
    refine (AllReadyH.cons (o := _) (by simp only [hA, hB, hC]; rfl) (fun K hK => ?_) AllReadyH.nil)
    have p_BV_0 := (cell_of_row V3 _ 0 _ _ _ BV.out).trans (show _ = some (Value.int .i64 0) from rfl)
    have p_BV_1 := (cell_of_row V3 _ 1 _ _ _ BV.out).trans (show _ = some (Value.slice none 0 0) from rfl)
    have p_BV_2 := (cell_of_row V3 _ 2 _ _ _ BV.out).trans (show _ = some (Value.int .i64 0) from rfl)
    have p_BV_3 := (cell_of_row V3 _ 3 _ _ _ BV.out).trans (show _ = some (Value.int .i64 0) from rfl)
    have f_BV_0 := frozen_of_row V3 _ 0 _ _ BV.out
    have f_BV_1 := frozen_of_row V3 _ 1 _ _ BV.out
    have f_BV_2 := frozen_of_row V3 _ 2 _ _ BV.out
    have f_BV_3 := frozen_of_row V3 _ 3 _ _ BV.out
    go_simp
    clear p_BV_0 p_BV_1 p_BV_2 p_BV_3 f_BV_0 f_BV_1 f_BV_2 f_BV_3
    have tt : Turn (fun q => q = V1.heap.size) V3 ((((V3.setCell ⟨V1.heap.size, 0, none⟩ (.int .i64 id)).setCell ⟨V1.heap.size, 1, none⟩ (.slice ua xs.length uc)).setCell ⟨V1.heap.size, 2, none⟩ (.int .i64 (now + 1))).setCell ⟨V1.heap.size, 3, none⟩ (.int .i64 (-1))) := (((((Turn.refl (fun q => q = V1.heap.size) V3).trans (turn_set (G := fun q => q = V1.heap.size) (g := V1.heap.size) (j := 0) (u := .int .i64 id) rfl)).trans (turn_set (G := fun q => q = V1.heap.size) (g := V1.heap.size) (j := 1) (u := .slice ua xs.length uc) rfl)).trans (turn_set (G := fun q => q = V1.heap.size) (g := V1.heap.size) (j := 2) (u := .int .i64 (now + 1)) rfl)).trans (turn_set (G := fun q => q = V1.heap.size) (g := V1.heap.size) (j := 3) (u := .int .i64 (-1)) rfl))
    have r := (heap_setCell_same _ (V1.heap.size) 3 _ _ (.int .i64 (-1)) (heap_setCell_same _ (V1.heap.size) 2 _ _ (.int .i64 (now + 1)) (heap_setCell_same _ (V1.heap.size) 1 _ _ (.slice ua xs.length uc) (heap_setCell_same V3 (V1.heap.size) 0 _ _ (.int .i64 id) BV.out))))
    simp at r
    generalize ((((V3.setCell ⟨V1.heap.size, 0, none⟩ (.int .i64 id)).setCell ⟨V1.heap.size, 1, none⟩ (.slice ua xs.length uc)).setCell ⟨V1.heap.size, 2, none⟩ (.int .i64 (now + 1))).setCell ⟨V1.heap.size, 3, none⟩ (.int .i64 (-1))) = V4 at *
    have y0 := YW.out
    have y1 := Z_w4.out
    have y2 := Y_X.out
    have y3 := Z_w6.out
    have y4 := Z_w7.out
    have y5 := Z_w8.out
    have y6 := Z_w9.out
    have y7 := Z_w10.out
    have y8 := Z_dr.out
    have y9 := Y_i.out
    have y10 := Y_v.out
    have y11 := Z_V3.out
    have yd : w10.heap.size ≤ V3.heap.size := d.out.size
    replace B1 := Lib.hid ((tt.block (w.heap.size + 1) (Array.getElem?_eq_some_iff.1 B1.out).1 (fun h => by have r2 : _ = V1.heap.size := h; omega)).trans B1.out)
    replace BX := Lib.hid ((tt.block w4.heap.size (Array.getElem?_eq_some_iff.1 BX.out).1 (fun h => by have r2 : _ = V1.heap.size := h; omega)).trans BX.out)
    replace PI := Lib.hid (slO_turn tInt_law PI.out tt (fun b h1 h2 => by have r1 := QI.out b h1; have r2 : _ = V1.heap.size := h2; omega))
    replace d := Lib.hid (below_turn d.out tt (fun b h => by have r2 : _ = V1.heap.size := h; omega) (by omega))
    have Z_V4 := Lib.hid (show V3.heap.size ≤ V4.heap.size from tt.size)
    clear yd y0 y1 y2 y3 y4 y5 y6 y7 y8 y9 y10 y11
    replace BV : Hid (V4.heap[V1.heap.size]? = some (.cells #[.int .i64 id, .slice ua xs.length uc, .int .i64 (now + 1), .int .i64 (-1)] 88 (0, 0))) := Lib.hid r
    clear r tt
    have p_B1_0 := (cell_of_row V4 _ 0 _ _ _ B1.out).trans (show _ = some (Value.int .i64 1) from rfl)
    have p_B1_1 := (cell_of_row V4 _ 1 _ _ _ B1.out).trans (show _ = some (Value.int .i64 id) from rfl)
    have p_B1_2 := (cell_of_row V4 _ 2 _ _ _ B1.out).trans (show _ = some (Value.slice va xs.length vc) from rfl)
    have p_B1_3 := (cell_of_row V4 _ 3 _ _ _ B1.out).trans (show _ = some (Value.int .i64 f) from rfl)
    have p_B1_4 := (cell_of_row V4 _ 4 _ _ _ B1.out).trans (show _ = some (Value.int .i64 x) from rfl)
    have p_BX_0 := (cell_of_row V4 _ 0 _ _ _ BX.out).trans (show _ = some (Value.slice fa ss.length fc) from rfl)
    have p_BX_1 := (cell_of_row V4 _ 1 _ _ _ BX.out).trans (show _ = some (Value.int .i64 (now + 1)) from rfl)
    refine hK.out _ _ ⟨p_B1_0, p_B1_1, p_B1_2, p_B1_3, p_B1_4, p_BX_0, p_BX_1⟩ (fun hHeld => ?_)
    clear p_B1_0 p_B1_1 p_B1_2 p_B1_3 p_B1_4 p_BX_0 p_BX_1
    clear hK K
    try simp only [Act.put, lA, lB, lC]
    refine wpAnyH_done (by kernel_rfl) ?_ _
    clear hHeld
    go_wp2
    go_meet
    have y0 := YW.out
    have y1 := Z_w4.out
    have y2 := Y_X.out
    have y3 := Z_w6.out
    have y4 := Z_w7.out
    have y5 := Z_w8.out
    have y6 := Z_w9.out
    have y7 := Z_w10.out
    have y8 := Z_dr.out
    have y9 := Y_i.out
    have y10 := Y_v.out
    have y11 := Z_V3.out
    have y12 := Z_V4.out
    case rel => exact ⟨_, _, _, _, rfl, BV.out, by omega, (Array.getElem?_eq_some_iff.1 BV.out).1, PI.out, fun q hq => (by have r := QI.out q hq; omega), d.out⟩
  ·
   go_simp
   have hal : Below Wd.heap.size Wd (Wd.alloc (.cells #[.int .i64 0, .slice none 0 0, .int .i64 0, .int .i64 0] 88)) := (Below.refl _ _).alloc (Nat.le_refl _) _
   have BV := Lib.hid (heap_alloc_new Wd (.cells #[.int .i64 0, .slice none 0 0, .int .i64 0, .int .i64 0] 88))
   have Y_v := Lib.hid (show Wd.heap.size < (Wd.alloc (.cells #[.int .i64 0, .slice none 0 0, .int .i64 0, .int .i64 0] 88)).heap.size by simp [World.size_alloc])
   replace B1 := Lib.hid ((hal.block (w.heap.size + 1) (Array.getElem?_eq_some_iff.1 B1.out).1).trans B1.out)
   replace BX := Lib.hid ((hal.block w4.heap.size (Array.getElem?_eq_some_iff.1 BX.out).1).trans BX.out)
   replace d := Lib.hid (d.out.trans (hal.mono d.out.size))
   clear hal
   generalize (Wd.alloc (.cells #[.int .i64 0, .slice none 0 0, .int .i64 0, .int .i64 0] 88)) = V1 at *
   have p_B1_0 := (cell_of_row V1 _ 0 _ _ _ B1.out).trans (show _ = some (Value.int .i64 1) from rfl)
   have p_B1_1 := (cell_of_row V1 _ 1 _ _ _ B1.out).trans (show _ = some (Value.int .i64 id) from rfl)
   have p_B1_2 := (cell_of_row V1 _ 2 _ _ _ B1.out).trans (show _ = some (Value.slice va xs.length vc) from rfl)
   have p_B1_3 := (cell_of_row V1 _ 3 _ _ _ B1.out).trans (show _ = some (Value.int .i64 f) from rfl)
   have p_B1_4 := (cell_of_row V1 _ 4 _ _ _ B1.out).trans (show _ = some (Value.int .i64 x) from rfl)
   have p_BX_0 := (cell_of_row V1 _ 0 _ _ _ BX.out).trans (show _ = some (Value.slice fa ss.length fc) from rfl)
   have p_BX_1 := (cell_of_row V1 _ 1 _ _ _ BX.out).trans (show _ = some (Value.int .i64 (now + 1)) from rfl)
   refine hK.out _ _ ⟨p_B1_0, p_B1_1, p_B1_2, p_B1_3, p_B1_4, p_BX_0, p_BX_1⟩ (fun hHeld => ?_)
   clear p_B1_0 p_B1_1 p_B1_2 p_B1_3 p_B1_4 p_BX_0 p_BX_1
   clear hK K
   try simp only [Act.put, lA, lB, lC]
   refine wpAnyH_ready (rs := [3]) (by kernel_rfl) (by simp) ?_
   refine (AllReadyH.cons (o := _) (by simp only [hA, hB, hC]; rfl) (fun K hK => ?_) AllReadyH.nil)
   go_simp
   have hal : Below V1.heap.size V1 (V1.alloc (.cells #[] 3)) := (Below.refl _ _).alloc (Nat.le_refl _) _
   have Y_i := Lib.hid (show V1.heap.size < (V1.alloc (.cells #[] 3)).heap.size by simp [World.size_alloc])
   replace B1 := Lib.hid ((hal.block (w.heap.size + 1) (Array.getElem?_eq_some_iff.1 B1.out).1).trans B1.out)
   replace BX := Lib.hid ((hal.block w4.heap.size (Array.getElem?_eq_some_iff.1 BX.out).1).trans BX.out)
   replace BV := Lib.hid ((hal.block Wd.heap.size (Array.getElem?_eq_some_iff.1 BV.out).1).trans BV.out)
   replace d := Lib.hid (d.out.trans (hal.mono d.out.size))
   have PI := Lib.hid (slO_empty (T := tInt) V1 3 (fun b => b = V1.heap.size) rfl)
   have QI := Lib.hid (fun b (h : b = V1.heap.size) => h)
   clear hal
   generalize (V1.alloc (.cells #[] 3)) = V2 at *
   have p_B1_0 := (cell_of_row V2 _ 0 _ _ _ B1.out).trans (show _ = some (Value.int .i64 1) from rfl)
   have p_B1_1 := (cell_of_row V2 _ 1 _ _ _ B1.out).trans (show _ = some (Value.int .i64 id) from rfl)
   have p_B1_2 := (cell_of_row V2 _ 2 _ _ _ B1.out).trans (show _ = some (Value.slice va xs.length vc) from rfl)
   have p_B1_3 := (cell_of_row V2 _ 3 _ _ _ B1.out).trans (show _ = some (Value.int .i64 f) from rfl)
   have p_B1_4 := (cell_of_row V2 _ 4 _ _ _ B1.out).trans (show _ = some (Value.int .i64 x) from rfl)
   have p_BX_0 := (cell_of_row V2 _ 0 _ _ _ BX.out).trans (show _ = some (Value.slice fa ss.length fc) from rfl)
   have p_BX_1 := (cell_of_row V2 _ 1 _ _ _ BX.out).trans (show _ = some (Value.int .i64 (now + 1)) from rfl)
   refine hK.out _ _ ⟨p_B1_0, p_B1_1, p_B1_2, p_B1_3, p_B1_4, p_BX_0, p_BX_1⟩ (fun hHeld => ?_)
   clear p_B1_0 p_B1_1 p_B1_2 p_B1_3 p_B1_4 p_BX_0 p_BX_1
   clear hK K
   try simp only [Act.put, lA, lB, lC]
   refine wpAnyH_ready (rs := [7]) (by kernel_rfl) (by simp) ?_
   refine (AllReadyH.cons (o := _) (by simp only [hA, hB, hC]; rfl) (fun K hK => ?_) AllReadyH.nil)
   refine step_append_flat tInt_law flat_int info_T_int Try.underlying22 rfl rfl (.tmp 60) (.tmp 63) rfl (fun b => b = V1.heap.size) (fun b => (fun b => b = V1.heap.size) b ∨ b = V2.heap.size) _ _ [] xs rfl rfl PI.out (slR_below tInt_law G.out d.out) (fun b h => Or.inl h) (Or.inr rfl) (by have := HXN.out; simp; omega) ?_
   intro u V3 oB tB
   rw [List.nil_append] at oB
   obtain ⟨ua, uc, rfl⟩ := slO_len oB
   have y0 := YW.out
   have y1 := Z_w4.out
   have y2 := Y_X.out
   have y3 := Z_w6.out
   have y4 := Z_w7.out
   have y5 := Z_w8.out
   have y6 := Z_w9.out
   have y7 := Z_w10.out
   have y8 := Z_dr.out
   have y9 := Y_v.out
   have y10 := Y_i.out
   have yd : w10.heap.size ≤ V2.heap.size := d.out.size
   replace B1 := Lib.hid ((tB.block (w.heap.size + 1) (Array.getElem?_eq_some_iff.1 B1.out).1 (fun h => by have r2 := QI.out _ h; omega)).trans B1.out)
   replace BX := Lib.hid ((tB.block w4.heap.size (Array.getElem?_eq_some_iff.1 BX.out).1 (fun h => by have r2 := QI.out _ h; omega)).trans BX.out)
   replace BV := Lib.hid ((tB.block Wd.heap.size (Array.getElem?_eq_some_iff.1 BV.out).1 (fun h => by have r2 := QI.out _ h; omega)).trans BV.out)
   replace d := Lib.hid (below_turn d.out tB (fun b h => by have r2 := QI.out _ h; omega) (by omega))
   have Z_V3 := Lib.hid (show V2.heap.size ≤ V3.heap.size from tB.size)
   clear yd y0 y1 y2 y3 y4 y5 y6 y7 y8 y9 y10
   replace PI := Lib.hid (slO_lt tInt_law oB)
   replace QI := Lib.hid (fun b (h : ((fun b => b = V1.heap.size) b ∨ b = V2.heap.size) ∧ b < V3.heap.size) => (show (b = V1.heap.size ∨ b = V2.heap.size) ∧ b < V3.heap.size from h))
   clear oB tB
   have p_B1_0 := (cell_of_row V3 _ 0 _ _ _ B1.out).trans (show _ = some (Value.int .i64 1) from rfl)
   have p_B1_1 := (cell_of_row V3 _ 1 _ _ _ B1.out).trans (show _ = some (Value.int .i64 id) from rfl)
   have p_B1_2 := (cell_of_row V3 _ 2 _ _ _ B1.out).trans (show _ = some (Value.slice va xs.length vc) from rfl)
   have p_B1_3 := (cell_of_row V3 _ 3 _ _ _ B1.out).trans (show _ = some (Value.int .i64 f) from rfl)
   have p_B1_4 := (cell_of_row V3 _ 4 _ _ _ B1.out).trans (show _ = some (Value.int .i64 x) from rfl)
   have p_BX_0 := (cell_of_row V3 _ 0 _ _ _ BX.out).trans (show _ = some (Value.slice fa ss.length fc) from rfl)
   have p_BX_1 := (cell_of_row V3 _ 1 _ _ _ BX.out).trans (show _ = some (Value.int .i64 (now + 1)) from rfl)
   refine hK.out _ _ ⟨p_B1_0, p_B1_1, p_B1_2, p_B1_3, p_B1_4, p_BX_0, p_BX_1⟩ (fun hHeld => ?_)
   clear p_B1_0 p_B1_1 p_B1_2 p_B1_3 p_B1_4 p_BX_0 p_BX_1
   clear hK K
   try simp only [Act.put, lA, lB, lC]
   refine tR (i := 10) (v := ?_) ?_ ?_; rotate_left
   ·
    intro w hSw; (try dsimp only at hSw); go_simp; try (with_reducible rfl)
   try simp only [Act.put, lA, lB, lC]
   refine wpAnyH_ready (rs := [12]) (by kernel_rfl) (by simp) ?_
   refine (AllReadyH.cons (o := _) (by simp only [hA, hB, hC]; rfl) (fun K hK => ?_) AllReadyH.nil)
   have p_BV_0 := (cell_of_row V3 _ 0 _ _ _ BV.out).trans (show _ = some (Value.int .i64 0) from rfl)
   have p_BV_1 := (cell_of_row V3 _ 1 _ _ _ BV.out).trans (show _ = some (Value.slice none 0 0) from rfl)
   have p_BV_2 := (cell_of_row V3 _ 2 _ _ _ BV.out).trans (show _ = some (Value.int .i64 0) from rfl)
   have p_BV_3 := (cell_of_row V3 _ 3 _ _ _ BV.out).trans (show _ = some (Value.int .i64 0) from rfl)
   have f_BV_0 := frozen_of_row V3 _ 0 _ _ BV.out
   have f_BV_1 := frozen_of_row V3 _ 1 _ _ BV.out
   have f_BV_2 := frozen_of_row V3 _ 2 _ _ BV.out
   have f_BV_3 := frozen_of_row V3 _ 3 _ _ BV.out
   go_simp
   clear p_BV_0 p_BV_1 p_BV_2 p_BV_3 f_BV_0 f_BV_1 f_BV_2 f_BV_3
   have tt : Turn (fun q => q = Wd.heap.size) V3 ((((V3.setCell ⟨Wd.heap.size, 0, none⟩ (.int .i64 id)).setCell ⟨Wd.heap.size, 1, none⟩ (.slice ua xs.length uc)).setCell ⟨Wd.heap.size, 2, none⟩ (.int .i64 (now + 1))).setCell ⟨Wd.heap.size, 3, none⟩ (.int .i64 (-1))) := (((((Turn.refl (fun q => q = Wd.heap.size) V3).trans (turn_set (G := fun q => q = Wd.heap.size) (g := Wd.heap.size) (j := 0) (u := .int .i64 id) rfl)).trans (turn_set (G := fun q => q = Wd.heap.size) (g := Wd.heap.size) (j := 1) (u := .slice ua xs.length uc) rfl)).trans (turn_set (G := fun q => q = Wd.heap.size) (g := Wd.heap.size) (j := 2) (u := .int .i64 (now + 1)) rfl)).trans (turn_set (G := fun q => q = Wd.heap.size) (g := Wd.heap.size) (j := 3) (u := .int .i64 (-1)) rfl))
   have r := (heap_setCell_same _ (Wd.heap.size) 3 _ _ (.int .i64 (-1)) (heap_setCell_same _ (Wd.heap.size) 2 _ _ (.int .i64 (now + 1)) (heap_setCell_same _ (Wd.heap.size) 1 _ _ (.slice ua xs.length uc) (heap_setCell_same V3 (Wd.heap.size) 0 _ _ (.int .i64 id) BV.out))))
   simp at r
   generalize ((((V3.setCell ⟨Wd.heap.size, 0, none⟩ (.int .i64 id)).setCell ⟨Wd.heap.size, 1, none⟩ (.slice ua xs.length uc)).setCell ⟨Wd.heap.size, 2, none⟩ (.int .i64 (now + 1))).setCell ⟨Wd.heap.size, 3, none⟩ (.int .i64 (-1))) = V4 at *
   have y0 := YW.out
   have y1 := Z_w4.out
   have y2 := Y_X.out
   have y3 := Z_w6.out
   have y4 := Z_w7.out
   have y5 := Z_w8.out
   have y6 := Z_w9.out
   have y7 := Z_w10.out
   have y8 := Z_dr.out
   have y9 := Y_v.out
   have y10 := Y_i.out
   have y11 := Z_V3.out
   have yd : w10.heap.size ≤ V3.heap.size := d.out.size
   replace B1 := Lib.hid ((tt.block (w.heap.size + 1) (Array.getElem?_eq_some_iff.1 B1.out).1 (fun h => by have r2 : _ = Wd.heap.size := h; omega)).trans B1.out)
   replace BX := Lib.hid ((tt.block w4.heap.size (Array.getElem?_eq_some_iff.1 BX.out).1 (fun h => by have r2 : _ = Wd.heap.size := h; omega)).trans BX.out)
   replace PI := Lib.hid (slO_turn tInt_law PI.out tt (fun b h1 h2 => by have r1 := QI.out b h1; have r2 : _ = Wd.heap.size := h2; omega))
   replace d := Lib.hid (below_turn d.out tt (fun b h => by have r2 : _ = Wd.heap.size := h; omega) (by omega))
   have Z_V4 := Lib.hid (show V3.heap.size ≤ V4.heap.size from tt.size)
   clear yd y0 y1 y2 y3 y4 y5 y6 y7 y8 y9 y10 y11
   replace BV : Hid (V4.heap[Wd.heap.size]? = some (.cells #[.int .i64 id, .slice ua xs.length uc, .int .i64 (now + 1), .int .i64 (-1)] 88 (0, 0))) := Lib.hid r
   clear r tt
   have p_B1_0 := (cell_of_row V4 _ 0 _ _ _ B1.out).trans (show _ = some (Value.int .i64 1) from rfl)
   have p_B1_1 := (cell_of_row V4 _ 1 _ _ _ B1.out).trans (show _ = some (Value.int .i64 id) from rfl)
   have p_B1_2 := (cell_of_row V4 _ 2 _ _ _ B1.out).trans (show _ = some (Value.slice va xs.length vc) from rfl)
   have p_B1_3 := (cell_of_row V4 _ 3 _ _ _ B1.out).trans (show _ = some (Value.int .i64 f) from rfl)
   have p_B1_4 := (cell_of_row V4 _ 4 _ _ _ B1.out).trans (show _ = some (Value.int .i64 x) from rfl)
   have p_BX_0 := (cell_of_row V4 _ 0 _ _ _ BX.out).trans (show _ = some (Value.slice fa ss.length fc) from rfl)
   have p_BX_1 := (cell_of_row V4 _ 1 _ _ _ BX.out).trans (show _ = some (Value.int .i64 (now + 1)) from rfl)
   refine hK.out _ _ ⟨p_B1_0, p_B1_1, p_B1_2, p_B1_3, p_B1_4, p_BX_0, p_BX_1⟩ (fun hHeld => ?_)
   clear p_B1_0 p_B1_1 p_B1_2 p_B1_3 p_B1_4 p_BX_0 p_BX_1
   clear hK K
   try simp only [Act.put, lA, lB, lC]
   refine wpAnyH_done (by kernel_rfl) ?_ _
   clear hHeld
   go_wp2
   go_meet
   have y0 := YW.out
   have y1 := Z_w4.out
   have y2 := Y_X.out
   have y3 := Z_w6.out
   have y4 := Z_w7.out
   have y5 := Z_w8.out
   have y6 := Z_w9.out
   have y7 := Z_w10.out
   have y8 := Z_dr.out
   have y9 := Y_v.out
   have y10 := Y_i.out
   have y11 := Z_V3.out
   have y12 := Z_V4.out
   case rel => exact ⟨_, _, _, _, rfl, BV.out, by omega, (Array.getElem?_eq_some_iff.1 BV.out).1, PI.out, fun q hq => (by have r := QI.out q hq; omega), d.out⟩
 case rest =>
 obtain ⟨V, ua, uc, KV, rfl, bV, yV, yV2, oV, qV, dV⟩ := hcut
 generalize wc = w11 at *
 replace B0 := Lib.hid ((dV.block w.heap.size (Array.getElem?_eq_some_iff.1 B0.out).1).trans B0.out)
 replace B1 := Lib.hid ((dV.block (w.heap.size + 1) (Array.getElem?_eq_some_iff.1 B1.out).1).trans B1.out)
 replace BZ := Lib.hid ((dV.block (w.heap.size + 2) (Array.getElem?_eq_some_iff.1 BZ.out).1).trans BZ.out)
 replace BX := Lib.hid ((dV.block w4.heap.size (Array.getElem?_eq_some_iff.1 BX.out).1).trans BX.out)
 replace PF := Lib.hid (slO_fresh tVersionS_law PF.out dV)
 replace d := Lib.hid (d.out.trans (dV.mono d.out.size))
 have Z_w11 := Lib.hid (show w10.heap.size ≤ w11.heap.size from dV.size)
 have BV := Lib.hid bV
 have YV := Lib.hid yV
 have YV2 := Lib.hid yV2
 have PX := Lib.hid oV
 have QX : Hid (∀ q, KV q → w10.heap.size ≤ q ∧ q < w11.heap.size ∧ q ≠ V) := Lib.hid qV
 clear bV yV yV2 oV qV dV
 have p_B1_0 := (cell_of_row w11 _ 0 _ _ _ B1.out).trans (show _ = some (Value.int .i64 1) from rfl)
 have p_B1_1 := (cell_of_row w11 _ 1 _ _ _ B1.out).trans (show _ = some (Value.int .i64 id) from rfl)
 have p_B1_2 := (cell_of_row w11 _ 2 _ _ _ B1.out).trans (show _ = some (Value.slice va xs.length vc) from rfl)
 have p_B1_3 := (cell_of_row w11 _ 3 _ _ _ B1.out).trans (show _ = some (Value.int .i64 f) from rfl)
 have p_B1_4 := (cell_of_row w11 _ 4 _ _ _ B1.out).trans (show _ = some (Value.int .i64 x) from rfl)
 have p_BX_0 := (cell_of_row w11 _ 0 _ _ _ BX.out).trans (show _ = some (Value.slice fa ss.length fc) from rfl)
 have p_BX_1 := (cell_of_row w11 _ 1 _ _ _ BX.out).trans (show _ = some (Value.int .i64 (now + 1)) from rfl)
 have p_BV_0 := (cell_of_row w11 _ 0 _ _ _ BV.out).trans (show _ = some (Value.int .i64 id) from rfl)
 have p_BV_1 := (cell_of_row w11 _ 1 _ _ _ BV.out).trans (show _ = some (Value.slice ua xs.length uc) from rfl)
 have p_BV_2 := (cell_of_row w11 _ 2 _ _ _ BV.out).trans (show _ = some (Value.int .i64 (now + 1)) from rfl)
 have p_BV_3 := (cell_of_row w11 _ 3 _ _ _ BV.out).trans (show _ = some (Value.int .i64 (-1)) from rfl)
 go_wp2
 clear p_B1_0 p_B1_1 p_B1_2 p_B1_3 p_B1_4 p_BX_0 p_BX_1 p_BV_0 p_BV_1 p_BV_2 p_BV_3
 have y0 := YW.out
 have y1 := Z_w4.out
 have y2 := Y_X.out
 have y3 := Z_w6.out
 have y4 := Z_w7.out
 have y5 := Z_w8.out
 have y6 := Z_w9.out
 have y7 := Z_w10.out
 have y8 := Z_w11.out
 have y9 := YV.out
 have y10 := YV2.out
 have hD := (show w10.heap.size ≤ w11.heap.size by omega)
 have HW4 := Lib.hid (show w4.heap.size < w10.heap.size by omega)
 have HD := Lib.hid hD
 clear hD y0 y1 y2 y3 y4 y5 y6 y7 y8 y9 y10
 replace PF := Lib.hid (slO_mono PF.out (F' := fun q => (fun q => (W.heap.size ≤ q ∧ q < w4.heap.size) ∨ w10.heap.size ≤ q) q ∧ q < w10.heap.size) (fun q h => (by have r1 := QF.out q h; have r2 := HW4.out; exact ⟨Or.inl r1, by omega⟩)))
 replace QF := Lib.hid (fun q (h : (fun q => (W.heap.size ≤ q ∧ q < w4.heap.size) ∨ w10.heap.size ≤ q) q ∧ q < w10.heap.size) => (show (W.heap.size ≤ q ∧ q < w4.heap.size) ∧ q < w10.heap.size from ⟨h.1.elim (fun e => e) (fun e => absurd h.2 (Nat.not_lt.2 e)), h.2⟩))
 have p_BX_0 := (cell_of_row w11 _ 0 _ _ _ BX.out).trans (show _ = some (Value.slice fa ss.length fc) from rfl)
 have p_BX_1 := (cell_of_row w11 _ 1 _ _ _ BX.out).trans (show _ = some (Value.int .i64 (now + 1)) from rfl)
 have p_BV_0 := (cell_of_row w11 _ 0 _ _ _ BV.out).trans (show _ = some (Value.int .i64 id) from rfl)
 have p_BV_1 := (cell_of_row w11 _ 1 _ _ _ BV.out).trans (show _ = some (Value.slice ua xs.length uc) from rfl)
 have p_BV_2 := (cell_of_row w11 _ 2 _ _ _ BV.out).trans (show _ = some (Value.int .i64 (now + 1)) from rfl)
 have p_BV_3 := (cell_of_row w11 _ 3 _ _ _ BV.out).trans (show _ = some (Value.int .i64 (-1)) from rfl)
 refine wp_region_held_drew (S := fun w' => w'.cell? ⟨w4.heap.size, 0, none⟩ = some (Value.slice fa ss.length fc) ∧ w'.cell? ⟨w4.heap.size, 1, none⟩ = some (Value.int .i64 (now + 1)) ∧ w'.cell? ⟨V, 0, none⟩ = some (Value.int .i64 id) ∧ w'.cell? ⟨V, 1, none⟩ = some (Value.slice ua xs.length uc) ∧ w'.cell? ⟨V, 2, none⟩ = some (Value.int .i64 (now + 1)) ∧ w'.cell? ⟨V, 3, none⟩ = some (Value.int .i64 (-1))) (by kernel_rfl) ⟨p_BX_0, p_BX_1, p_BV_0, p_BV_1, p_BV_2, p_BV_3⟩ (fun hHeld => ?_)
 clear p_BX_0 p_BX_1 p_BV_0 p_BV_1 p_BV_2 p_BV_3
 have cdr : Below w11.heap.size w11 w11.drew := below_drew (Below.refl _ _)
 replace B0 := Lib.hid ((cdr.block w.heap.size (Array.getElem?_eq_some_iff.1 B0.out).1).trans B0.out)
 replace B1 := Lib.hid ((cdr.block (w.heap.size + 1) (Array.getElem?_eq_some_iff.1 B1.out).1).trans B1.out)
 replace BZ := Lib.hid ((cdr.block (w.heap.size + 2) (Array.getElem?_eq_some_iff.1 BZ.out).1).trans BZ.out)
 replace BX := Lib.hid ((cdr.block w4.heap.size (Array.getElem?_eq_some_iff.1 BX.out).1).trans BX.out)
 replace BV := Lib.hid ((cdr.block V (Array.getElem?_eq_some_iff.1 BV.out).1).trans BV.out)
 replace PF := Lib.hid (slO_fresh tVersionS_law PF.out cdr)
 replace PX := Lib.hid (slO_fresh tInt_law PX.out cdr)
 replace d := Lib.hid (d.out.trans (cdr.mono d.out.size))
 clear cdr
 have Z_dr := Lib.hid (show w11.heap.size ≤ w11.drew.heap.size from Nat.le_refl _)
 replace HD := Lib.hid (Nat.le_trans HD.out Z_dr.out)
 generalize w11.drew = Wd at *
 obtain ⟨g4, gc4, u4, Fj, hv4, hF4, hg4, c4, hu4, hFj, hput4⟩ := segs_put PF.out HD.out (fun q h => Or.inr h) HR.out
 simp only [Value.slice.injEq, Option.some.injEq, Addr.mk.injEq] at hv4
 first | obtain ⟨rfl, hl4, rfl⟩ := hv4 | obtain ⟨⟨rfl, _⟩, hl4, rfl⟩ := hv4
 clear hl4
 rw [← HLL.out] at hu4
 obtain ⟨sa, sc, rfl⟩ := slO_len hu4
 have C4 := Lib.hid c4
 have G4 : Hid (W.heap.size ≤ g4 ∧ g4 < w4.heap.size ∧ g4 < Wd.heap.size) := Lib.hid (by have r1 := QF.out _ ⟨hF4, hg4⟩; have r2 := HD.out; exact ⟨r1.1.1, r1.1.2, Nat.lt_of_lt_of_le r1.2 r2⟩)
 have U4 := Lib.hid hu4
 have FJ := Lib.hid hFj
 have PUT := Lib.hid hput4
 have EW := Lib.hid (Below.refl Wd.heap.size Wd)
 clear hput4 hFj hu4 c4 hF4 hg4
 refine tR (i := 0) (v := ?_) ?_ ?_; rotate_left
 ·
  intro w hSw; (try dsimp only at hSw); go_simp; try (with_reducible rfl)
 try simp only [Act.put, lA, lB, lC]
 refine tR (i := 1) (v := ?_) ?_ ?_; rotate_left
 ·
  intro w hSw; (try dsimp only at hSw); go_simp; try (with_reducible rfl)
 try simp only [Act.put, lA, lB, lC]
 refine tR (i := 2) (v := ?_) ?_ ?_; rotate_left
 ·
  intro w hSw; (try dsimp only at hSw); go_simp; try (with_reducible rfl)
 try simp only [Act.put, lA, lB, lC]
 refine tR (i := 3) (v := ?_) ?_ ?_; rotate_left
 ·
  intro w hSw; (try dsimp only at hSw); go_simp; try (with_reducible rfl)
 try simp only [Act.put, lA, lB, lC]
 refine tR (i := 4) (v := ?_) ?_ ?_; rotate_left
 ·
  intro w hSw; (try dsimp only at hSw); go_simp; try (with_reducible rfl)
 try simp only [Act.put, lA, lB, lC]
 refine tR (i := 5) (v := ?_) ?_ ?_; rotate_left
 ·
  intro w hSw; (try dsimp only at hSw); go_simp; try (with_reducible rfl)
 try simp only [Act.put, lA, lB, lC]
 refine tR (i := 6) (v := ?_) ?_ ?_; rotate_left
 ·
  intro w hSw; (try dsimp only at hSw); go_simp; try (with_reducible rfl)
 try simp only [Act.put, lA, lB, lC]
 refine tR (i := 8) (v := ?_) ?_ ?_; rotate_left
 ·
  intro w hSw; (try dsimp only at hSw); go_simp; try (with_reducible rfl)
 try simp only [Act.put, lA, lB, lC]
 refine wpAnyH_ready (rs := [7, 9]) (by kernel_rfl) (by simp) ?_
 refine (AllReadyH.cons (o := _) (by simp only [hA, hB, hC]; rfl) (fun K hK => ?_) (AllReadyH.cons (o := _) (by simp only [hA, hB, hC]; rfl) (fun K hK => ?_) AllReadyH.nil))
 ·
  have cg := (EW.out.cell (p := ⟨g4, rmi, none⟩) G4.out.2.2).trans C4.out
  go_simp
  clear cg
  have p_BX_0 := (cell_of_row Wd _ 0 _ _ _ BX.out).trans (show _ = some (Value.slice (some ⟨g4, 0, none⟩) ss.length fc) from rfl)
  have p_BX_1 := (cell_of_row Wd _ 1 _ _ _ BX.out).trans (show _ = some (Value.int .i64 (now + 1)) from rfl)
  have p_BV_0 := (cell_of_row Wd _ 0 _ _ _ BV.out).trans (show _ = some (Value.int .i64 id) from rfl)
  have p_BV_1 := (cell_of_row Wd _ 1 _ _ _ BV.out).trans (show _ = some (Value.slice ua xs.length uc) from rfl)
  have p_BV_2 := (cell_of_row Wd _ 2 _ _ _ BV.out).trans (show _ = some (Value.int .i64 (now + 1)) from rfl)
  have p_BV_3 := (cell_of_row Wd _ 3 _ _ _ BV.out).trans (show _ = some (Value.int .i64 (-1)) from rfl)
  refine hK.out _ _ ⟨p_BX_0, p_BX_1, p_BV_0, p_BV_1, p_BV_2, p_BV_3⟩ (fun hHeld => ?_)
  clear p_BX_0 p_BX_1 p_BV_0 p_BV_1 p_BV_2 p_BV_3
  clear hK K
  try simp only [Act.put, lA, lB, lC]
  refine wpAnyH_ready (rs := [9]) (by kernel_rfl) (by simp) ?_
  refine (AllReadyH.cons (o := _) (by simp only [hA, hB, hC]; rfl) (fun K hK => ?_) AllReadyH.nil)
  go_simp
  have hal : Below Wd.heap.size Wd (Wd.alloc (.cells #[.int .i64 id, .slice ua xs.length uc, .int .i64 (now + 1), .int .i64 (-1)] 88)) := (Below.refl _ _).alloc (Nat.le_refl _) _
  have KB0 := B0
  have KB1 := B1
  have KBZ := BZ
  have KBX := BX
  have KBV := BV
  have KPF := PF
  have KPX := PX
  have Kd := d
  have KEW := EW
  replace B0 := Lib.hid ((hal.block w.heap.size (Array.getElem?_eq_some_iff.1 B0.out).1).trans B0.out)
  replace B1 := Lib.hid ((hal.block (w.heap.size + 1) (Array.getElem?_eq_some_iff.1 B1.out).1).trans B1.out)
  replace BZ := Lib.hid ((hal.block (w.heap.size + 2) (Array.getElem?_eq_some_iff.1 BZ.out).1).trans BZ.out)
  replace BX := Lib.hid ((hal.block w4.heap.size (Array.getElem?_eq_some_iff.1 BX.out).1).trans BX.out)
  replace BV := Lib.hid ((hal.block V (Array.getElem?_eq_some_iff.1 BV.out).1).trans BV.out)
  replace PF := Lib.hid (slO_fresh tVersionS_law PF.out hal)
  replace PX := Lib.hid (slO_fresh tInt_law PX.out hal)
  replace d := Lib.hid (d.out.trans (hal.mono d.out.size))
  replace EW := Lib.hid (EW.out.trans (hal.mono EW.out.size))
  clear hal
  have p_BX_0 := (cell_of_row (Wd.alloc (.cells #[.int .i64 id, .slice ua xs.length uc, .int .i64 (now + 1), .int .i64 (-1)] 88)) _ 0 _ _ _ BX.out).trans (show _ = some (Value.slice (some ⟨g4, 0, none⟩) ss.length fc) from rfl)
  have p_BX_1 := (cell_of_row (Wd.alloc (.cells #[.int .i64 id, .slice ua xs.length uc, .int .i64 (now + 1), .int .i64 (-1)] 88)) _ 1 _ _ _ BX.out).trans (show _ = some (Value.int .i64 (now + 1)) from rfl)
  have p_BV_0 := (cell_of_row (Wd.alloc (.cells #[.int .i64 id, .slice ua xs.length uc, .int .i64 (now + 1), .int .i64 (-1)] 88)) _ 0 _ _ _ BV.out).trans (show _ = some (Value.int .i64 id) from rfl)
  have p_BV_1 := (cell_of_row (Wd.alloc (.cells #[.int .i64 id, .slice ua xs.length uc, .int .i64 (now + 1), .int .i64 (-1)] 88)) _ 1 _ _ _ BV.out).trans (show _ = some (Value.slice ua xs.length uc) from rfl)
  have p_BV_2 := (cell_of_row (Wd.alloc (.cells #[.int .i64 id, .slice ua xs.length uc, .int .i64 (now + 1), .int .i64 (-1)] 88)) _ 2 _ _ _ BV.out).trans (show _ = some (Value.int .i64 (now + 1)) from rfl)
  have p_BV_3 := (cell_of_row (Wd.alloc (.cells #[.int .i64 id, .slice ua xs.length uc, .int .i64 (now + 1), .int .i64 (-1)] 88)) _ 3 _ _ _ BV.out).trans (show _ = some (Value.int .i64 (-1)) from rfl)
  refine hK.out _ _ ⟨p_BX_0, p_BX_1, p_BV_0, p_BV_1, p_BV_2, p_BV_3⟩ (fun hHeld => ?_)
  clear p_BX_0 p_BX_1 p_BV_0 p_BV_1 p_BV_2 p_BV_3
  clear hK K
  try simp only [Act.put, lA, lB, lC]
  refine wpAnyH_ready (rs := [10]) (by kernel_rfl) (by simp) ?_
  refine (AllReadyH.cons (o := _) (by simp only [hA, hB, hC]; rfl) (fun K hK => ?_) AllReadyH.nil)
  have y0 := YW.out
  have y1 := Z_w4.out
  have y2 := Y_X.out
  have y3 := Z_w6.out
  have y4 := Z_w7.out
  have y5 := Z_w8.out
  have y6 := Z_w9.out
  have y7 := Z_w10.out
  have y8 := Z_w11.out
  have y9 := YV.out
  have y10 := YV2.out
  have y11 := Z_dr.out
  have yw := KEW.out.size
  have yd := Kd.out.size
  have hD := HD.out
  have hw4 := HW4.out
  have hnew : tVersion.O Wd (fun q => w10.heap.size ≤ q) [.int .i64 id, .slice ua xs.length uc, .int .i64 (now + 1), .int .i64 (-1)] (id, xs, now + 1, -1) := tVersion_mkO KPX.out (fun q hq => by have r1 := QX.out q hq; show w10.heap.size ≤ q; omega)
  refine step_append_T tVersion_law info_T_Version Try.underlying89 rfl rfl (.tmp 112) (.tmp 114) rfl (fun q => Fj q ∨ w10.heap.size ≤ q) w10.heap.size _ (l) rfl (slO_mono (slO_fresh tVersion_law U4.out KEW.out) (fun q hq => ⟨Or.inl hq, (FJ.out q hq).2.2⟩)) (by omega) (fun q hq => Or.inr hq) HRL.out [.int .i64 id, .slice ua xs.length uc, .int .i64 (now + 1), .int .i64 (-1)] (id, xs, now + 1, -1) hnew (by simp [Value.oneCell']) 1 _ rfl rfl ?_
  intro v7 w16 oN tN
  obtain ⟨na, nc, rfl⟩ := slO_len oN
  have T16 : Hid (Turn (fun q => Fj q ∨ w10.heap.size ≤ q) Wd w16) := Lib.hid ((turn_below KEW.out).trans (tN.mono (fun q h => h.1)))
  replace B0 := Lib.hid ((tN.block w.heap.size (Array.getElem?_eq_some_iff.1 KB0.out).1 (fun h => by have r3 := h.2; rcases h.1 with r4 | r4; (have r5 := QF.out _ ⟨(FJ.out _ r4).1, (FJ.out _ r4).2.2⟩; omega); omega)).trans KB0.out)
  replace B1 := Lib.hid ((tN.block (w.heap.size + 1) (Array.getElem?_eq_some_iff.1 KB1.out).1 (fun h => by have r3 := h.2; rcases h.1 with r4 | r4; (have r5 := QF.out _ ⟨(FJ.out _ r4).1, (FJ.out _ r4).2.2⟩; omega); omega)).trans KB1.out)
  replace BZ := Lib.hid ((tN.block (w.heap.size + 2) (Array.getElem?_eq_some_iff.1 KBZ.out).1 (fun h => by have r3 := h.2; rcases h.1 with r4 | r4; (have r5 := QF.out _ ⟨(FJ.out _ r4).1, (FJ.out _ r4).2.2⟩; omega); omega)).trans KBZ.out)
  replace BX := Lib.hid ((tN.block w4.heap.size (Array.getElem?_eq_some_iff.1 KBX.out).1 (fun h => by have r3 := h.2; rcases h.1 with r4 | r4; (have r5 := QF.out _ ⟨(FJ.out _ r4).1, (FJ.out _ r4).2.2⟩; omega); omega)).trans KBX.out)
  replace BV := Lib.hid ((tN.block V (Array.getElem?_eq_some_iff.1 KBV.out).1 (fun h => by have r3 := h.2; rcases h.1 with r4 | r4; (have r5 := QF.out _ ⟨(FJ.out _ r4).1, (FJ.out _ r4).2.2⟩; omega); omega)).trans KBV.out)
  replace d := Lib.hid (below_turn Kd.out tN (fun q h => by have r3 := h.2; rcases h.1 with r4 | r4; (have r5 := QF.out _ ⟨(FJ.out _ r4).1, (FJ.out _ r4).2.2⟩; omega); omega) yd)
  have zN := Lib.hid (show Wd.heap.size ≤ w16.heap.size from tN.size)
  have ON := Lib.hid oN
  clear hnew oN tN yd yw hD hw4 EW PF PX KB0 KB1 KBZ KBX KBV KPF KPX Kd KEW y0 y1 y2 y3 y4 y5 y6 y7 y8 y9 y10 y11
  have p_BX_0 := (cell_of_row w16 _ 0 _ _ _ BX.out).trans (show _ = some (Value.slice (some ⟨g4, 0, none⟩) ss.length fc) from rfl)
  have p_BX_1 := (cell_of_row w16 _ 1 _ _ _ BX.out).trans (show _ = some (Value.int .i64 (now + 1)) from rfl)
  have p_BV_0 := (cell_of_row w16 _ 0 _ _ _ BV.out).trans (show _ = some (Value.int .i64 id) from rfl)
  have p_BV_1 := (cell_of_row w16 _ 1 _ _ _ BV.out).trans (show _ = some (Value.slice ua xs.length uc) from rfl)
  have p_BV_2 := (cell_of_row w16 _ 2 _ _ _ BV.out).trans (show _ = some (Value.int .i64 (now + 1)) from rfl)
  have p_BV_3 := (cell_of_row w16 _ 3 _ _ _ BV.out).trans (show _ = some (Value.int .i64 (-1)) from rfl)
  refine hK.out _ _ ⟨p_BX_0, p_BX_1, p_BV_0, p_BV_1, p_BV_2, p_BV_3⟩ (fun hHeld => ?_)
  clear p_BX_0 p_BX_1 p_BV_0 p_BV_1 p_BV_2 p_BV_3
  clear hK K
  try simp only [Act.put, lA, lB, lC]
  refine tR (i := 11) (v := ?_) ?_ ?_; rotate_left
  ·
   intro w hSw; (try dsimp only at hSw); go_simp; try (with_reducible rfl)
  try simp only [Act.put, lA, lB, lC]
  refine wpAnyH_ready (rs := [12]) (by kernel_rfl) (by simp) ?_
  refine (AllReadyH.cons (o := _) (by simp only [hA, hB, hC]; rfl) (fun K hK => ?_) AllReadyH.nil)
  obtain ⟨⟨cw, fw⟩, ow⟩ := PUT.out w16 _ _ T16.out ON.out
  have OW := Lib.hid ow
  clear ow
  have px := HAPL.out
  go_simp
  clear cw fw px
  rw [HAPL.out] at OW
  have tt : Turn (fun q => q = g4) w16 (w16.setCell ⟨g4, rmi, none⟩ (.slice na ((l).length + 1) nc)) := turn_set (G := fun q => q = g4) (g := g4) (j := rmi) (u := .slice na ((l).length + 1) nc) rfl
  generalize (w16.setCell ⟨g4, rmi, none⟩ (.slice na ((l).length + 1) nc)) = w17 at *
  rw [HLL.out] at OW
  have y0 := YW.out
  have y1 := Z_w4.out
  have y2 := Y_X.out
  have y3 := Z_w6.out
  have y4 := Z_w7.out
  have y5 := Z_w8.out
  have y6 := Z_w9.out
  have y7 := Z_w10.out
  have y8 := Z_w11.out
  have y9 := YV.out
  have y10 := YV2.out
  have y11 := Z_dr.out
  have y12 := zN.out
  have yd : w.heap.size ≤ w16.heap.size := d.out.size
  replace B0 := Lib.hid ((tt.block w.heap.size (Array.getElem?_eq_some_iff.1 B0.out).1 (fun h => by have r2 : _ = g4 := h; have r4 := G4.out; omega)).trans B0.out)
  replace B1 := Lib.hid ((tt.block (w.heap.size + 1) (Array.getElem?_eq_some_iff.1 B1.out).1 (fun h => by have r2 : _ = g4 := h; have r4 := G4.out; omega)).trans B1.out)
  replace BZ := Lib.hid ((tt.block (w.heap.size + 2) (Array.getElem?_eq_some_iff.1 BZ.out).1 (fun h => by have r2 : _ = g4 := h; have r4 := G4.out; omega)).trans BZ.out)
  replace BX := Lib.hid ((tt.block w4.heap.size (Array.getElem?_eq_some_iff.1 BX.out).1 (fun h => by have r2 : _ = g4 := h; have r4 := G4.out; omega)).trans BX.out)
  replace BV := Lib.hid ((tt.block V (Array.getElem?_eq_some_iff.1 BV.out).1 (fun h => by have r2 : _ = g4 := h; have r4 := G4.out; omega)).trans BV.out)
  replace d := Lib.hid (below_turn d.out tt (fun b h => by have r2 : _ = g4 := h; have r4 := G4.out; omega) (by omega))
  have Z_w17 := Lib.hid (show w16.heap.size ≤ w17.heap.size from tt.size)
  clear yd y0 y1 y2 y3 y4 y5 y6 y7 y8 y9 y10 y11 y12
  have PF := OW
  have QF2 := Lib.hid (fun q (h : (W.heap.size ≤ q ∧ q < w4.heap.size) ∨ w10.heap.size ≤ q) => h)
  clear OW tt QF
  have QF := QF2
  clear QF2
  have p_BX_0 := (cell_of_row w17 _ 0 _ _ _ BX.out).trans (show _ = some (Value.slice (some ⟨g4, 0, none⟩) ss.length fc) from rfl)
  have p_BX_1 := (cell_of_row w17 _ 1 _ _ _ BX.out).trans (show _ = some (Value.int .i64 (now + 1)) from rfl)
  have p_BV_0 := (cell_of_row w17 _ 0 _ _ _ BV.out).trans (show _ = some (Value.int .i64 id) from rfl)
  have p_BV_1 := (cell_of_row w17 _ 1 _ _ _ BV.out).trans (show _ = some (Value.slice ua xs.length uc) from rfl)
  have p_BV_2 := (cell_of_row w17 _ 2 _ _ _ BV.out).trans (show _ = some (Value.int .i64 (now + 1)) from rfl)
  have p_BV_3 := (cell_of_row w17 _ 3 _ _ _ BV.out).trans (show _ = some (Value.int .i64 (-1)) from rfl)
  refine hK.out _ _ ⟨p_BX_0, p_BX_1, p_BV_0, p_BV_1, p_BV_2, p_BV_3⟩ (fun hHeld => ?_)
  clear p_BX_0 p_BX_1 p_BV_0 p_BV_1 p_BV_2 p_BV_3
  clear hK K
  try simp only [Act.put, lA, lB, lC]
  refine wpAnyH_done (by kernel_rfl) ?_ _
  clear hHeld
  clear U4 FJ PUT T16 ON C4
  have p_BX_0 := (cell_of_row w17 _ 0 _ _ _ BX.out).trans (show _ = some (Value.slice (some ⟨g4, 0, none⟩) ss.length fc) from rfl)
  have p_BX_1 := (cell_of_row w17 _ 1 _ _ _ BX.out).trans (show _ = some (Value.int .i64 (now + 1)) from rfl)
  have p_BZ_0 := (cell_of_row w17 _ 0 _ _ _ BZ.out).trans (show _ = some (Value.slice none 0 0) from rfl)
  have p_BZ_1 := (cell_of_row w17 _ 1 _ _ _ BZ.out).trans (show _ = some (Value.int .i64 0) from rfl)
  have f_BZ_0 := frozen_of_row w17 _ 0 _ _ BZ.out
  have f_BZ_1 := frozen_of_row w17 _ 1 _ _ BZ.out
  have tt : Turn (fun q => q = w.heap.size + 2) w17 ((w17.setCell ⟨w.heap.size + 2, 0, none⟩ (.slice (some ⟨g4, 0, none⟩) ss.length fc)).setCell ⟨w.heap.size + 2, 1, none⟩ (.int .i64 (now + 1))) := ((Turn.refl (fun q => q = w.heap.size + 2) _).trans (turn_set (G := fun q => q = w.heap.size + 2) (g := w.heap.size + 2) (j := 0) (u := .slice (some ⟨g4, 0, none⟩) ss.length fc) rfl)).trans (turn_set (G := fun q => q = w.heap.size + 2) (g := w.heap.size + 2) (j := 1) (u := .int .i64 (now + 1)) rfl)
  have r := heap_setCell_same _ (w.heap.size + 2) 1 _ _ (.int .i64 (now + 1)) (heap_setCell_same w17 (w.heap.size + 2) 0 _ _ (.slice (some ⟨g4, 0, none⟩) ss.length fc) BZ.out)
  have e0 := cell_of_row _ _ 0 _ _ _ r
  have e1 := cell_of_row _ _ 1 _ _ _ r
  simp at e0 e1
  have y0 := YW.out
  have y1 := Z_w4.out
  have y2 := Y_X.out
  have y3 := Z_w6.out
  have y4 := Z_w7.out
  have y5 := Z_w8.out
  have y6 := Z_w9.out
  have y7 := Z_w10.out
  have y8 := Z_w11.out
  have y9 := YV.out
  have y10 := YV2.out
  have y11 := Z_dr.out
  have y12 := zN.out
  have y13 := Z_w17.out
  have DF := Lib.hid (below_turn d.out tt (fun q h => by omega) d.out.size)
  have PE := Lib.hid (slO_turn tVersionS_law PF.out tt (fun q h1 h2 => by have r1 := QF.out q h1; omega))
  have QE := Lib.hid (fun q h => (show w.heap.size ≤ q by have r1 := QF.out q h; omega))
  clear tt r y0 y1 y2 y3 y4 y5 y6 y7 y8 y9 y10 y11 y12 y13
  go_wp2
  refine bodyPost_ret (v := .tuple #[.agg #[.slice (some ⟨g4, 0, none⟩) ss.length fc, .int .i64 (now + 1)], .bool true]) ?_ rfl ?_
  ·
   simp [results, Try.f15, go_sem, e0, e1]
  ·
   exact ⟨[.slice (some ⟨g4, 0, none⟩) ss.length fc, .int .i64 (now + 1)], _, rfl, tStore_mkO PE.out (fun q h => h), QE.out, DF.out⟩
 ·
  go_simp
  have hal : Below Wd.heap.size Wd (Wd.alloc (.cells #[.int .i64 id, .slice ua xs.length uc, .int .i64 (now + 1), .int .i64 (-1)] 88)) := (Below.refl _ _).alloc (Nat.le_refl _) _
  have KB0 := B0
  have KB1 := B1
  have KBZ := BZ
  have KBX := BX
  have KBV := BV
  have KPF := PF
  have KPX := PX
  have Kd := d
  have KEW := EW
  replace B0 := Lib.hid ((hal.block w.heap.size (Array.getElem?_eq_some_iff.1 B0.out).1).trans B0.out)
  replace B1 := Lib.hid ((hal.block (w.heap.size + 1) (Array.getElem?_eq_some_iff.1 B1.out).1).trans B1.out)
  replace BZ := Lib.hid ((hal.block (w.heap.size + 2) (Array.getElem?_eq_some_iff.1 BZ.out).1).trans BZ.out)
  replace BX := Lib.hid ((hal.block w4.heap.size (Array.getElem?_eq_some_iff.1 BX.out).1).trans BX.out)
  replace BV := Lib.hid ((hal.block V (Array.getElem?_eq_some_iff.1 BV.out).1).trans BV.out)
  replace PF := Lib.hid (slO_fresh tVersionS_law PF.out hal)
  replace PX := Lib.hid (slO_fresh tInt_law PX.out hal)
  replace d := Lib.hid (d.out.trans (hal.mono d.out.size))
  replace EW := Lib.hid (EW.out.trans (hal.mono EW.out.size))
  clear hal
  have p_BX_0 := (cell_of_row (Wd.alloc (.cells #[.int .i64 id, .slice ua xs.length uc, .int .i64 (now + 1), .int .i64 (-1)] 88)) _ 0 _ _ _ BX.out).trans (show _ = some (Value.slice (some ⟨g4, 0, none⟩) ss.length fc) from rfl)
  have p_BX_1 := (cell_of_row (Wd.alloc (.cells #[.int .i64 id, .slice ua xs.length uc, .int .i64 (now + 1), .int .i64 (-1)] 88)) _ 1 _ _ _ BX.out).trans (show _ = some (Value.int .i64 (now + 1)) from rfl)
  have p_BV_0 := (cell_of_row (Wd.alloc (.cells #[.int .i64 id, .slice ua xs.length uc, .int .i64 (now + 1), .int .i64 (-1)] 88)) _ 0 _ _ _ BV.out).trans (show _ = some (Value.int .i64 id) from rfl)
  have p_BV_1 := (cell_of_row (Wd.alloc (.cells #[.int .i64 id, .slice ua xs.length uc, .int .i64 (now + 1), .int .i64 (-1)] 88)) _ 1 _ _ _ BV.out).trans (show _ = some (Value.slice ua xs.length uc) from rfl)
  have p_BV_2 := (cell_of_row (Wd.alloc (.cells #[.int .i64 id, .slice ua xs.length uc, .int .i64 (now + 1), .int .i64 (-1)] 88)) _ 2 _ _ _ BV.out).trans (show _ = some (Value.int .i64 (now + 1)) from rfl)
  have p_BV_3 := (cell_of_row (Wd.alloc (.cells #[.int .i64 id, .slice ua xs.length uc, .int .i64 (now + 1), .int .i64 (-1)] 88)) _ 3 _ _ _ BV.out).trans (show _ = some (Value.int .i64 (-1)) from rfl)
  refine hK.out _ _ ⟨p_BX_0, p_BX_1, p_BV_0, p_BV_1, p_BV_2, p_BV_3⟩ (fun hHeld => ?_)
  clear p_BX_0 p_BX_1 p_BV_0 p_BV_1 p_BV_2 p_BV_3
  clear hK K
  try simp only [Act.put, lA, lB, lC]
  refine wpAnyH_ready (rs := [7]) (by kernel_rfl) (by simp) ?_
  refine (AllReadyH.cons (o := _) (by simp only [hA, hB, hC]; rfl) (fun K hK => ?_) AllReadyH.nil)
  have cg := (EW.out.cell (p := ⟨g4, rmi, none⟩) G4.out.2.2).trans C4.out
  go_simp
  clear cg
  have p_BX_0 := (cell_of_row (Wd.alloc (.cells #[.int .i64 id, .slice ua xs.length uc, .int .i64 (now + 1), .int .i64 (-1)] 88)) _ 0 _ _ _ BX.out).trans (show _ = some (Value.slice (some ⟨g4, 0, none⟩) ss.length fc) from rfl)
  have p_BX_1 := (cell_of_row (Wd.alloc (.cells #[.int .i64 id, .slice ua xs.length uc, .int .i64 (now + 1), .int .i64 (-1)] 88)) _ 1 _ _ _ BX.out).trans (show _ = some (Value.int .i64 (now + 1)) from rfl)
  have p_BV_0 := (cell_of_row (Wd.alloc (.cells #[.int .i64 id, .slice ua xs.length uc, .int .i64 (now + 1), .int .i64 (-1)] 88)) _ 0 _ _ _ BV.out).trans (show _ = some (Value.int .i64 id) from rfl)
  have p_BV_1 := (cell_of_row (Wd.alloc (.cells #[.int .i64 id, .slice ua xs.length uc, .int .i64 (now + 1), .int .i64 (-1)] 88)) _ 1 _ _ _ BV.out).trans (show _ = some (Value.slice ua xs.length uc) from rfl)
  have p_BV_2 := (cell_of_row (Wd.alloc (.cells #[.int .i64 id, .slice ua xs.length uc, .int .i64 (now + 1), .int .i64 (-1)] 88)) _ 2 _ _ _ BV.out).trans (show _ = some (Value.int .i64 (now + 1)) from rfl)
  have p_BV_3 := (cell_of_row (Wd.alloc (.cells #[.int .i64 id, .slice ua xs.length uc, .int .i64 (now + 1), .int .i64 (-1)] 88)) _ 3 _ _ _ BV.out).trans (show _ = some (Value.int .i64 (-1)) from rfl)
  refine hK.out _ _ ⟨p_BX_0, p_BX_1, p_BV_0, p_BV_1, p_BV_2, p_BV_3⟩ (fun hHeld => ?_)
  clear p_BX_0 p_BX_1 p_BV_0 p_BV_1 p_BV_2 p_BV_3
  clear hK K
  try simp only [Act.put, lA, lB, lC]
  refine wpAnyH_ready (rs := [10]) (by kernel_rfl) (by simp) ?_
  refine (AllReadyH.cons (o := _) (by simp only [hA, hB, hC]; rfl) (fun K hK => ?_) AllReadyH.nil)
  have y0 := YW.out
  have y1 := Z_w4.out
  have y2 := Y_X.out
  have y3 := Z_w6.out
  have y4 := Z_w7.out
  have y5 := Z_w8.out
  have y6 := Z_w9.out
  have y7 := Z_w10.out
  have y8 := Z_w11.out
  have y9 := YV.out
  have y10 := YV2.out
  have y11 := Z_dr.out
  have yw := KEW.out.size
  have yd := Kd.out.size
  have hD := HD.out
  have hw4 := HW4.out
  have hnew : tVersion.O Wd (fun q => w10.heap.size ≤ q) [.int .i64 id, .slice ua xs.length uc, .int .i64 (now + 1), .int .i64 (-1)] (id, xs, now + 1, -1) := tVersion_mkO KPX.out (fun q hq => by have r1 := QX.out q hq; show w10.heap.size ≤ q; omega)
  refine step_append_T tVersion_law info_T_Version Try.underlying89 rfl rfl (.tmp 112) (.tmp 114) rfl (fun q => Fj q ∨ w10.heap.size ≤ q) w10.heap.size _ (l) rfl (slO_mono (slO_fresh tVersion_law U4.out KEW.out) (fun q hq => ⟨Or.inl hq, (FJ.out q hq).2.2⟩)) (by omega) (fun q hq => Or.inr hq) HRL.out [.int .i64 id, .slice ua xs.length uc, .int .i64 (now + 1), .int .i64 (-1)] (id, xs, now + 1, -1) hnew (by simp [Value.oneCell']) 1 _ rfl rfl ?_
  intro v7 w16 oN tN
  obtain ⟨na, nc, rfl⟩ := slO_len oN
  have T16 : Hid (Turn (fun q => Fj q ∨ w10.heap.size ≤ q) Wd w16) := Lib.hid ((turn_below KEW.out).trans (tN.mono (fun q h => h.1)))
  replace B0 := Lib.hid ((tN.block w.heap.size (Array.getElem?_eq_some_iff.1 KB0.out).1 (fun h => by have r3 := h.2; rcases h.1 with r4 | r4; (have r5 := QF.out _ ⟨(FJ.out _ r4).1, (FJ.out _ r4).2.2⟩; omega); omega)).trans KB0.out)
  replace B1 := Lib.hid ((tN.block (w.heap.size + 1) (Array.getElem?_eq_some_iff.1 KB1.out).1 (fun h => by have r3 := h.2; rcases h.1 with r4 | r4; (have r5 := QF.out _ ⟨(FJ.out _ r4).1, (FJ.out _ r4).2.2⟩; omega); omega)).trans KB1.out)
  replace BZ := Lib.hid ((tN.block (w.heap.size + 2) (Array.getElem?_eq_some_iff.1 KBZ.out).1 (fun h => by have r3 := h.2; rcases h.1 with r4 | r4; (have r5 := QF.out _ ⟨(FJ.out _ r4).1, (FJ.out _ r4).2.2⟩; omega); omega)).trans KBZ.out)
  replace BX := Lib.hid ((tN.block w4.heap.size (Array.getElem?_eq_some_iff.1 KBX.out).1 (fun h => by have r3 := h.2; rcases h.1 with r4 | r4; (have r5 := QF.out _ ⟨(FJ.out _ r4).1, (FJ.out _ r4).2.2⟩; omega); omega)).trans KBX.out)
  replace BV := Lib.hid ((tN.block V (Array.getElem?_eq_some_iff.1 KBV.out).1 (fun h => by have r3 := h.2; rcases h.1 with r4 | r4; (have r5 := QF.out _ ⟨(FJ.out _ r4).1, (FJ.out _ r4).2.2⟩; omega); omega)).trans KBV.out)
  replace d := Lib.hid (below_turn Kd.out tN (fun q h => by have r3 := h.2; rcases h.1 with r4 | r4; (have r5 := QF.out _ ⟨(FJ.out _ r4).1, (FJ.out _ r4).2.2⟩; omega); omega) yd)
  have zN := Lib.hid (show Wd.heap.size ≤ w16.heap.size from tN.size)
  have ON := Lib.hid oN
  clear hnew oN tN yd yw hD hw4 EW PF PX KB0 KB1 KBZ KBX KBV KPF KPX Kd KEW y0 y1 y2 y3 y4 y5 y6 y7 y8 y9 y10 y11
  have p_BX_0 := (cell_of_row w16 _ 0 _ _ _ BX.out).trans (show _ = some (Value.slice (some ⟨g4, 0, none⟩) ss.length fc) from rfl)
  have p_BX_1 := (cell_of_row w16 _ 1 _ _ _ BX.out).trans (show _ = some (Value.int .i64 (now + 1)) from rfl)
  have p_BV_0 := (cell_of_row w16 _ 0 _ _ _ BV.out).trans (show _ = some (Value.int .i64 id) from rfl)
  have p_BV_1 := (cell_of_row w16 _ 1 _ _ _ BV.out).trans (show _ = some (Value.slice ua xs.length uc) from rfl)
  have p_BV_2 := (cell_of_row w16 _ 2 _ _ _ BV.out).trans (show _ = some (Value.int .i64 (now + 1)) from rfl)
  have p_BV_3 := (cell_of_row w16 _ 3 _ _ _ BV.out).trans (show _ = some (Value.int .i64 (-1)) from rfl)
  refine hK.out _ _ ⟨p_BX_0, p_BX_1, p_BV_0, p_BV_1, p_BV_2, p_BV_3⟩ (fun hHeld => ?_)
  clear p_BX_0 p_BX_1 p_BV_0 p_BV_1 p_BV_2 p_BV_3
  clear hK K
  try simp only [Act.put, lA, lB, lC]
  refine tR (i := 11) (v := ?_) ?_ ?_; rotate_left
  ·
   intro w hSw; (try dsimp only at hSw); go_simp; try (with_reducible rfl)
  try simp only [Act.put, lA, lB, lC]
  refine wpAnyH_ready (rs := [12]) (by kernel_rfl) (by simp) ?_
  refine (AllReadyH.cons (o := _) (by simp only [hA, hB, hC]; rfl) (fun K hK => ?_) AllReadyH.nil)
  obtain ⟨⟨cw, fw⟩, ow⟩ := PUT.out w16 _ _ T16.out ON.out
  have OW := Lib.hid ow
  clear ow
  have px := HAPL.out
  go_simp
  clear cw fw px
  rw [HAPL.out] at OW
  have tt : Turn (fun q => q = g4) w16 (w16.setCell ⟨g4, rmi, none⟩ (.slice na ((l).length + 1) nc)) := turn_set (G := fun q => q = g4) (g := g4) (j := rmi) (u := .slice na ((l).length + 1) nc) rfl
  generalize (w16.setCell ⟨g4, rmi, none⟩ (.slice na ((l).length + 1) nc)) = w17 at *
  rw [HLL.out] at OW
  have y0 := YW.out
  have y1 := Z_w4.out
  have y2 := Y_X.out
  have y3 := Z_w6.out
  have y4 := Z_w7.out
  have y5 := Z_w8.out
  have y6 := Z_w9.out
  have y7 := Z_w10.out
  have y8 := Z_w11.out
  have y9 := YV.out
  have y10 := YV2.out
  have y11 := Z_dr.out
  have y12 := zN.out
  have yd : w.heap.size ≤ w16.heap.size := d.out.size
  replace B0 := Lib.hid ((tt.block w.heap.size (Array.getElem?_eq_some_iff.1 B0.out).1 (fun h => by have r2 : _ = g4 := h; have r4 := G4.out; omega)).trans B0.out)
  replace B1 := Lib.hid ((tt.block (w.heap.size + 1) (Array.getElem?_eq_some_iff.1 B1.out).1 (fun h => by have r2 : _ = g4 := h; have r4 := G4.out; omega)).trans B1.out)
  replace BZ := Lib.hid ((tt.block (w.heap.size + 2) (Array.getElem?_eq_some_iff.1 BZ.out).1 (fun h => by have r2 : _ = g4 := h; have r4 := G4.out; omega)).trans BZ.out)
  replace BX := Lib.hid ((tt.block w4.heap.size (Array.getElem?_eq_some_iff.1 BX.out).1 (fun h => by have r2 : _ = g4 := h; have r4 := G4.out; omega)).trans BX.out)
  replace BV := Lib.hid ((tt.block V (Array.getElem?_eq_some_iff.1 BV.out).1 (fun h => by have r2 : _ = g4 := h; have r4 := G4.out; omega)).trans BV.out)
  replace d := Lib.hid (below_turn d.out tt (fun b h => by have r2 : _ = g4 := h; have r4 := G4.out; omega) (by omega))
  have Z_w17 := Lib.hid (show w16.heap.size ≤ w17.heap.size from tt.size)
  clear yd y0 y1 y2 y3 y4 y5 y6 y7 y8 y9 y10 y11 y12
  have PF := OW
  have QF2 := Lib.hid (fun q (h : (W.heap.size ≤ q ∧ q < w4.heap.size) ∨ w10.heap.size ≤ q) => h)
  clear OW tt QF
  have QF := QF2
  clear QF2
  have p_BX_0 := (cell_of_row w17 _ 0 _ _ _ BX.out).trans (show _ = some (Value.slice (some ⟨g4, 0, none⟩) ss.length fc) from rfl)
  have p_BX_1 := (cell_of_row w17 _ 1 _ _ _ BX.out).trans (show _ = some (Value.int .i64 (now + 1)) from rfl)
  have p_BV_0 := (cell_of_row w17 _ 0 _ _ _ BV.out).trans (show _ = some (Value.int .i64 id) from rfl)
  have p_BV_1 := (cell_of_row w17 _ 1 _ _ _ BV.out).trans (show _ = some (Value.slice ua xs.length uc) from rfl)
  have p_BV_2 := (cell_of_row w17 _ 2 _ _ _ BV.out).trans (show _ = some (Value.int .i64 (now + 1)) from rfl)
  have p_BV_3 := (cell_of_row w17 _ 3 _ _ _ BV.out).trans (show _ = some (Value.int .i64 (-1)) from rfl)
  refine hK.out _ _ ⟨p_BX_0, p_BX_1, p_BV_0, p_BV_1, p_BV_2, p_BV_3⟩ (fun hHeld => ?_)
  clear p_BX_0 p_BX_1 p_BV_0 p_BV_1 p_BV_2 p_BV_3
  clear hK K
  try simp only [Act.put, lA, lB, lC]
  refine wpAnyH_done (by kernel_rfl) ?_ _
  clear hHeld
  clear U4 FJ PUT T16 ON C4
  have p_BX_0 := (cell_of_row w17 _ 0 _ _ _ BX.out).trans (show _ = some (Value.slice (some ⟨g4, 0, none⟩) ss.length fc) from rfl)
  have p_BX_1 := (cell_of_row w17 _ 1 _ _ _ BX.out).trans (show _ = some (Value.int .i64 (now + 1)) from rfl)
  have p_BZ_0 := (cell_of_row w17 _ 0 _ _ _ BZ.out).trans (show _ = some (Value.slice none 0 0) from rfl)
  have p_BZ_1 := (cell_of_row w17 _ 1 _ _ _ BZ.out).trans (show _ = some (Value.int .i64 0) from rfl)
  have f_BZ_0 := frozen_of_row w17 _ 0 _ _ BZ.out
  have f_BZ_1 := frozen_of_row w17 _ 1 _ _ BZ.out
  have tt : Turn (fun q => q = w.heap.size + 2) w17 ((w17.setCell ⟨w.heap.size + 2, 0, none⟩ (.slice (some ⟨g4, 0, none⟩) ss.length fc)).setCell ⟨w.heap.size + 2, 1, none⟩ (.int .i64 (now + 1))) := ((Turn.refl (fun q => q = w.heap.size + 2) _).trans (turn_set (G := fun q => q = w.heap.size + 2) (g := w.heap.size + 2) (j := 0) (u := .slice (some ⟨g4, 0, none⟩) ss.length fc) rfl)).trans (turn_set (G := fun q => q = w.heap.size + 2) (g := w.heap.size + 2) (j := 1) (u := .int .i64 (now + 1)) rfl)
  have r := heap_setCell_same _ (w.heap.size + 2) 1 _ _ (.int .i64 (now + 1)) (heap_setCell_same w17 (w.heap.size + 2) 0 _ _ (.slice (some ⟨g4, 0, none⟩) ss.length fc) BZ.out)
  have e0 := cell_of_row _ _ 0 _ _ _ r
  have e1 := cell_of_row _ _ 1 _ _ _ r
  simp at e0 e1
  have y0 := YW.out
  have y1 := Z_w4.out
  have y2 := Y_X.out
  have y3 := Z_w6.out
  have y4 := Z_w7.out
  have y5 := Z_w8.out
  have y6 := Z_w9.out
  have y7 := Z_w10.out
  have y8 := Z_w11.out
  have y9 := YV.out
  have y10 := YV2.out
  have y11 := Z_dr.out
  have y12 := zN.out
  have y13 := Z_w17.out
  have DF := Lib.hid (below_turn d.out tt (fun q h => by omega) d.out.size)
  have PE := Lib.hid (slO_turn tVersionS_law PF.out tt (fun q h1 h2 => by have r1 := QF.out q h1; omega))
  have QE := Lib.hid (fun q h => (show w.heap.size ≤ q by have r1 := QF.out q h; omega))
  clear tt r y0 y1 y2 y3 y4 y5 y6 y7 y8 y9 y10 y11 y12 y13
  go_wp2
  refine bodyPost_ret (v := .tuple #[.agg #[.slice (some ⟨g4, 0, none⟩) ss.length fc, .int .i64 (now + 1)], .bool true]) ?_ rfl ?_
  ·
   simp [results, Try.f15, go_sem, e0, e1]
  ·
   exact ⟨[.slice (some ⟨g4, 0, none⟩) ss.length fc, .int .i64 (now + 1)], _, rfl, tStore_mkO PE.out (fun q h => h), QE.out, DF.out⟩
set_option maxHeartbeats 32000000 in
set_option maxRecDepth 100000 in
theorem specApply_del (id f x now : Int) (sv vv : Value) (ss : List (List VerD)) (xs : List Int) (w : World) (h : SlR tVersionS w sv ss) (hs : zL tVersionS ss ≤ 1048576) (g : SlR tInt w vv xs) (hn : xs.length ≤ 1048576) (h1 : storeB ss now = true) (h2 : updB (2, (id, xs), f, x) = true) (h3 : now < 100000) (hsg : segI ss id < ss.length) :
  Calls Try.prog 15 #[.agg #[sv, .int .i64 now], .agg #[.int .i64 2, .int .i64 id, vv, .int .i64 f, .int .i64 x]] w (FreshNew w (applyB (ss, now) (2, (id, xs), f, x))) := by
 obtain ⟨a, cap, rfl⟩ := slR_len h
 obtain ⟨va, vc, rfl⟩ := slR_len g
 have hlen := zL_len hs
 have H := Lib.hid h
 have G := Lib.hid g
 have HC := Lib.hid (fun W h => specCopy (.slice a ss.length cap) ss now W h hs)
 have HIS := Lib.hid (fun W h => specIsStore (.slice a ss.length cap) ss now W h hs)
 have HIU := Lib.hid (fun W g => specIsUpdate 2 id f x (.slice va xs.length vc) xs W g hn)
 have HFI := Lib.hid (fun W h => specFind (.slice a ss.length cap) ss now id W h hs)
 have HRO := Lib.hid (fun W h => specRoom (.slice a ss.length cap) ss now W h hs)
 clear h g hs hn
 have hok : okP ss now (2, (id, xs), f, x) := ⟨h1, h2, h3, ⟨fun q => absurd q (show ¬ (2 : Int) = 1 by decide), fun q => absurd hsg q⟩, fun q => absurd rfl q⟩
 have HDN : doneL ss (now + 1) (2, (id, xs), f, x) = dieL ss (segI ss id) (verI (ss.getD (segI ss id) []) id) (now + 1) := by unfold doneL kill1; rw [if_neg (show ¬ (2 : Int) = 1 by decide), if_pos rfl]
 rw [apply_yes hok, HDN]
 rw [h1] at HIS
 rw [h2] at HIU
 have h4 : decide (100000 ≤ now) = false := decide_eq_false (by omega)
 have h5 : ¬ (100000 : Int) ≤ now := by omega
 have HS1 : idxI ss.length (segI ss id) = (segI ss id : Int) := if_pos hsg
 have HS2 : fndJ ss id = (verI (ss.getD (segI ss id) []) id : Int) := if_pos hsg
 rw [HS1, HS2] at HFI
 have i0 : ¬ (segI ss id : Int) < 0 := by omega
 have i1 : decide ((segI ss id : Int) < 0) = false := decide_eq_false (by omega)
 have i2 : (0 : Int) ≤ (segI ss id : Int) := by omega
 have hnow := (store_iff h1).1.2
 have n0 : 0 ≤ now := hnow.1
 have n1 : now < 100000 := h3
 have HI := Lib.hid hsg
 have HK := Lib.hid (old_alive hsg).1
 have HXN : Hid (xs.length ≤ 1048576) := Lib.hid (by
  rcases upd_cases h2 with q | q | q
  ·
   exact absurd q.1 (show ¬ (2 : Int) = 1 by decide)
  ·
   have q2 : xs.length = 0 := q.2.2.1; omega
  ·
   exact absurd q.1 (show ¬ (2 : Int) = 3 by decide))
 have HYN : Hid (((ss.getD (segI ss id) []).getD (verI (ss.getD (segI ss id) []) id) v0D).2.1.length = 3) := Lib.hid (old_three h1 hsg)
 have i3 : (segI ss id : Int) < (ss.length : Int) := by omega
 have hkk := HK.out
 have j1 : (0 : Int) ≤ (verI (ss.getD (segI ss id) []) id : Int) := by omega
 have j2 : (verI (ss.getD (segI ss id) []) id : Int) < ((ss.getD (segI ss id) []).length : Int) := by omega
 clear h1 h2 h3 hok HDN HS1 HS2 hsg hnow hkk
 generalize segI ss id = i at *
 generalize verI (ss.getD i []) id = kx at *
 obtain ⟨li, hli⟩ : ∃ li, li = ss.getD i [] := ⟨_, rfl⟩
 obtain ⟨ys, hys⟩ : ∃ ys, ys = ((ss.getD i []).getD kx v0D).2.1 := ⟨_, rfl⟩
 have HLI := Lib.hid hli
 have HYS := Lib.hid hys
 rw [← hys] at HYN
 rw [← hli] at j2
 clear hli hys
 have d := Lib.hid (show Below w.heap.size w (((w.alloc (.cells #[.slice a ss.length cap, .int .i64 now] 41)).alloc (.cells #[.int .i64 2, .int .i64 id, .slice va xs.length vc, .int .i64 f, .int .i64 x] 31)).alloc (.cells #[.slice none 0 0, .int .i64 0] 41)) from (((Below.refl _ _).alloc (Nat.le_refl _) _).alloc (by simp <;> omega) _).alloc (by simp <;> omega) _)
 have B0 : Hid ((((w.alloc (.cells #[.slice a ss.length cap, .int .i64 now] 41)).alloc (.cells #[.int .i64 2, .int .i64 id, .slice va xs.length vc, .int .i64 f, .int .i64 x] 31)).alloc (.cells #[.slice none 0 0, .int .i64 0] 41)).heap[w.heap.size]? = some (.cells #[.slice a ss.length cap, .int .i64 now] 41 (0, 0))) := Lib.hid (by
  rw [Below.heap_alloc _ _ _ (by simp <;> omega), Below.heap_alloc _ _ _ (by simp)]; exact heap_alloc_new w _)
 have B1 : Hid ((((w.alloc (.cells #[.slice a ss.length cap, .int .i64 now] 41)).alloc (.cells #[.int .i64 2, .int .i64 id, .slice va xs.length vc, .int .i64 f, .int .i64 x] 31)).alloc (.cells #[.slice none 0 0, .int .i64 0] 41)).heap[(w.heap.size + 1)]? = some (.cells #[.int .i64 2, .int .i64 id, .slice va xs.length vc, .int .i64 f, .int .i64 x] 31 (0, 0))) := Lib.hid (by
  rw [Below.heap_alloc _ _ _ (by simp)]
  have := heap_alloc_new (w.alloc (.cells #[.slice a ss.length cap, .int .i64 now] 41)) (.cells #[.int .i64 2, .int .i64 id, .slice va xs.length vc, .int .i64 f, .int .i64 x] 31)
  simpa only [World.size_alloc] using this)
 have BZ : Hid ((((w.alloc (.cells #[.slice a ss.length cap, .int .i64 now] 41)).alloc (.cells #[.int .i64 2, .int .i64 id, .slice va xs.length vc, .int .i64 f, .int .i64 x] 31)).alloc (.cells #[.slice none 0 0, .int .i64 0] 41)).heap[(w.heap.size + 2)]? = some (.cells #[.slice none 0 0, .int .i64 0] 41 (0, 0))) := Lib.hid (by
  have := heap_alloc_new ((w.alloc (.cells #[.slice a ss.length cap, .int .i64 now] 41)).alloc (.cells #[.int .i64 2, .int .i64 id, .slice va xs.length vc, .int .i64 f, .int .i64 x] 31)) (.cells #[.slice none 0 0, .int .i64 0] 41)
  simpa only [World.size_alloc] using this)
 have YW : Hid (w.heap.size + 2 < (((w.alloc (.cells #[.slice a ss.length cap, .int .i64 now] 41)).alloc (.cells #[.int .i64 2, .int .i64 id, .slice va xs.length vc, .int .i64 f, .int .i64 x] 31)).alloc (.cells #[.slice none 0 0, .int .i64 0] 41)).heap.size) := Lib.hid (by simp)
 go_enter Try.func15, Try.ntmps15
 go_wp2_with fail
 generalize (((w.alloc (.cells #[.slice a ss.length cap, .int .i64 now] 41)).alloc (.cells #[.int .i64 2, .int .i64 id, .slice va xs.length vc, .int .i64 f, .int .i64 x] 31)).alloc (.cells #[.slice none 0 0, .int .i64 0] 41)) = W at *
 refine (HC.out W (slR_below tVersionS_law H.out d.out)).mono ?_
 rintro e w4 ⟨cs, rfl, oc, c4⟩
 obtain ⟨fv, F4, rfl, of, q4⟩ := tStore_O (tStore_law.lt oc)
 obtain ⟨fa, fc, rfl⟩ := slO_len of
 have PF := Lib.hid (slO_mono of q4)
 replace B0 := Lib.hid ((c4.block w.heap.size (Array.getElem?_eq_some_iff.1 B0.out).1).trans B0.out)
 replace B1 := Lib.hid ((c4.block (w.heap.size + 1) (Array.getElem?_eq_some_iff.1 B1.out).1).trans B1.out)
 replace BZ := Lib.hid ((c4.block (w.heap.size + 2) (Array.getElem?_eq_some_iff.1 BZ.out).1).trans BZ.out)
 replace d := Lib.hid (d.out.trans (c4.mono d.out.size))
 have Z_w4 := Lib.hid (show W.heap.size ≤ w4.heap.size from c4.size)
 have QF := Lib.hid (fun q (h : since W q ∧ q < w4.heap.size) => (show W.heap.size ≤ q ∧ q < w4.heap.size from h))
 clear oc of q4 c4
 have hal : Below w4.heap.size w4 (w4.alloc (.cells #[.slice fa ss.length fc, .int .i64 now] 41)) := (Below.refl _ _).alloc (Nat.le_refl _) _
 have BX := Lib.hid (heap_alloc_new w4 (.cells #[.slice fa ss.length fc, .int .i64 now] 41))
 have Y_X := Lib.hid (show w4.heap.size < (w4.alloc (.cells #[.slice fa ss.length fc, .int .i64 now] 41)).heap.size by simp [World.size_alloc])
 replace B0 := Lib.hid ((hal.block w.heap.size (Array.getElem?_eq_some_iff.1 B0.out).1).trans B0.out)
 replace B1 := Lib.hid ((hal.block (w.heap.size + 1) (Array.getElem?_eq_some_iff.1 B1.out).1).trans B1.out)
 replace BZ := Lib.hid ((hal.block (w.heap.size + 2) (Array.getElem?_eq_some_iff.1 BZ.out).1).trans BZ.out)
 replace PF := Lib.hid (slO_fresh tVersionS_law PF.out hal)
 replace d := Lib.hid (d.out.trans (hal.mono d.out.size))
 clear hal
 have p_B0_0 := (cell_of_row (w4.alloc (.cells #[.slice fa ss.length fc, .int .i64 now] 41)) _ 0 _ _ _ B0.out).trans (show _ = some (Value.slice a ss.length cap) from rfl)
 have p_B0_1 := (cell_of_row (w4.alloc (.cells #[.slice fa ss.length fc, .int .i64 now] 41)) _ 1 _ _ _ B0.out).trans (show _ = some (Value.int .i64 now) from rfl)
 go_wp2_with fail
 clear p_B0_0 p_B0_1
 generalize w4.alloc (.cells #[.slice fa ss.length fc, .int .i64 now] 41) = w5 at *
 refine (HIS.out w5 (slR_below tVersionS_law H.out d.out)).mono ?_
 rintro e w6 ⟨rfl, cw6⟩
 replace B0 := Lib.hid ((cw6.block w.heap.size (Array.getElem?_eq_some_iff.1 B0.out).1).trans B0.out)
 replace B1 := Lib.hid ((cw6.block (w.heap.size + 1) (Array.getElem?_eq_some_iff.1 B1.out).1).trans B1.out)
 replace BZ := Lib.hid ((cw6.block (w.heap.size + 2) (Array.getElem?_eq_some_iff.1 BZ.out).1).trans BZ.out)
 replace BX := Lib.hid ((cw6.block w4.heap.size (Array.getElem?_eq_some_iff.1 BX.out).1).trans BX.out)
 replace PF := Lib.hid (slO_fresh tVersionS_law PF.out cw6)
 replace d := Lib.hid (d.out.trans (cw6.mono d.out.size))
 have Z_w6 := Lib.hid (show w5.heap.size ≤ w6.heap.size from cw6.size)
 clear cw6
 have p_B1_0 := (cell_of_row w6 _ 0 _ _ _ B1.out).trans (show _ = some (Value.int .i64 2) from rfl)
 have p_B1_1 := (cell_of_row w6 _ 1 _ _ _ B1.out).trans (show _ = some (Value.int .i64 id) from rfl)
 have p_B1_2 := (cell_of_row w6 _ 2 _ _ _ B1.out).trans (show _ = some (Value.slice va xs.length vc) from rfl)
 have p_B1_3 := (cell_of_row w6 _ 3 _ _ _ B1.out).trans (show _ = some (Value.int .i64 f) from rfl)
 have p_B1_4 := (cell_of_row w6 _ 4 _ _ _ B1.out).trans (show _ = some (Value.int .i64 x) from rfl)
 go_wp2_with fail
 clear p_B1_0 p_B1_1 p_B1_2 p_B1_3 p_B1_4
 refine (HIU.out w6 (slR_ints (slR_below tInt_law G.out d.out))).mono ?_
 rintro e w7 ⟨rfl, cw7⟩
 replace B0 := Lib.hid ((cw7.block w.heap.size (Array.getElem?_eq_some_iff.1 B0.out).1).trans B0.out)
 replace B1 := Lib.hid ((cw7.block (w.heap.size + 1) (Array.getElem?_eq_some_iff.1 B1.out).1).trans B1.out)
 replace BZ := Lib.hid ((cw7.block (w.heap.size + 2) (Array.getElem?_eq_some_iff.1 BZ.out).1).trans BZ.out)
 replace BX := Lib.hid ((cw7.block w4.heap.size (Array.getElem?_eq_some_iff.1 BX.out).1).trans BX.out)
 replace PF := Lib.hid (slO_fresh tVersionS_law PF.out cw7)
 replace d := Lib.hid (d.out.trans (cw7.mono d.out.size))
 have Z_w7 := Lib.hid (show w6.heap.size ≤ w7.heap.size from cw7.size)
 clear cw7
 have p_B0_0 := (cell_of_row w7 _ 0 _ _ _ B0.out).trans (show _ = some (Value.slice a ss.length cap) from rfl)
 have p_B0_1 := (cell_of_row w7 _ 1 _ _ _ B0.out).trans (show _ = some (Value.int .i64 now) from rfl)
 have p_B1_0 := (cell_of_row w7 _ 0 _ _ _ B1.out).trans (show _ = some (Value.int .i64 2) from rfl)
 have p_B1_1 := (cell_of_row w7 _ 1 _ _ _ B1.out).trans (show _ = some (Value.int .i64 id) from rfl)
 have p_B1_2 := (cell_of_row w7 _ 2 _ _ _ B1.out).trans (show _ = some (Value.slice va xs.length vc) from rfl)
 have p_B1_3 := (cell_of_row w7 _ 3 _ _ _ B1.out).trans (show _ = some (Value.int .i64 f) from rfl)
 have p_B1_4 := (cell_of_row w7 _ 4 _ _ _ B1.out).trans (show _ = some (Value.int .i64 x) from rfl)
 go_wp2_with fail
 clear p_B0_0 p_B0_1 p_B1_0 p_B1_1 p_B1_2 p_B1_3 p_B1_4
 refine (HFI.out w7 (slR_below tVersionS_law H.out d.out)).mono ?_
 rintro e w8 ⟨rfl, cw8⟩
 replace B0 := Lib.hid ((cw8.block w.heap.size (Array.getElem?_eq_some_iff.1 B0.out).1).trans B0.out)
 replace B1 := Lib.hid ((cw8.block (w.heap.size + 1) (Array.getElem?_eq_some_iff.1 B1.out).1).trans B1.out)
 replace BZ := Lib.hid ((cw8.block (w.heap.size + 2) (Array.getElem?_eq_some_iff.1 BZ.out).1).trans BZ.out)
 replace BX := Lib.hid ((cw8.block w4.heap.size (Array.getElem?_eq_some_iff.1 BX.out).1).trans BX.out)
 replace PF := Lib.hid (slO_fresh tVersionS_law PF.out cw8)
 replace d := Lib.hid (d.out.trans (cw8.mono d.out.size))
 have Z_w8 := Lib.hid (show w7.heap.size ≤ w8.heap.size from cw8.size)
 clear cw8
 have p_B0_0 := (cell_of_row w8 _ 0 _ _ _ B0.out).trans (show _ = some (Value.slice a ss.length cap) from rfl)
 have p_B0_1 := (cell_of_row w8 _ 1 _ _ _ B0.out).trans (show _ = some (Value.int .i64 now) from rfl)
 go_wp2_with fail
 clear p_B0_0 p_B0_1
 refine (HRO.out w8 (slR_below tVersionS_law H.out d.out)).mono ?_
 rintro e w9 ⟨rfl, cw9⟩
 replace B0 := Lib.hid ((cw9.block w.heap.size (Array.getElem?_eq_some_iff.1 B0.out).1).trans B0.out)
 replace B1 := Lib.hid ((cw9.block (w.heap.size + 1) (Array.getElem?_eq_some_iff.1 B1.out).1).trans B1.out)
 replace BZ := Lib.hid ((cw9.block (w.heap.size + 2) (Array.getElem?_eq_some_iff.1 BZ.out).1).trans BZ.out)
 replace BX := Lib.hid ((cw9.block w4.heap.size (Array.getElem?_eq_some_iff.1 BX.out).1).trans BX.out)
 replace PF := Lib.hid (slO_fresh tVersionS_law PF.out cw9)
 replace d := Lib.hid (d.out.trans (cw9.mono d.out.size))
 have Z_w9 := Lib.hid (show w8.heap.size ≤ w9.heap.size from cw9.size)
 clear cw9
 have p_B0_0 := (cell_of_row w9 _ 0 _ _ _ B0.out).trans (show _ = some (Value.slice a ss.length cap) from rfl)
 have p_B0_1 := (cell_of_row w9 _ 1 _ _ _ B0.out).trans (show _ = some (Value.int .i64 now) from rfl)
 have p_B1_0 := (cell_of_row w9 _ 0 _ _ _ B1.out).trans (show _ = some (Value.int .i64 2) from rfl)
 have p_B1_1 := (cell_of_row w9 _ 1 _ _ _ B1.out).trans (show _ = some (Value.int .i64 id) from rfl)
 have p_B1_2 := (cell_of_row w9 _ 2 _ _ _ B1.out).trans (show _ = some (Value.slice va xs.length vc) from rfl)
 have p_B1_3 := (cell_of_row w9 _ 3 _ _ _ B1.out).trans (show _ = some (Value.int .i64 f) from rfl)
 have p_B1_4 := (cell_of_row w9 _ 4 _ _ _ B1.out).trans (show _ = some (Value.int .i64 x) from rfl)
 have p_BX_0 := (cell_of_row w9 _ 0 _ _ _ BX.out).trans (show _ = some (Value.slice fa ss.length fc) from rfl)
 have p_BX_1 := (cell_of_row w9 _ 1 _ _ _ BX.out).trans (show _ = some (Value.int .i64 now) from rfl)
 have f_BX_1 := frozen_of_row w9 _ 1 _ _ BX.out
 go_upto_region 9 with fail
 clear p_B0_0 p_B0_1 p_B1_0 p_B1_1 p_B1_2 p_B1_3 p_B1_4 p_BX_0 p_BX_1 f_BX_1
 have tt : Turn (fun q => q = w4.heap.size) w9 (w9.setCell ⟨w4.heap.size, 1, none⟩ (.int .i64 (now + 1))) := turn_set (G := fun q => q = w4.heap.size) (g := w4.heap.size) (j := 1) (u := .int .i64 (now + 1)) rfl
 have r := heap_setCell_same w9 (w4.heap.size) 1 _ _ (.int .i64 (now + 1)) BX.out
 simp at r
 generalize (w9.setCell ⟨w4.heap.size, 1, none⟩ (.int .i64 (now + 1))) = w10 at *
 have y0 := YW.out
 have y1 := Z_w4.out
 have y2 := Y_X.out
 have y3 := Z_w6.out
 have y4 := Z_w7.out
 have y5 := Z_w8.out
 have y6 := Z_w9.out
 have yd : w.heap.size ≤ w9.heap.size := d.out.size
 replace B0 := Lib.hid ((tt.block w.heap.size (Array.getElem?_eq_some_iff.1 B0.out).1 (fun h => by have r2 : _ = w4.heap.size := h; omega)).trans B0.out)
 replace B1 := Lib.hid ((tt.block (w.heap.size + 1) (Array.getElem?_eq_some_iff.1 B1.out).1 (fun h => by have r2 : _ = w4.heap.size := h; omega)).trans B1.out)
 replace BZ := Lib.hid ((tt.block (w.heap.size + 2) (Array.getElem?_eq_some_iff.1 BZ.out).1 (fun h => by have r2 : _ = w4.heap.size := h; omega)).trans BZ.out)
 replace PF := Lib.hid (slO_turn tVersionS_law PF.out tt (fun b h1 h2 => by have r1 := QF.out b h1; have r2 : _ = w4.heap.size := h2; omega))
 replace d := Lib.hid (below_turn d.out tt (fun b h => by have r2 : _ = w4.heap.size := h; omega) (by omega))
 have Z_w10 := Lib.hid (show w9.heap.size ≤ w10.heap.size from tt.size)
 clear yd y0 y1 y2 y3 y4 y5 y6
 replace BX : Hid (w10.heap[w4.heap.size]? = some (.cells #[.slice fa ss.length fc, .int .i64 (now + 1)] 41 (0, 0))) := Lib.hid r
 clear r tt
 go_cut [10] from 57 (fun s10 wx => ∃ (V : Nat) (ua : Option Addr) (uc : Nat) (KV : Nat → Prop), s10 = .pointer (some ⟨V, 0, none⟩) ∧ wx.heap[V]? = some (.cells #[.int .i64 id, .slice ua xs.length uc, .int .i64 (now + 1), .int .i64 (-1)] 88 (0, 0)) ∧ w10.heap.size ≤ V ∧ V < wx.heap.size ∧ SlO 3 tInt wx KV (.slice ua xs.length uc) xs ∧ (∀ q, KV q → w10.heap.size ≤ q ∧ q < wx.heap.size ∧ q ≠ V) ∧ Below w10.heap.size w10 wx)
 case first =>
  have DD := d
  clear d
  replace G := Lib.hid (slR_below tInt_law G.out DD.out)
  have d := Lib.hid (Below.refl w10.heap.size w10)
  go_wp2
  have p_B1_0 := (cell_of_row w10 _ 0 _ _ _ B1.out).trans (show _ = some (Value.int .i64 2) from rfl)
  have p_B1_1 := (cell_of_row w10 _ 1 _ _ _ B1.out).trans (show _ = some (Value.int .i64 id) from rfl)
  have p_B1_2 := (cell_of_row w10 _ 2 _ _ _ B1.out).trans (show _ = some (Value.slice va xs.length vc) from rfl)
  have p_B1_3 := (cell_of_row w10 _ 3 _ _ _ B1.out).trans (show _ = some (Value.int .i64 f) from rfl)
  have p_B1_4 := (cell_of_row w10 _ 4 _ _ _ B1.out).trans (show _ = some (Value.int .i64 x) from rfl)
  have p_BX_0 := (cell_of_row w10 _ 0 _ _ _ BX.out).trans (show _ = some (Value.slice fa ss.length fc) from rfl)
  have p_BX_1 := (cell_of_row w10 _ 1 _ _ _ BX.out).trans (show _ = some (Value.int .i64 (now + 1)) from rfl)
  refine wp_region_held_drew (S := fun w' => w'.cell? ⟨(w.heap.size + 1), 0, none⟩ = some (Value.int .i64 2) ∧ w'.cell? ⟨(w.heap.size + 1), 1, none⟩ = some (Value.int .i64 id) ∧ w'.cell? ⟨(w.heap.size + 1), 2, none⟩ = some (Value.slice va xs.length vc) ∧ w'.cell? ⟨(w.heap.size + 1), 3, none⟩ = some (Value.int .i64 f) ∧ w'.cell? ⟨(w.heap.size + 1), 4, none⟩ = some (Value.int .i64 x) ∧ w'.cell? ⟨w4.heap.size, 0, none⟩ = some (Value.slice fa ss.length fc) ∧ w'.cell? ⟨w4.heap.size, 1, none⟩ = some (Value.int .i64 (now + 1))) (by kernel_rfl) ⟨p_B1_0, p_B1_1, p_B1_2, p_B1_3, p_B1_4, p_BX_0, p_BX_1⟩ (fun hHeld => ?_)
  clear p_B1_0 p_B1_1 p_B1_2 p_B1_3 p_B1_4 p_BX_0 p_BX_1
  have cdr : Below w10.heap.size w10 w10.drew := below_drew (Below.refl _ _)
  replace B1 := Lib.hid ((cdr.block (w.heap.size + 1) (Array.getElem?_eq_some_iff.1 B1.out).1).trans B1.out)
  replace BX := Lib.hid ((cdr.block w4.heap.size (Array.getElem?_eq_some_iff.1 BX.out).1).trans BX.out)
  replace d := Lib.hid (d.out.trans (cdr.mono d.out.size))
  clear cdr
  have Z_dr := Lib.hid (show w10.heap.size ≤ w10.drew.heap.size from Nat.le_refl _)
  generalize w10.drew = Wd at *
  refine tR (i := 0) (v := ?_) ?_ ?_; rotate_left
  ·
   intro w hSw; (try dsimp only at hSw); go_simp; try (with_reducible rfl)
  try simp only [Act.put, lA, lB, lC]
  refine tR (i := 1) (v := ?_) ?_ ?_; rotate_left
  ·
   intro w hSw; (try dsimp only at hSw); go_simp; try (with_reducible rfl)
  try simp only [Act.put, lA, lB, lC]
  refine tR (i := 2) (v := ?_) ?_ ?_; rotate_left
  ·
   intro w hSw; (try dsimp only at hSw); go_simp; try (with_reducible rfl)
  try simp only [Act.put, lA, lB, lC]
  refine tR (i := 4) (v := ?_) ?_ ?_; rotate_left
  ·
   intro w hSw; (try dsimp only at hSw); go_simp; try (with_reducible rfl)
  try simp only [Act.put, lA, lB, lC]
  refine tR (i := 5) (v := ?_) ?_ ?_; rotate_left
  ·
   intro w hSw; (try dsimp only at hSw); go_simp; try (with_reducible rfl)
  try simp only [Act.put, lA, lB, lC]
  refine tR (i := 6) (v := ?_) ?_ ?_; rotate_left
  ·
   intro w hSw; (try dsimp only at hSw); go_simp; try (with_reducible rfl)
  try simp only [Act.put, lA, lB, lC]
  refine tR (i := 8) (v := ?_) ?_ ?_; rotate_left
  ·
   intro w hSw; (try dsimp only at hSw); go_simp; try (with_reducible rfl)
  try simp only [Act.put, lA, lB, lC]
  refine tR (i := 9) (v := ?_) ?_ ?_; rotate_left
  ·
   intro w hSw; (try dsimp only at hSw); go_simp; try (with_reducible rfl)
  try simp only [Act.put, lA, lB, lC]
  refine wpAnyH_ready (rs := [3, 11]) (by kernel_rfl) (by simp) ?_
  refine (AllReadyH.cons (o := _) (by simp only [hA, hB, hC]; rfl) (fun K hK => ?_) (AllReadyH.cons (o := _) (by simp only [hA, hB, hC]; rfl) (fun K hK => ?_) AllReadyH.nil))
  ·
   go_simp
   have hal : Below Wd.heap.size Wd (Wd.alloc (.cells #[] 3)) := (Below.refl _ _).alloc (Nat.le_refl _) _
   have Y_i := Lib.hid (show Wd.heap.size < (Wd.alloc (.cells #[] 3)).heap.size by simp [World.size_alloc])
   replace B1 := Lib.hid ((hal.block (w.heap.size + 1) (Array.getElem?_eq_some_iff.1 B1.out).1).trans B1.out)
   replace BX := Lib.hid ((hal.block w4.heap.size (Array.getElem?_eq_some_iff.1 BX.out).1).trans BX.out)
   replace d := Lib.hid (d.out.trans (hal.mono d.out.size))
   have PI := Lib.hid (slO_empty (T := tInt) Wd 3 (fun b => b = Wd.heap.size) rfl)
   have QI := Lib.hid (fun b (h : b = Wd.heap.size) => h)
   clear hal
   generalize (Wd.alloc (.cells #[] 3)) = V1 at *
   have p_B1_0 := (cell_of_row V1 _ 0 _ _ _ B1.out).trans (show _ = some (Value.int .i64 2) from rfl)
   have p_B1_1 := (cell_of_row V1 _ 1 _ _ _ B1.out).trans (show _ = some (Value.int .i64 id) from rfl)
   have p_B1_2 := (cell_of_row V1 _ 2 _ _ _ B1.out).trans (show _ = some (Value.slice va xs.length vc) from rfl)
   have p_B1_3 := (cell_of_row V1 _ 3 _ _ _ B1.out).trans (show _ = some (Value.int .i64 f) from rfl)
   have p_B1_4 := (cell_of_row V1 _ 4 _ _ _ B1.out).trans (show _ = some (Value.int .i64 x) from rfl)
   have p_BX_0 := (cell_of_row V1 _ 0 _ _ _ BX.out).trans (show _ = some (Value.slice fa ss.length fc) from rfl)
   have p_BX_1 := (cell_of_row V1 _ 1 _ _ _ BX.out).trans (show _ = some (Value.int .i64 (now + 1)) from rfl)
   refine hK.out _ _ ⟨p_B1_0, p_B1_1, p_B1_2, p_B1_3, p_B1_4, p_BX_0, p_BX_1⟩ (fun hHeld => ?_)
   clear p_B1_0 p_B1_1 p_B1_2 p_B1_3 p_B1_4 p_BX_0 p_BX_1
   clear hK K
   try simp only [Act.put, lA, lB, lC]
   refine wpAnyH_ready (rs := [7, 11]) (by kernel_rfl) (by simp) ?_
   refine (AllReadyH.cons (o := _) (by simp only [hA, hB, hC]; rfl) (fun K hK => ?_) (AllReadyH.cons (o := _) (by simp only [hA, hB, hC]; rfl) (fun K hK => ?_) AllReadyH.nil))
   ·
    refine step_append_flat tInt_law flat_int info_T_int Try.underlying22 rfl rfl (.tmp 60) (.tmp 63) rfl (fun b => b = Wd.heap.size) (fun b => (fun b => b = Wd.heap.size) b ∨ b = V1.heap.size) _ _ [] xs rfl rfl PI.out (slR_below tInt_law G.out d.out) (fun b h => Or.inl h) (Or.inr rfl) (by have := HXN.out; simp; omega) ?_
    intro u V2 oB tB
    rw [List.nil_append] at oB
    obtain ⟨ua, uc, rfl⟩ := slO_len oB
    have y0 := YW.out
    have y1 := Z_w4.out
    have y2 := Y_X.out
    have y3 := Z_w6.out
    have y4 := Z_w7.out
    have y5 := Z_w8.out
    have y6 := Z_w9.out
    have y7 := Z_w10.out
    have y8 := Z_dr.out
    have y9 := Y_i.out
    have yd : w10.heap.size ≤ V1.heap.size := d.out.size
    replace B1 := Lib.hid ((tB.block (w.heap.size + 1) (Array.getElem?_eq_some_iff.1 B1.out).1 (fun h => by have r2 := QI.out _ h; omega)).trans B1.out)
    replace BX := Lib.hid ((tB.block w4.heap.size (Array.getElem?_eq_some_iff.1 BX.out).1 (fun h => by have r2 := QI.out _ h; omega)).trans BX.out)
    replace d := Lib.hid (below_turn d.out tB (fun b h => by have r2 := QI.out _ h; omega) (by omega))
    have Z_V2 := Lib.hid (show V1.heap.size ≤ V2.heap.size from tB.size)
    clear yd y0 y1 y2 y3 y4 y5 y6 y7 y8 y9
    replace PI := Lib.hid (slO_lt tInt_law oB)
    replace QI := Lib.hid (fun b (h : ((fun b => b = Wd.heap.size) b ∨ b = V1.heap.size) ∧ b < V2.heap.size) => (show (b = Wd.heap.size ∨ b = V1.heap.size) ∧ b < V2.heap.size from h))
    clear oB tB
    have p_B1_0 := (cell_of_row V2 _ 0 _ _ _ B1.out).trans (show _ = some (Value.int .i64 2) from rfl)
    have p_B1_1 := (cell_of_row V2 _ 1 _ _ _ B1.out).trans (show _ = some (Value.int .i64 id) from rfl)
    have p_B1_2 := (cell_of_row V2 _ 2 _ _ _ B1.out).trans (show _ = some (Value.slice va xs.length vc) from rfl)
    have p_B1_3 := (cell_of_row V2 _ 3 _ _ _ B1.out).trans (show _ = some (Value.int .i64 f) from rfl)
    have p_B1_4 := (cell_of_row V2 _ 4 _ _ _ B1.out).trans (show _ = some (Value.int .i64 x) from rfl)
    have p_BX_0 := (cell_of_row V2 _ 0 _ _ _ BX.out).trans (show _ = some (Value.slice fa ss.length fc) from rfl)
    have p_BX_1 := (cell_of_row V2 _ 1 _ _ _ BX.out).trans (show _ = some (Value.int .i64 (now + 1)) from rfl)
    refine hK.out _ _ ⟨p_B1_0, p_B1_1, p_B1_2, p_B1_3, p_B1_4, p_BX_0, p_BX_1⟩ (fun hHeld => ?_)
    clear p_B1_0 p_B1_1 p_B1_2 p_B1_3 p_B1_4 p_BX_0 p_BX_1
    clear hK K
    try simp only [Act.put, lA, lB, lC]
    refine tR (i := 10) (v := ?_) ?_ ?_; rotate_left
    ·
     intro w hSw; (try dsimp only at hSw); go_simp; try (with_reducible rfl)
    try simp only [Act.put, lA, lB, lC]
    refine wpAnyH_ready (rs := [11]) (by kernel_rfl) (by simp) ?_
    refine (AllReadyH.cons (o := _) (by simp only [hA, hB, hC]; rfl) (fun K hK => ?_) AllReadyH.nil)
    go_simp
    have hal : Below V2.heap.size V2 (V2.alloc (.cells #[.int .i64 0, .slice none 0 0, .int .i64 0, .int .i64 0] 88)) := (Below.refl _ _).alloc (Nat.le_refl _) _
    have BV := Lib.hid (heap_alloc_new V2 (.cells #[.int .i64 0, .slice none 0 0, .int .i64 0, .int .i64 0] 88))
    have Y_v := Lib.hid (show V2.heap.size < (V2.alloc (.cells #[.int .i64 0, .slice none 0 0, .int .i64 0, .int .i64 0] 88)).heap.size by simp [World.size_alloc])
    replace B1 := Lib.hid ((hal.block (w.heap.size + 1) (Array.getElem?_eq_some_iff.1 B1.out).1).trans B1.out)
    replace BX := Lib.hid ((hal.block w4.heap.size (Array.getElem?_eq_some_iff.1 BX.out).1).trans BX.out)
    replace PI := Lib.hid (slO_fresh tInt_law PI.out hal)
    replace d := Lib.hid (d.out.trans (hal.mono d.out.size))
    clear hal
    generalize (V2.alloc (.cells #[.int .i64 0, .slice none 0 0, .int .i64 0, .int .i64 0] 88)) = V3 at *
    have p_B1_0 := (cell_of_row V3 _ 0 _ _ _ B1.out).trans (show _ = some (Value.int .i64 2) from rfl)
    have p_B1_1 := (cell_of_row V3 _ 1 _ _ _ B1.out).trans (show _ = some (Value.int .i64 id) from rfl)
    have p_B1_2 := (cell_of_row V3 _ 2 _ _ _ B1.out).trans (show _ = some (Value.slice va xs.length vc) from rfl)
    have p_B1_3 := (cell_of_row V3 _ 3 _ _ _ B1.out).trans (show _ = some (Value.int .i64 f) from rfl)
    have p_B1_4 := (cell_of_row V3 _ 4 _ _ _ B1.out).trans (show _ = some (Value.int .i64 x) from rfl)
    have p_BX_0 := (cell_of_row V3 _ 0 _ _ _ BX.out).trans (show _ = some (Value.slice fa ss.length fc) from rfl)
    have p_BX_1 := (cell_of_row V3 _ 1 _ _ _ BX.out).trans (show _ = some (Value.int .i64 (now + 1)) from rfl)
    refine hK.out _ _ ⟨p_B1_0, p_B1_1, p_B1_2, p_B1_3, p_B1_4, p_BX_0, p_BX_1⟩ (fun hHeld => ?_)
    clear p_B1_0 p_B1_1 p_B1_2 p_B1_3 p_B1_4 p_BX_0 p_BX_1
    clear hK K
    try simp only [Act.put, lA, lB, lC]
    refine wpAnyH_ready (rs := [12]) (by kernel_rfl) (by simp) ?_
    refine (AllReadyH.cons (o := _) (by simp only [hA, hB, hC]; rfl) (fun K hK => ?_) AllReadyH.nil)
    have p_BV_0 := (cell_of_row V3 _ 0 _ _ _ BV.out).trans (show _ = some (Value.int .i64 0) from rfl)
    have p_BV_1 := (cell_of_row V3 _ 1 _ _ _ BV.out).trans (show _ = some (Value.slice none 0 0) from rfl)
    have p_BV_2 := (cell_of_row V3 _ 2 _ _ _ BV.out).trans (show _ = some (Value.int .i64 0) from rfl)
    have p_BV_3 := (cell_of_row V3 _ 3 _ _ _ BV.out).trans (show _ = some (Value.int .i64 0) from rfl)
    have f_BV_0 := frozen_of_row V3 _ 0 _ _ BV.out
    have f_BV_1 := frozen_of_row V3 _ 1 _ _ BV.out
    have f_BV_2 := frozen_of_row V3 _ 2 _ _ BV.out
    have f_BV_3 := frozen_of_row V3 _ 3 _ _ BV.out
    go_simp
    clear p_BV_0 p_BV_1 p_BV_2 p_BV_3 f_BV_0 f_BV_1 f_BV_2 f_BV_3
    have tt : Turn (fun q => q = V2.heap.size) V3 ((((V3.setCell ⟨V2.heap.size, 0, none⟩ (.int .i64 id)).setCell ⟨V2.heap.size, 1, none⟩ (.slice ua xs.length uc)).setCell ⟨V2.heap.size, 2, none⟩ (.int .i64 (now + 1))).setCell ⟨V2.heap.size, 3, none⟩ (.int .i64 (-1))) := (((((Turn.refl (fun q => q = V2.heap.size) V3).trans (turn_set (G := fun q => q = V2.heap.size) (g := V2.heap.size) (j := 0) (u := .int .i64 id) rfl)).trans (turn_set (G := fun q => q = V2.heap.size) (g := V2.heap.size) (j := 1) (u := .slice ua xs.length uc) rfl)).trans (turn_set (G := fun q => q = V2.heap.size) (g := V2.heap.size) (j := 2) (u := .int .i64 (now + 1)) rfl)).trans (turn_set (G := fun q => q = V2.heap.size) (g := V2.heap.size) (j := 3) (u := .int .i64 (-1)) rfl))
    have r := (heap_setCell_same _ (V2.heap.size) 3 _ _ (.int .i64 (-1)) (heap_setCell_same _ (V2.heap.size) 2 _ _ (.int .i64 (now + 1)) (heap_setCell_same _ (V2.heap.size) 1 _ _ (.slice ua xs.length uc) (heap_setCell_same V3 (V2.heap.size) 0 _ _ (.int .i64 id) BV.out))))
    simp at r
    generalize ((((V3.setCell ⟨V2.heap.size, 0, none⟩ (.int .i64 id)).setCell ⟨V2.heap.size, 1, none⟩ (.slice ua xs.length uc)).setCell ⟨V2.heap.size, 2, none⟩ (.int .i64 (now + 1))).setCell ⟨V2.heap.size, 3, none⟩ (.int .i64 (-1))) = V4 at *
    have y0 := YW.out
    have y1 := Z_w4.out
    have y2 := Y_X.out
    have y3 := Z_w6.out
    have y4 := Z_w7.out
    have y5 := Z_w8.out
    have y6 := Z_w9.out
    have y7 := Z_w10.out
    have y8 := Z_dr.out
    have y9 := Y_i.out
    have y10 := Z_V2.out
    have y11 := Y_v.out
    have yd : w10.heap.size ≤ V3.heap.size := d.out.size
    replace B1 := Lib.hid ((tt.block (w.heap.size + 1) (Array.getElem?_eq_some_iff.1 B1.out).1 (fun h => by have r2 : _ = V2.heap.size := h; omega)).trans B1.out)
    replace BX := Lib.hid ((tt.block w4.heap.size (Array.getElem?_eq_some_iff.1 BX.out).1 (fun h => by have r2 : _ = V2.heap.size := h; omega)).trans BX.out)
    replace PI := Lib.hid (slO_turn tInt_law PI.out tt (fun b h1 h2 => by have r1 := QI.out b h1; have r2 : _ = V2.heap.size := h2; omega))
    replace d := Lib.hid (below_turn d.out tt (fun b h => by have r2 : _ = V2.heap.size := h; omega) (by omega))
    have Z_V4 := Lib.hid (show V3.heap.size ≤ V4.heap.size from tt.size)
    clear yd y0 y1 y2 y3 y4 y5 y6 y7 y8 y9 y10 y11
    replace BV : Hid (V4.heap[V2.heap.size]? = some (.cells #[.int .i64 id, .slice ua xs.length uc, .int .i64 (now + 1), .int .i64 (-1)] 88 (0, 0))) := Lib.hid r
    clear r tt
    have p_B1_0 := (cell_of_row V4 _ 0 _ _ _ B1.out).trans (show _ = some (Value.int .i64 2) from rfl)
    have p_B1_1 := (cell_of_row V4 _ 1 _ _ _ B1.out).trans (show _ = some (Value.int .i64 id) from rfl)
    have p_B1_2 := (cell_of_row V4 _ 2 _ _ _ B1.out).trans (show _ = some (Value.slice va xs.length vc) from rfl)
    have p_B1_3 := (cell_of_row V4 _ 3 _ _ _ B1.out).trans (show _ = some (Value.int .i64 f) from rfl)
    have p_B1_4 := (cell_of_row V4 _ 4 _ _ _ B1.out).trans (show _ = some (Value.int .i64 x) from rfl)
    have p_BX_0 := (cell_of_row V4 _ 0 _ _ _ BX.out).trans (show _ = some (Value.slice fa ss.length fc) from rfl)
    have p_BX_1 := (cell_of_row V4 _ 1 _ _ _ BX.out).trans (show _ = some (Value.int .i64 (now + 1)) from rfl)
    refine hK.out _ _ ⟨p_B1_0, p_B1_1, p_B1_2, p_B1_3, p_B1_4, p_BX_0, p_BX_1⟩ (fun hHeld => ?_)
    clear p_B1_0 p_B1_1 p_B1_2 p_B1_3 p_B1_4 p_BX_0 p_BX_1
    clear hK K
    try simp only [Act.put, lA, lB, lC]
    refine wpAnyH_done (by kernel_rfl) ?_ _
    clear hHeld
    go_wp2
    go_meet
    have y0 := YW.out
    have y1 := Z_w4.out
    have y2 := Y_X.out
    have y3 := Z_w6.out
    have y4 := Z_w7.out
    have y5 := Z_w8.out
    have y6 := Z_w9.out
    have y7 := Z_w10.out
    have y8 := Z_dr.out
    have y9 := Y_i.out
    have y10 := Z_V2.out
    have y11 := Y_v.out
    have y12 := Z_V4.out
    case rel => exact ⟨_, _, _, _, rfl, BV.out, by omega, (Array.getElem?_eq_some_iff.1 BV.out).1, PI.out, fun q hq => (by have r := QI.out q hq; omega), d.out⟩
   ·
    go_simp
    have hal : Below V1.heap.size V1 (V1.alloc (.cells #[.int .i64 0, .slice none 0 0, .int .i64 0, .int .i64 0] 88)) := (Below.refl _ _).alloc (Nat.le_refl _) _
    have BV := Lib.hid (heap_alloc_new V1 (.cells #[.int .i64 0, .slice none 0 0, .int .i64 0, .int .i64 0] 88))
    have Y_v := Lib.hid (show V1.heap.size < (V1.alloc (.cells #[.int .i64 0, .slice none 0 0, .int .i64 0, .int .i64 0] 88)).heap.size by simp [World.size_alloc])
    replace B1 := Lib.hid ((hal.block (w.heap.size + 1) (Array.getElem?_eq_some_iff.1 B1.out).1).trans B1.out)
    replace BX := Lib.hid ((hal.block w4.heap.size (Array.getElem?_eq_some_iff.1 BX.out).1).trans BX.out)
    replace PI := Lib.hid (slO_fresh tInt_law PI.out hal)
    replace d := Lib.hid (d.out.trans (hal.mono d.out.size))
    clear hal
    generalize (V1.alloc (.cells #[.int .i64 0, .slice none 0 0, .int .i64 0, .int .i64 0] 88)) = V2 at *
    have p_B1_0 := (cell_of_row V2 _ 0 _ _ _ B1.out).trans (show _ = some (Value.int .i64 2) from rfl)
    have p_B1_1 := (cell_of_row V2 _ 1 _ _ _ B1.out).trans (show _ = some (Value.int .i64 id) from rfl)
    have p_B1_2 := (cell_of_row V2 _ 2 _ _ _ B1.out).trans (show _ = some (Value.slice va xs.length vc) from rfl)
    have p_B1_3 := (cell_of_row V2 _ 3 _ _ _ B1.out).trans (show _ = some (Value.int .i64 f) from rfl)
    have p_B1_4 := (cell_of_row V2 _ 4 _ _ _ B1.out).trans (show _ = some (Value.int .i64 x) from rfl)
    have p_BX_0 := (cell_of_row V2 _ 0 _ _ _ BX.out).trans (show _ = some (Value.slice fa ss.length fc) from rfl)
    have p_BX_1 := (cell_of_row V2 _ 1 _ _ _ BX.out).trans (show _ = some (Value.int .i64 (now + 1)) from rfl)
    refine hK.out _ _ ⟨p_B1_0, p_B1_1, p_B1_2, p_B1_3, p_B1_4, p_BX_0, p_BX_1⟩ (fun hHeld => ?_)
    clear p_B1_0 p_B1_1 p_B1_2 p_B1_3 p_B1_4 p_BX_0 p_BX_1
    clear hK K
    try simp only [Act.put, lA, lB, lC]
    refine wpAnyH_ready (rs := [7]) (by kernel_rfl) (by simp) ?_
    refine (AllReadyH.cons (o := _) (by simp only [hA, hB, hC]; rfl) (fun K hK => ?_) AllReadyH.nil)
    refine step_append_flat tInt_law flat_int info_T_int Try.underlying22 rfl rfl (.tmp 60) (.tmp 63) rfl (fun b => b = Wd.heap.size) (fun b => (fun b => b = Wd.heap.size) b ∨ b = V2.heap.size) _ _ [] xs rfl rfl PI.out (slR_below tInt_law G.out d.out) (fun b h => Or.inl h) (Or.inr rfl) (by have := HXN.out; simp; omega) ?_
    intro u V3 oB tB
    rw [List.nil_append] at oB
    obtain ⟨ua, uc, rfl⟩ := slO_len oB
    have y0 := YW.out
    have y1 := Z_w4.out
    have y2 := Y_X.out
    have y3 := Z_w6.out
    have y4 := Z_w7.out
    have y5 := Z_w8.out
    have y6 := Z_w9.out
    have y7 := Z_w10.out
    have y8 := Z_dr.out
    have y9 := Y_i.out
    have y10 := Y_v.out
    have yd : w10.heap.size ≤ V2.heap.size := d.out.size
    replace B1 := Lib.hid ((tB.block (w.heap.size + 1) (Array.getElem?_eq_some_iff.1 B1.out).1 (fun h => by have r2 := QI.out _ h; omega)).trans B1.out)
    replace BX := Lib.hid ((tB.block w4.heap.size (Array.getElem?_eq_some_iff.1 BX.out).1 (fun h => by have r2 := QI.out _ h; omega)).trans BX.out)
    replace BV := Lib.hid ((tB.block V1.heap.size (Array.getElem?_eq_some_iff.1 BV.out).1 (fun h => by have r2 := QI.out _ h; omega)).trans BV.out)
    replace d := Lib.hid (below_turn d.out tB (fun b h => by have r2 := QI.out _ h; omega) (by omega))
    have Z_V3 := Lib.hid (show V2.heap.size ≤ V3.heap.size from tB.size)
    clear yd y0 y1 y2 y3 y4 y5 y6 y7 y8 y9 y10
    replace PI := Lib.hid (slO_lt tInt_law oB)
    replace QI := Lib.hid (fun b (h : ((fun b => b = Wd.heap.size) b ∨ b = V2.heap.size) ∧ b < V3.heap.size) => (show (b = Wd.heap.size ∨ b = V2.heap.size) ∧ b < V3.heap.size from h))
    clear oB tB
    have p_B1_0 := (cell_of_row V3 _ 0 _ _ _ B1.out).trans (show _ = some (Value.int .i64 2) from rfl)
    have p_B1_1 := (cell_of_row V3 _ 1 _ _ _ B1.out).trans (show _ = some (Value.int .i64 id) from rfl)
    have p_B1_2 := (cell_of_row V3 _ 2 _ _ _ B1.out).trans (show _ = some (Value.slice va xs.length vc) from rfl)
    have p_B1_3 := (cell_of_row V3 _ 3 _ _ _ B1.out).trans (show _ = some (Value.int .i64 f) from rfl)
    have p_B1_4 := (cell_of_row V3 _ 4 _ _ _ B1.out).trans (show _ = some (Value.int .i64 x) from rfl)
    have p_BX_0 := (cell_of_row V3 _ 0 _ _ _ BX.out).trans (show _ = some (Value.slice fa ss.length fc) from rfl)
    have p_BX_1 := (cell_of_row V3 _ 1 _ _ _ BX.out).trans (show _ = some (Value.int .i64 (now + 1)) from rfl)
    refine hK.out _ _ ⟨p_B1_0, p_B1_1, p_B1_2, p_B1_3, p_B1_4, p_BX_0, p_BX_1⟩ (fun hHeld => ?_)
    clear p_B1_0 p_B1_1 p_B1_2 p_B1_3 p_B1_4 p_BX_0 p_BX_1
    clear hK K
    try simp only [Act.put, lA, lB, lC]
    refine tR (i := 10) (v := ?_) ?_ ?_; rotate_left
    ·
     intro w hSw; (try dsimp only at hSw); go_simp; try (with_reducible rfl)
    try simp only [Act.put, lA, lB, lC]
    refine wpAnyH_ready (rs := [12]) (by kernel_rfl) (by simp) ?_
    refine (AllReadyH.cons (o := _) (by simp only [hA, hB, hC]; rfl) (fun K hK => ?_) AllReadyH.nil)
    have p_BV_0 := (cell_of_row V3 _ 0 _ _ _ BV.out).trans (show _ = some (Value.int .i64 0) from rfl)
    have p_BV_1 := (cell_of_row V3 _ 1 _ _ _ BV.out).trans (show _ = some (Value.slice none 0 0) from rfl)
    have p_BV_2 := (cell_of_row V3 _ 2 _ _ _ BV.out).trans (show _ = some (Value.int .i64 0) from rfl)
    have p_BV_3 := (cell_of_row V3 _ 3 _ _ _ BV.out).trans (show _ = some (Value.int .i64 0) from rfl)
    have f_BV_0 := frozen_of_row V3 _ 0 _ _ BV.out
    have f_BV_1 := frozen_of_row V3 _ 1 _ _ BV.out
    have f_BV_2 := frozen_of_row V3 _ 2 _ _ BV.out
    have f_BV_3 := frozen_of_row V3 _ 3 _ _ BV.out
    go_simp
    clear p_BV_0 p_BV_1 p_BV_2 p_BV_3 f_BV_0 f_BV_1 f_BV_2 f_BV_3
    have tt : Turn (fun q => q = V1.heap.size) V3 ((((V3.setCell ⟨V1.heap.size, 0, none⟩ (.int .i64 id)).setCell ⟨V1.heap.size, 1, none⟩ (.slice ua xs.length uc)).setCell ⟨V1.heap.size, 2, none⟩ (.int .i64 (now + 1))).setCell ⟨V1.heap.size, 3, none⟩ (.int .i64 (-1))) := (((((Turn.refl (fun q => q = V1.heap.size) V3).trans (turn_set (G := fun q => q = V1.heap.size) (g := V1.heap.size) (j := 0) (u := .int .i64 id) rfl)).trans (turn_set (G := fun q => q = V1.heap.size) (g := V1.heap.size) (j := 1) (u := .slice ua xs.length uc) rfl)).trans (turn_set (G := fun q => q = V1.heap.size) (g := V1.heap.size) (j := 2) (u := .int .i64 (now + 1)) rfl)).trans (turn_set (G := fun q => q = V1.heap.size) (g := V1.heap.size) (j := 3) (u := .int .i64 (-1)) rfl))
    have r := (heap_setCell_same _ (V1.heap.size) 3 _ _ (.int .i64 (-1)) (heap_setCell_same _ (V1.heap.size) 2 _ _ (.int .i64 (now + 1)) (heap_setCell_same _ (V1.heap.size) 1 _ _ (.slice ua xs.length uc) (heap_setCell_same V3 (V1.heap.size) 0 _ _ (.int .i64 id) BV.out))))
    simp at r
    generalize ((((V3.setCell ⟨V1.heap.size, 0, none⟩ (.int .i64 id)).setCell ⟨V1.heap.size, 1, none⟩ (.slice ua xs.length uc)).setCell ⟨V1.heap.size, 2, none⟩ (.int .i64 (now + 1))).setCell ⟨V1.heap.size, 3, none⟩ (.int .i64 (-1))) = V4 at *
    have y0 := YW.out
    have y1 := Z_w4.out
    have y2 := Y_X.out
    have y3 := Z_w6.out
    have y4 := Z_w7.out
    have y5 := Z_w8.out
    have y6 := Z_w9.out
    have y7 := Z_w10.out
    have y8 := Z_dr.out
    have y9 := Y_i.out
    have y10 := Y_v.out
    have y11 := Z_V3.out
    have yd : w10.heap.size ≤ V3.heap.size := d.out.size
    replace B1 := Lib.hid ((tt.block (w.heap.size + 1) (Array.getElem?_eq_some_iff.1 B1.out).1 (fun h => by have r2 : _ = V1.heap.size := h; omega)).trans B1.out)
    replace BX := Lib.hid ((tt.block w4.heap.size (Array.getElem?_eq_some_iff.1 BX.out).1 (fun h => by have r2 : _ = V1.heap.size := h; omega)).trans BX.out)
    replace PI := Lib.hid (slO_turn tInt_law PI.out tt (fun b h1 h2 => by have r1 := QI.out b h1; have r2 : _ = V1.heap.size := h2; omega))
    replace d := Lib.hid (below_turn d.out tt (fun b h => by have r2 : _ = V1.heap.size := h; omega) (by omega))
    have Z_V4 := Lib.hid (show V3.heap.size ≤ V4.heap.size from tt.size)
    clear yd y0 y1 y2 y3 y4 y5 y6 y7 y8 y9 y10 y11
    replace BV : Hid (V4.heap[V1.heap.size]? = some (.cells #[.int .i64 id, .slice ua xs.length uc, .int .i64 (now + 1), .int .i64 (-1)] 88 (0, 0))) := Lib.hid r
    clear r tt
    have p_B1_0 := (cell_of_row V4 _ 0 _ _ _ B1.out).trans (show _ = some (Value.int .i64 2) from rfl)
    have p_B1_1 := (cell_of_row V4 _ 1 _ _ _ B1.out).trans (show _ = some (Value.int .i64 id) from rfl)
    have p_B1_2 := (cell_of_row V4 _ 2 _ _ _ B1.out).trans (show _ = some (Value.slice va xs.length vc) from rfl)
    have p_B1_3 := (cell_of_row V4 _ 3 _ _ _ B1.out).trans (show _ = some (Value.int .i64 f) from rfl)
    have p_B1_4 := (cell_of_row V4 _ 4 _ _ _ B1.out).trans (show _ = some (Value.int .i64 x) from rfl)
    have p_BX_0 := (cell_of_row V4 _ 0 _ _ _ BX.out).trans (show _ = some (Value.slice fa ss.length fc) from rfl)
    have p_BX_1 := (cell_of_row V4 _ 1 _ _ _ BX.out).trans (show _ = some (Value.int .i64 (now + 1)) from rfl)
    refine hK.out _ _ ⟨p_B1_0, p_B1_1, p_B1_2, p_B1_3, p_B1_4, p_BX_0, p_BX_1⟩ (fun hHeld => ?_)
    clear p_B1_0 p_B1_1 p_B1_2 p_B1_3 p_B1_4 p_BX_0 p_BX_1
    clear hK K
    try simp only [Act.put, lA, lB, lC]
    refine wpAnyH_done (by kernel_rfl) ?_ _
    clear hHeld
    go_wp2
    go_meet
    have y0 := YW.out
    have y1 := Z_w4.out
    have y2 := Y_X.out
    have y3 := Z_w6.out
    have y4 := Z_w7.out
    have y5 := Z_w8.out
    have y6 := Z_w9.out
    have y7 := Z_w10.out
    have y8 := Z_dr.out
    have y9 := Y_i.out
    have y10 := Y_v.out
    have y11 := Z_V3.out
    have y12 := Z_V4.out
    case rel => exact ⟨_, _, _, _, rfl, BV.out, by omega, (Array.getElem?_eq_some_iff.1 BV.out).1, PI.out, fun q hq => (by have r := QI.out q hq; omega), d.out⟩
  ·
   go_simp
   have hal : Below Wd.heap.size Wd (Wd.alloc (.cells #[.int .i64 0, .slice none 0 0, .int .i64 0, .int .i64 0] 88)) := (Below.refl _ _).alloc (Nat.le_refl _) _
   have BV := Lib.hid (heap_alloc_new Wd (.cells #[.int .i64 0, .slice none 0 0, .int .i64 0, .int .i64 0] 88))
   have Y_v := Lib.hid (show Wd.heap.size < (Wd.alloc (.cells #[.int .i64 0, .slice none 0 0, .int .i64 0, .int .i64 0] 88)).heap.size by simp [World.size_alloc])
   replace B1 := Lib.hid ((hal.block (w.heap.size + 1) (Array.getElem?_eq_some_iff.1 B1.out).1).trans B1.out)
   replace BX := Lib.hid ((hal.block w4.heap.size (Array.getElem?_eq_some_iff.1 BX.out).1).trans BX.out)
   replace d := Lib.hid (d.out.trans (hal.mono d.out.size))
   clear hal
   generalize (Wd.alloc (.cells #[.int .i64 0, .slice none 0 0, .int .i64 0, .int .i64 0] 88)) = V1 at *
   have p_B1_0 := (cell_of_row V1 _ 0 _ _ _ B1.out).trans (show _ = some (Value.int .i64 2) from rfl)
   have p_B1_1 := (cell_of_row V1 _ 1 _ _ _ B1.out).trans (show _ = some (Value.int .i64 id) from rfl)
   have p_B1_2 := (cell_of_row V1 _ 2 _ _ _ B1.out).trans (show _ = some (Value.slice va xs.length vc) from rfl)
   have p_B1_3 := (cell_of_row V1 _ 3 _ _ _ B1.out).trans (show _ = some (Value.int .i64 f) from rfl)
   have p_B1_4 := (cell_of_row V1 _ 4 _ _ _ B1.out).trans (show _ = some (Value.int .i64 x) from rfl)
   have p_BX_0 := (cell_of_row V1 _ 0 _ _ _ BX.out).trans (show _ = some (Value.slice fa ss.length fc) from rfl)
   have p_BX_1 := (cell_of_row V1 _ 1 _ _ _ BX.out).trans (show _ = some (Value.int .i64 (now + 1)) from rfl)
   refine hK.out _ _ ⟨p_B1_0, p_B1_1, p_B1_2, p_B1_3, p_B1_4, p_BX_0, p_BX_1⟩ (fun hHeld => ?_)
   clear p_B1_0 p_B1_1 p_B1_2 p_B1_3 p_B1_4 p_BX_0 p_BX_1
   clear hK K
   try simp only [Act.put, lA, lB, lC]
   refine wpAnyH_ready (rs := [3]) (by kernel_rfl) (by simp) ?_
   refine (AllReadyH.cons (o := _) (by simp only [hA, hB, hC]; rfl) (fun K hK => ?_) AllReadyH.nil)
   go_simp
   have hal : Below V1.heap.size V1 (V1.alloc (.cells #[] 3)) := (Below.refl _ _).alloc (Nat.le_refl _) _
   have Y_i := Lib.hid (show V1.heap.size < (V1.alloc (.cells #[] 3)).heap.size by simp [World.size_alloc])
   replace B1 := Lib.hid ((hal.block (w.heap.size + 1) (Array.getElem?_eq_some_iff.1 B1.out).1).trans B1.out)
   replace BX := Lib.hid ((hal.block w4.heap.size (Array.getElem?_eq_some_iff.1 BX.out).1).trans BX.out)
   replace BV := Lib.hid ((hal.block Wd.heap.size (Array.getElem?_eq_some_iff.1 BV.out).1).trans BV.out)
   replace d := Lib.hid (d.out.trans (hal.mono d.out.size))
   have PI := Lib.hid (slO_empty (T := tInt) V1 3 (fun b => b = V1.heap.size) rfl)
   have QI := Lib.hid (fun b (h : b = V1.heap.size) => h)
   clear hal
   generalize (V1.alloc (.cells #[] 3)) = V2 at *
   have p_B1_0 := (cell_of_row V2 _ 0 _ _ _ B1.out).trans (show _ = some (Value.int .i64 2) from rfl)
   have p_B1_1 := (cell_of_row V2 _ 1 _ _ _ B1.out).trans (show _ = some (Value.int .i64 id) from rfl)
   have p_B1_2 := (cell_of_row V2 _ 2 _ _ _ B1.out).trans (show _ = some (Value.slice va xs.length vc) from rfl)
   have p_B1_3 := (cell_of_row V2 _ 3 _ _ _ B1.out).trans (show _ = some (Value.int .i64 f) from rfl)
   have p_B1_4 := (cell_of_row V2 _ 4 _ _ _ B1.out).trans (show _ = some (Value.int .i64 x) from rfl)
   have p_BX_0 := (cell_of_row V2 _ 0 _ _ _ BX.out).trans (show _ = some (Value.slice fa ss.length fc) from rfl)
   have p_BX_1 := (cell_of_row V2 _ 1 _ _ _ BX.out).trans (show _ = some (Value.int .i64 (now + 1)) from rfl)
   refine hK.out _ _ ⟨p_B1_0, p_B1_1, p_B1_2, p_B1_3, p_B1_4, p_BX_0, p_BX_1⟩ (fun hHeld => ?_)
   clear p_B1_0 p_B1_1 p_B1_2 p_B1_3 p_B1_4 p_BX_0 p_BX_1
   clear hK K
   try simp only [Act.put, lA, lB, lC]
   refine wpAnyH_ready (rs := [7]) (by kernel_rfl) (by simp) ?_
   refine (AllReadyH.cons (o := _) (by simp only [hA, hB, hC]; rfl) (fun K hK => ?_) AllReadyH.nil)
   refine step_append_flat tInt_law flat_int info_T_int Try.underlying22 rfl rfl (.tmp 60) (.tmp 63) rfl (fun b => b = V1.heap.size) (fun b => (fun b => b = V1.heap.size) b ∨ b = V2.heap.size) _ _ [] xs rfl rfl PI.out (slR_below tInt_law G.out d.out) (fun b h => Or.inl h) (Or.inr rfl) (by have := HXN.out; simp; omega) ?_
   intro u V3 oB tB
   rw [List.nil_append] at oB
   obtain ⟨ua, uc, rfl⟩ := slO_len oB
   have y0 := YW.out
   have y1 := Z_w4.out
   have y2 := Y_X.out
   have y3 := Z_w6.out
   have y4 := Z_w7.out
   have y5 := Z_w8.out
   have y6 := Z_w9.out
   have y7 := Z_w10.out
   have y8 := Z_dr.out
   have y9 := Y_v.out
   have y10 := Y_i.out
   have yd : w10.heap.size ≤ V2.heap.size := d.out.size
   replace B1 := Lib.hid ((tB.block (w.heap.size + 1) (Array.getElem?_eq_some_iff.1 B1.out).1 (fun h => by have r2 := QI.out _ h; omega)).trans B1.out)
   replace BX := Lib.hid ((tB.block w4.heap.size (Array.getElem?_eq_some_iff.1 BX.out).1 (fun h => by have r2 := QI.out _ h; omega)).trans BX.out)
   replace BV := Lib.hid ((tB.block Wd.heap.size (Array.getElem?_eq_some_iff.1 BV.out).1 (fun h => by have r2 := QI.out _ h; omega)).trans BV.out)
   replace d := Lib.hid (below_turn d.out tB (fun b h => by have r2 := QI.out _ h; omega) (by omega))
   have Z_V3 := Lib.hid (show V2.heap.size ≤ V3.heap.size from tB.size)
   clear yd y0 y1 y2 y3 y4 y5 y6 y7 y8 y9 y10
   replace PI := Lib.hid (slO_lt tInt_law oB)
   replace QI := Lib.hid (fun b (h : ((fun b => b = V1.heap.size) b ∨ b = V2.heap.size) ∧ b < V3.heap.size) => (show (b = V1.heap.size ∨ b = V2.heap.size) ∧ b < V3.heap.size from h))
   clear oB tB
   have p_B1_0 := (cell_of_row V3 _ 0 _ _ _ B1.out).trans (show _ = some (Value.int .i64 2) from rfl)
   have p_B1_1 := (cell_of_row V3 _ 1 _ _ _ B1.out).trans (show _ = some (Value.int .i64 id) from rfl)
   have p_B1_2 := (cell_of_row V3 _ 2 _ _ _ B1.out).trans (show _ = some (Value.slice va xs.length vc) from rfl)
   have p_B1_3 := (cell_of_row V3 _ 3 _ _ _ B1.out).trans (show _ = some (Value.int .i64 f) from rfl)
   have p_B1_4 := (cell_of_row V3 _ 4 _ _ _ B1.out).trans (show _ = some (Value.int .i64 x) from rfl)
   have p_BX_0 := (cell_of_row V3 _ 0 _ _ _ BX.out).trans (show _ = some (Value.slice fa ss.length fc) from rfl)
   have p_BX_1 := (cell_of_row V3 _ 1 _ _ _ BX.out).trans (show _ = some (Value.int .i64 (now + 1)) from rfl)
   refine hK.out _ _ ⟨p_B1_0, p_B1_1, p_B1_2, p_B1_3, p_B1_4, p_BX_0, p_BX_1⟩ (fun hHeld => ?_)
   clear p_B1_0 p_B1_1 p_B1_2 p_B1_3 p_B1_4 p_BX_0 p_BX_1
   clear hK K
   try simp only [Act.put, lA, lB, lC]
   refine tR (i := 10) (v := ?_) ?_ ?_; rotate_left
   ·
    intro w hSw; (try dsimp only at hSw); go_simp; try (with_reducible rfl)
   try simp only [Act.put, lA, lB, lC]
   refine wpAnyH_ready (rs := [12]) (by kernel_rfl) (by simp) ?_
   refine (AllReadyH.cons (o := _) (by simp only [hA, hB, hC]; rfl) (fun K hK => ?_) AllReadyH.nil)
   have p_BV_0 := (cell_of_row V3 _ 0 _ _ _ BV.out).trans (show _ = some (Value.int .i64 0) from rfl)
   have p_BV_1 := (cell_of_row V3 _ 1 _ _ _ BV.out).trans (show _ = some (Value.slice none 0 0) from rfl)
   have p_BV_2 := (cell_of_row V3 _ 2 _ _ _ BV.out).trans (show _ = some (Value.int .i64 0) from rfl)
   have p_BV_3 := (cell_of_row V3 _ 3 _ _ _ BV.out).trans (show _ = some (Value.int .i64 0) from rfl)
   have f_BV_0 := frozen_of_row V3 _ 0 _ _ BV.out
   have f_BV_1 := frozen_of_row V3 _ 1 _ _ BV.out
   have f_BV_2 := frozen_of_row V3 _ 2 _ _ BV.out
   have f_BV_3 := frozen_of_row V3 _ 3 _ _ BV.out
   go_simp
   clear p_BV_0 p_BV_1 p_BV_2 p_BV_3 f_BV_0 f_BV_1 f_BV_2 f_BV_3
   have tt : Turn (fun q => q = Wd.heap.size) V3 ((((V3.setCell ⟨Wd.heap.size, 0, none⟩ (.int .i64 id)).setCell ⟨Wd.heap.size, 1, none⟩ (.slice ua xs.length uc)).setCell ⟨Wd.heap.size, 2, none⟩ (.int .i64 (now + 1))).setCell ⟨Wd.heap.size, 3, none⟩ (.int .i64 (-1))) := (((((Turn.refl (fun q => q = Wd.heap.size) V3).trans (turn_set (G := fun q => q = Wd.heap.size) (g := Wd.heap.size) (j := 0) (u := .int .i64 id) rfl)).trans (turn_set (G := fun q => q = Wd.heap.size) (g := Wd.heap.size) (j := 1) (u := .slice ua xs.length uc) rfl)).trans (turn_set (G := fun q => q = Wd.heap.size) (g := Wd.heap.size) (j := 2) (u := .int .i64 (now + 1)) rfl)).trans (turn_set (G := fun q => q = Wd.heap.size) (g := Wd.heap.size) (j := 3) (u := .int .i64 (-1)) rfl))
   have r := (heap_setCell_same _ (Wd.heap.size) 3 _ _ (.int .i64 (-1)) (heap_setCell_same _ (Wd.heap.size) 2 _ _ (.int .i64 (now + 1)) (heap_setCell_same _ (Wd.heap.size) 1 _ _ (.slice ua xs.length uc) (heap_setCell_same V3 (Wd.heap.size) 0 _ _ (.int .i64 id) BV.out))))
   simp at r
   generalize ((((V3.setCell ⟨Wd.heap.size, 0, none⟩ (.int .i64 id)).setCell ⟨Wd.heap.size, 1, none⟩ (.slice ua xs.length uc)).setCell ⟨Wd.heap.size, 2, none⟩ (.int .i64 (now + 1))).setCell ⟨Wd.heap.size, 3, none⟩ (.int .i64 (-1))) = V4 at *
   have y0 := YW.out
   have y1 := Z_w4.out
   have y2 := Y_X.out
   have y3 := Z_w6.out
   have y4 := Z_w7.out
   have y5 := Z_w8.out
   have y6 := Z_w9.out
   have y7 := Z_w10.out
   have y8 := Z_dr.out
   have y9 := Y_v.out
   have y10 := Y_i.out
   have y11 := Z_V3.out
   have yd : w10.heap.size ≤ V3.heap.size := d.out.size
   replace B1 := Lib.hid ((tt.block (w.heap.size + 1) (Array.getElem?_eq_some_iff.1 B1.out).1 (fun h => by have r2 : _ = Wd.heap.size := h; omega)).trans B1.out)
   replace BX := Lib.hid ((tt.block w4.heap.size (Array.getElem?_eq_some_iff.1 BX.out).1 (fun h => by have r2 : _ = Wd.heap.size := h; omega)).trans BX.out)
   replace PI := Lib.hid (slO_turn tInt_law PI.out tt (fun b h1 h2 => by have r1 := QI.out b h1; have r2 : _ = Wd.heap.size := h2; omega))
   replace d := Lib.hid (below_turn d.out tt (fun b h => by have r2 : _ = Wd.heap.size := h; omega) (by omega))
   have Z_V4 := Lib.hid (show V3.heap.size ≤ V4.heap.size from tt.size)
   clear yd y0 y1 y2 y3 y4 y5 y6 y7 y8 y9 y10 y11
   replace BV : Hid (V4.heap[Wd.heap.size]? = some (.cells #[.int .i64 id, .slice ua xs.length uc, .int .i64 (now + 1), .int .i64 (-1)] 88 (0, 0))) := Lib.hid r
   clear r tt
   have p_B1_0 := (cell_of_row V4 _ 0 _ _ _ B1.out).trans (show _ = some (Value.int .i64 2) from rfl)
   have p_B1_1 := (cell_of_row V4 _ 1 _ _ _ B1.out).trans (show _ = some (Value.int .i64 id) from rfl)
   have p_B1_2 := (cell_of_row V4 _ 2 _ _ _ B1.out).trans (show _ = some (Value.slice va xs.length vc) from rfl)
   have p_B1_3 := (cell_of_row V4 _ 3 _ _ _ B1.out).trans (show _ = some (Value.int .i64 f) from rfl)
   have p_B1_4 := (cell_of_row V4 _ 4 _ _ _ B1.out).trans (show _ = some (Value.int .i64 x) from rfl)
   have p_BX_0 := (cell_of_row V4 _ 0 _ _ _ BX.out).trans (show _ = some (Value.slice fa ss.length fc) from rfl)
   have p_BX_1 := (cell_of_row V4 _ 1 _ _ _ BX.out).trans (show _ = some (Value.int .i64 (now + 1)) from rfl)
   refine hK.out _ _ ⟨p_B1_0, p_B1_1, p_B1_2, p_B1_3, p_B1_4, p_BX_0, p_BX_1⟩ (fun hHeld => ?_)
   clear p_B1_0 p_B1_1 p_B1_2 p_B1_3 p_B1_4 p_BX_0 p_BX_1
   clear hK K
   try simp only [Act.put, lA, lB, lC]
   refine wpAnyH_done (by kernel_rfl) ?_ _
   clear hHeld
   go_wp2
   go_meet
   have y0 := YW.out
   have y1 := Z_w4.out
   have y2 := Y_X.out
   have y3 := Z_w6.out
   have y4 := Z_w7.out
   have y5 := Z_w8.out
   have y6 := Z_w9.out
   have y7 := Z_w10.out
   have y8 := Z_dr.out
   have y9 := Y_v.out
   have y10 := Y_i.out
   have y11 := Z_V3.out
   have y12 := Z_V4.out
   case rel => exact ⟨_, _, _, _, rfl, BV.out, by omega, (Array.getElem?_eq_some_iff.1 BV.out).1, PI.out, fun q hq => (by have r := QI.out q hq; omega), d.out⟩
 case rest =>
 obtain ⟨V, ua, uc, KV, rfl, bV, yV, yV2, oV, qV, dV⟩ := hcut
 generalize wc = w11 at *
 replace B0 := Lib.hid ((dV.block w.heap.size (Array.getElem?_eq_some_iff.1 B0.out).1).trans B0.out)
 replace B1 := Lib.hid ((dV.block (w.heap.size + 1) (Array.getElem?_eq_some_iff.1 B1.out).1).trans B1.out)
 replace BZ := Lib.hid ((dV.block (w.heap.size + 2) (Array.getElem?_eq_some_iff.1 BZ.out).1).trans BZ.out)
 replace BX := Lib.hid ((dV.block w4.heap.size (Array.getElem?_eq_some_iff.1 BX.out).1).trans BX.out)
 replace PF := Lib.hid (slO_fresh tVersionS_law PF.out dV)
 replace d := Lib.hid (d.out.trans (dV.mono d.out.size))
 have Z_w11 := Lib.hid (show w10.heap.size ≤ w11.heap.size from dV.size)
 have BV := Lib.hid bV
 have YV := Lib.hid yV
 have YV2 := Lib.hid yV2
 have PX := Lib.hid oV
 have QX : Hid (∀ q, KV q → w10.heap.size ≤ q ∧ q < w11.heap.size ∧ q ≠ V) := Lib.hid qV
 clear bV yV yV2 oV qV dV
 obtain ⟨g, gc, q0, qc, xa, xn, hv, hg, cg, hF0, hq0, hn0, c1, hx, hy0, hz0, hput0⟩ := segs_die PF.out HI.out HK.out
 simp only [Value.slice.injEq] at hv
 obtain ⟨rfl, _, rfl⟩ := hv
 rw [← HYS.out] at c1 hx
 rw [← HLI.out] at cg
 have HX := Lib.hid hx
 have HG := Lib.hid hg
 clear hx hF0 hn0 hy0 hz0 hput0
 have hal : Below w11.heap.size w11 (w11.alloc (.cells #[] 3)) := (Below.refl _ _).alloc (Nat.le_refl _) _
 have HAL := Lib.hid hal
 have bxa := (hal.block w4.heap.size (Array.getElem?_eq_some_iff.1 BX.out).1).trans BX.out
 have px0 := (cell_of_row (w11.alloc (.cells #[] 3)) _ 0 _ _ _ bxa).trans (show _ = some (Value.slice (some ⟨g, 0, none⟩) ss.length fc) from rfl)
 have cga := (hal.cell (p := ⟨g, i, none⟩) hg).trans cg
 have c1a := (hal.cell (p := ⟨q0, kx * 4 + 1, none⟩) hq0).trans c1
 clear bxa cg c1 hg hq0
 have E0 := Lib.hid (slO_empty (T := tInt) w11 3 (fun q => w11.heap.size ≤ q) (Nat.le_refl _))
 clear hal
 go_wp2_with (at_builtin; refine append_flat tInt_law flat_int info_T_int Try.underlying22 rfl rfl (.tmp 70) (.tmp 79) rfl (fun q => w11.heap.size ≤ q) (fun q => w11.heap.size ≤ q) _ _ [] ys rfl rfl E0.out (slR_below tInt_law HX.out HAL.out) (fun b h => h) (by simp) (by have h9 := HYN.out; simp only [List.length_nil]; omega) ?_)
 intro v' w12 o1 t1
 obtain ⟨ub, uc2, rfl⟩ := slO_len o1
 have c12 : Below w11.heap.size w11 w12 := below_turn HAL.out t1 (fun b h => h) (by simp [World.size_alloc])
 have PY := Lib.hid (slO_lt tInt_law o1)
 clear px0 cga c1a o1 t1 E0 HAL HX
 replace B0 := Lib.hid ((c12.block w.heap.size (Array.getElem?_eq_some_iff.1 B0.out).1).trans B0.out)
 replace B1 := Lib.hid ((c12.block (w.heap.size + 1) (Array.getElem?_eq_some_iff.1 B1.out).1).trans B1.out)
 replace BZ := Lib.hid ((c12.block (w.heap.size + 2) (Array.getElem?_eq_some_iff.1 BZ.out).1).trans BZ.out)
 replace BX := Lib.hid ((c12.block w4.heap.size (Array.getElem?_eq_some_iff.1 BX.out).1).trans BX.out)
 replace BV := Lib.hid ((c12.block V (Array.getElem?_eq_some_iff.1 BV.out).1).trans BV.out)
 replace PF := Lib.hid (slO_fresh tVersionS_law PF.out c12)
 replace PX := Lib.hid (slO_fresh tInt_law PX.out c12)
 replace d := Lib.hid (d.out.trans (c12.mono d.out.size))
 have Z_w12 := Lib.hid (show w11.heap.size ≤ w12.heap.size from c12.size)
 clear c12
 have QY := Lib.hid (fun q (h : w11.heap.size ≤ q ∧ q < w12.heap.size) => h)
 clear PX QX
 have p_BV_0 := (cell_of_row w12 _ 0 _ _ _ BV.out).trans (show _ = some (Value.int .i64 id) from rfl)
 have p_BV_1 := (cell_of_row w12 _ 1 _ _ _ BV.out).trans (show _ = some (Value.slice ua xs.length uc) from rfl)
 have p_BV_2 := (cell_of_row w12 _ 2 _ _ _ BV.out).trans (show _ = some (Value.int .i64 (now + 1)) from rfl)
 have p_BV_3 := (cell_of_row w12 _ 3 _ _ _ BV.out).trans (show _ = some (Value.int .i64 (-1)) from rfl)
 have f_BV_0 := frozen_of_row w12 _ 0 _ _ BV.out
 have f_BV_1 := frozen_of_row w12 _ 1 _ _ BV.out
 have f_BV_2 := frozen_of_row w12 _ 2 _ _ BV.out
 have f_BV_3 := frozen_of_row w12 _ 3 _ _ BV.out
 go_wp2
 clear p_BV_0 p_BV_1 p_BV_2 p_BV_3 f_BV_0 f_BV_1 f_BV_2 f_BV_3
 have tt : Turn (fun q => q = V) w12 (w12.setCell ⟨V, 1, none⟩ (.slice ub ys.length uc2)) := turn_set (G := fun q => q = V) (g := V) (j := 1) (u := .slice ub ys.length uc2) rfl
 have r := heap_setCell_same w12 (V) 1 _ _ (.slice ub ys.length uc2) BV.out
 simp at r
 generalize (w12.setCell ⟨V, 1, none⟩ (.slice ub ys.length uc2)) = w13 at *
 have y0 := YW.out
 have y1 := Z_w4.out
 have y2 := Y_X.out
 have y3 := Z_w6.out
 have y4 := Z_w7.out
 have y5 := Z_w8.out
 have y6 := Z_w9.out
 have y7 := Z_w10.out
 have y8 := Z_w11.out
 have y9 := YV.out
 have y10 := YV2.out
 have y11 := Z_w12.out
 have yd : w.heap.size ≤ w12.heap.size := d.out.size
 replace B0 := Lib.hid ((tt.block w.heap.size (Array.getElem?_eq_some_iff.1 B0.out).1 (fun h => by have r2 : _ = V := h; omega)).trans B0.out)
 replace B1 := Lib.hid ((tt.block (w.heap.size + 1) (Array.getElem?_eq_some_iff.1 B1.out).1 (fun h => by have r2 : _ = V := h; omega)).trans B1.out)
 replace BZ := Lib.hid ((tt.block (w.heap.size + 2) (Array.getElem?_eq_some_iff.1 BZ.out).1 (fun h => by have r2 : _ = V := h; omega)).trans BZ.out)
 replace BX := Lib.hid ((tt.block w4.heap.size (Array.getElem?_eq_some_iff.1 BX.out).1 (fun h => by have r2 : _ = V := h; omega)).trans BX.out)
 replace PF := Lib.hid (slO_turn tVersionS_law PF.out tt (fun b h1 h2 => by have r1 := QF.out b h1; have r2 : _ = V := h2; omega))
 replace PY := Lib.hid (slO_turn tInt_law PY.out tt (fun b h1 h2 => by have r1 := QY.out b h1; have r2 : _ = V := h2; omega))
 replace d := Lib.hid (below_turn d.out tt (fun b h => by have r2 : _ = V := h; omega) (by omega))
 have Z_w13 := Lib.hid (show w12.heap.size ≤ w13.heap.size from tt.size)
 clear yd y0 y1 y2 y3 y4 y5 y6 y7 y8 y9 y10 y11
 replace BV : Hid (w13.heap[V]? = some (.cells #[.int .i64 id, .slice ub ys.length uc2, .int .i64 (now + 1), .int .i64 (-1)] 88 (0, 0))) := Lib.hid r
 clear r tt
 have p_BX_0 := (cell_of_row w13 _ 0 _ _ _ BX.out).trans (show _ = some (Value.slice (some ⟨g, 0, none⟩) ss.length fc) from rfl)
 have p_BX_1 := (cell_of_row w13 _ 1 _ _ _ BX.out).trans (show _ = some (Value.int .i64 (now + 1)) from rfl)
 refine wp_region_held_drew (S := fun w' => w'.cell? ⟨w4.heap.size, 0, none⟩ = some (Value.slice (some ⟨g, 0, none⟩) ss.length fc) ∧ w'.cell? ⟨w4.heap.size, 1, none⟩ = some (Value.int .i64 (now + 1))) (by kernel_rfl) ⟨p_BX_0, p_BX_1⟩ (fun hHeld => ?_)
 clear p_BX_0 p_BX_1
 have cdr : Below w13.heap.size w13 w13.drew := below_drew (Below.refl _ _)
 replace B0 := Lib.hid ((cdr.block w.heap.size (Array.getElem?_eq_some_iff.1 B0.out).1).trans B0.out)
 replace B1 := Lib.hid ((cdr.block (w.heap.size + 1) (Array.getElem?_eq_some_iff.1 B1.out).1).trans B1.out)
 replace BZ := Lib.hid ((cdr.block (w.heap.size + 2) (Array.getElem?_eq_some_iff.1 BZ.out).1).trans BZ.out)
 replace BX := Lib.hid ((cdr.block w4.heap.size (Array.getElem?_eq_some_iff.1 BX.out).1).trans BX.out)
 replace BV := Lib.hid ((cdr.block V (Array.getElem?_eq_some_iff.1 BV.out).1).trans BV.out)
 replace PF := Lib.hid (slO_fresh tVersionS_law PF.out cdr)
 replace PY := Lib.hid (slO_fresh tInt_law PY.out cdr)
 replace d := Lib.hid (d.out.trans (cdr.mono d.out.size))
 clear cdr
 have Z_dr := Lib.hid (show w13.heap.size ≤ w13.drew.heap.size from Nat.le_refl _)
 generalize w13.drew = Wd at *
 refine tR (i := 0) (v := ?_) ?_ ?_; rotate_left
 ·
  intro w hSw; (try dsimp only at hSw); go_simp; try (with_reducible rfl)
 try simp only [Act.put, lA, lB, lC]
 refine tR (i := 1) (v := ?_) ?_ ?_; rotate_left
 ·
  intro w hSw; (try dsimp only at hSw); go_simp; try (with_reducible rfl)
 try simp only [Act.put, lA, lB, lC]
 refine tR (i := 2) (v := ?_) ?_ ?_; rotate_left
 ·
  intro w hSw; (try dsimp only at hSw); go_simp; try (with_reducible rfl)
 try simp only [Act.put, lA, lB, lC]
 refine tR (i := 3) (v := ?_) ?_ ?_; rotate_left
 ·
  intro w hSw; (try dsimp only at hSw); go_simp; try (with_reducible rfl)
 try simp only [Act.put, lA, lB, lC]
 refine tR (i := 5) (v := ?_) ?_ ?_; rotate_left
 ·
  intro w hSw; (try dsimp only at hSw); go_simp; try (with_reducible rfl)
 try simp only [Act.put, lA, lB, lC]
 refine tR (i := 6) (v := ?_) ?_ ?_; rotate_left
 ·
  intro w hSw; (try dsimp only at hSw); go_simp; try (with_reducible rfl)
 try simp only [Act.put, lA, lB, lC]
 refine tR (i := 7) (v := ?_) ?_ ?_; rotate_left
 ·
  intro w hSw; (try dsimp only at hSw); go_simp; try (with_reducible rfl)
 try simp only [Act.put, lA, lB, lC]
 refine wpAnyH_ready (rs := [4]) (by kernel_rfl) (by simp) ?_
 refine (AllReadyH.cons (o := _) (by simp only [hA, hB, hC]; rfl) (fun K hK => ?_) AllReadyH.nil)
 obtain ⟨g2, gc2, q2, qc2, xa2, xn2, hv2, hg2, cg2, hF2, hq2, hn2, c2, hx2, hy2, hz2, hput2⟩ := segs_die PF.out HI.out HK.out
 simp only [Value.slice.injEq, Option.some.injEq, Addr.mk.injEq] at hv2
 obtain ⟨⟨rfl, _⟩, _, rfl⟩ := hv2
 clear hF2 hq2 hn2 c2 hx2 hy2 hz2 hput2
 rw [← HLI.out] at cg2
 go_simp
 have Q2 : Hid (Wd.cell? ⟨g, i, none⟩ = some (Value.slice (some ⟨q2, 0, none⟩) li.length qc2)) := Lib.hid cg2
 clear cg2 hg2
 have p_BX_0 := (cell_of_row Wd _ 0 _ _ _ BX.out).trans (show _ = some (Value.slice (some ⟨g, 0, none⟩) ss.length fc) from rfl)
 have p_BX_1 := (cell_of_row Wd _ 1 _ _ _ BX.out).trans (show _ = some (Value.int .i64 (now + 1)) from rfl)
 refine hK.out _ _ ⟨p_BX_0, p_BX_1⟩ (fun hHeld => ?_)
 clear p_BX_0 p_BX_1
 clear hK K
 try simp only [Act.put, lA, lB, lC]
 refine tR (i := 8) (v := ?_) ?_ ?_; rotate_left
 ·
  intro w hSw; (try dsimp only at hSw); go_simp; try (with_reducible rfl)
 try simp only [Act.put, lA, lB, lC]
 refine tR (i := 9) (v := ?_) ?_ ?_; rotate_left
 ·
  intro w hSw; (try dsimp only at hSw); go_simp; try (with_reducible rfl)
 try simp only [Act.put, lA, lB, lC]
 refine wpAnyH_ready (rs := [10]) (by kernel_rfl) (by simp) ?_
 refine (AllReadyH.cons (o := _) (by simp only [hA, hB, hC]; rfl) (fun K hK => ?_) AllReadyH.nil)
 obtain ⟨g3, gc3, q3, qc3, xa3, xn3, hv3, hg3, cg3, hF3, hq3, hne3, c3, hx3, ⟨y3, hy3⟩, hz3, hput3⟩ := segs_die PF.out HI.out HK.out
 simp only [Value.slice.injEq, Option.some.injEq, Addr.mk.injEq] at hv3
 obtain ⟨⟨rfl, _⟩, _, rfl⟩ := hv3
 rw [← HLI.out] at cg3
 have hsl := cg3.symm.trans Q2.out
 simp only [Option.some.injEq, Value.slice.injEq, Addr.mk.injEq] at hsl
 obtain ⟨⟨rfl, _⟩, _, rfl⟩ := hsl
 have HP3 := Lib.hid (hput3 (now + 1))
 have r3 := QF.out _ hF3
 have R3 := Lib.hid r3
 clear hput3 r3 c3 hx3
 go_simp
 have tt : Turn (fun q => q = q3) Wd (Wd.setCell ⟨q3, kx * 4 + 3, none⟩ (.int .i64 (now + 1))) := turn_set (G := fun q => q = q3) (g := q3) (j := kx * 4 + 3) (u := .int .i64 (now + 1)) rfl
 generalize (Wd.setCell ⟨q3, kx * 4 + 3, none⟩ (.int .i64 (now + 1))) = w14 at *
 have y0 := YW.out
 have y1 := Z_w4.out
 have y2 := Y_X.out
 have y3 := Z_w6.out
 have y4 := Z_w7.out
 have y5 := Z_w8.out
 have y6 := Z_w9.out
 have y7 := Z_w10.out
 have y8 := Z_w11.out
 have y9 := YV.out
 have y10 := YV2.out
 have y11 := Z_w12.out
 have y12 := Z_w13.out
 have y13 := Z_dr.out
 have yd : w.heap.size ≤ Wd.heap.size := d.out.size
 replace B0 := Lib.hid ((tt.block w.heap.size (Array.getElem?_eq_some_iff.1 B0.out).1 (fun h => by have r2 : _ = q3 := h; have r4 := R3.out; omega)).trans B0.out)
 replace B1 := Lib.hid ((tt.block (w.heap.size + 1) (Array.getElem?_eq_some_iff.1 B1.out).1 (fun h => by have r2 : _ = q3 := h; have r4 := R3.out; omega)).trans B1.out)
 replace BZ := Lib.hid ((tt.block (w.heap.size + 2) (Array.getElem?_eq_some_iff.1 BZ.out).1 (fun h => by have r2 : _ = q3 := h; have r4 := R3.out; omega)).trans BZ.out)
 replace BX := Lib.hid ((tt.block w4.heap.size (Array.getElem?_eq_some_iff.1 BX.out).1 (fun h => by have r2 : _ = q3 := h; have r4 := R3.out; omega)).trans BX.out)
 replace BV := Lib.hid ((tt.block V (Array.getElem?_eq_some_iff.1 BV.out).1 (fun h => by have r2 : _ = q3 := h; have r4 := R3.out; omega)).trans BV.out)
 replace PY := Lib.hid (slO_turn tInt_law PY.out tt (fun b h1 h2 => by have r1 := QY.out b h1; have r2 : _ = q3 := h2; have r4 := R3.out; omega))
 replace d := Lib.hid (below_turn d.out tt (fun b h => by have r2 : _ = q3 := h; have r4 := R3.out; omega) (by omega))
 have Z_w14 := Lib.hid (show Wd.heap.size ≤ w14.heap.size from tt.size)
 clear yd y0 y1 y2 y3 y4 y5 y6 y7 y8 y9 y10 y11 y12 y13
 replace PF := HP3
 clear HP3 tt hy3 hz3 hq3 hne3 hg3 cg3 hF3 Q2
 have p_BX_0 := (cell_of_row w14 _ 0 _ _ _ BX.out).trans (show _ = some (Value.slice (some ⟨g, 0, none⟩) ss.length fc) from rfl)
 have p_BX_1 := (cell_of_row w14 _ 1 _ _ _ BX.out).trans (show _ = some (Value.int .i64 (now + 1)) from rfl)
 refine hK.out _ _ ⟨p_BX_0, p_BX_1⟩ (fun hHeld => ?_)
 clear p_BX_0 p_BX_1
 clear hK K
 try simp only [Act.put, lA, lB, lC]
 refine wpAnyH_done (by kernel_rfl) ?_ _
 clear hHeld
 have p_B1_0 := (cell_of_row w14 _ 0 _ _ _ B1.out).trans (show _ = some (Value.int .i64 2) from rfl)
 have p_B1_1 := (cell_of_row w14 _ 1 _ _ _ B1.out).trans (show _ = some (Value.int .i64 id) from rfl)
 have p_B1_2 := (cell_of_row w14 _ 2 _ _ _ B1.out).trans (show _ = some (Value.slice va xs.length vc) from rfl)
 have p_B1_3 := (cell_of_row w14 _ 3 _ _ _ B1.out).trans (show _ = some (Value.int .i64 f) from rfl)
 have p_B1_4 := (cell_of_row w14 _ 4 _ _ _ B1.out).trans (show _ = some (Value.int .i64 x) from rfl)
 have p_BX_0 := (cell_of_row w14 _ 0 _ _ _ BX.out).trans (show _ = some (Value.slice (some ⟨g, 0, none⟩) ss.length fc) from rfl)
 have p_BX_1 := (cell_of_row w14 _ 1 _ _ _ BX.out).trans (show _ = some (Value.int .i64 (now + 1)) from rfl)
 have p_BV_0 := (cell_of_row w14 _ 0 _ _ _ BV.out).trans (show _ = some (Value.int .i64 id) from rfl)
 have p_BV_1 := (cell_of_row w14 _ 1 _ _ _ BV.out).trans (show _ = some (Value.slice ub ys.length uc2) from rfl)
 have p_BV_2 := (cell_of_row w14 _ 2 _ _ _ BV.out).trans (show _ = some (Value.int .i64 (now + 1)) from rfl)
 have p_BV_3 := (cell_of_row w14 _ 3 _ _ _ BV.out).trans (show _ = some (Value.int .i64 (-1)) from rfl)
 have p_B1_0 := (cell_of_row w14 _ 0 _ _ _ B1.out).trans (show _ = some (Value.int .i64 2) from rfl)
 have p_B1_1 := (cell_of_row w14 _ 1 _ _ _ B1.out).trans (show _ = some (Value.int .i64 id) from rfl)
 have p_B1_2 := (cell_of_row w14 _ 2 _ _ _ B1.out).trans (show _ = some (Value.slice va xs.length vc) from rfl)
 have p_B1_3 := (cell_of_row w14 _ 3 _ _ _ B1.out).trans (show _ = some (Value.int .i64 f) from rfl)
 have p_B1_4 := (cell_of_row w14 _ 4 _ _ _ B1.out).trans (show _ = some (Value.int .i64 x) from rfl)
 have p_BX_0 := (cell_of_row w14 _ 0 _ _ _ BX.out).trans (show _ = some (Value.slice (some ⟨g, 0, none⟩) ss.length fc) from rfl)
 have p_BX_1 := (cell_of_row w14 _ 1 _ _ _ BX.out).trans (show _ = some (Value.int .i64 (now + 1)) from rfl)
 have p_BZ_0 := (cell_of_row w14 _ 0 _ _ _ BZ.out).trans (show _ = some (Value.slice none 0 0) from rfl)
 have p_BZ_1 := (cell_of_row w14 _ 1 _ _ _ BZ.out).trans (show _ = some (Value.int .i64 0) from rfl)
 have f_BZ_0 := frozen_of_row w14 _ 0 _ _ BZ.out
 have f_BZ_1 := frozen_of_row w14 _ 1 _ _ BZ.out
 have tt : Turn (fun q => q = w.heap.size + 2) w14 ((w14.setCell ⟨w.heap.size + 2, 0, none⟩ (.slice (some ⟨g, 0, none⟩) ss.length fc)).setCell ⟨w.heap.size + 2, 1, none⟩ (.int .i64 (now + 1))) := ((Turn.refl (fun q => q = w.heap.size + 2) _).trans (turn_set (G := fun q => q = w.heap.size + 2) (g := w.heap.size + 2) (j := 0) (u := .slice (some ⟨g, 0, none⟩) ss.length fc) rfl)).trans (turn_set (G := fun q => q = w.heap.size + 2) (g := w.heap.size + 2) (j := 1) (u := .int .i64 (now + 1)) rfl)
 have r := heap_setCell_same _ (w.heap.size + 2) 1 _ _ (.int .i64 (now + 1)) (heap_setCell_same w14 (w.heap.size + 2) 0 _ _ (.slice (some ⟨g, 0, none⟩) ss.length fc) BZ.out)
 have e0 := cell_of_row _ _ 0 _ _ _ r
 have e1 := cell_of_row _ _ 1 _ _ _ r
 simp at e0 e1
 have y0 := YW.out
 have y1 := Z_w4.out
 have y2 := Y_X.out
 have y3 := Z_w6.out
 have y4 := Z_w7.out
 have y5 := Z_w8.out
 have y6 := Z_w9.out
 have y7 := Z_w10.out
 have y8 := Z_w11.out
 have y9 := YV.out
 have y10 := YV2.out
 have y11 := Z_w12.out
 have y12 := Z_w13.out
 have y13 := Z_dr.out
 have y14 := Z_w14.out
 have DF := Lib.hid (below_turn d.out tt (fun q h => by omega) d.out.size)
 have PE := Lib.hid (slO_turn tVersionS_law PF.out tt (fun q h1 h2 => by have r1 := QF.out q h1; omega))
 have QE := Lib.hid (fun q h => (show w.heap.size ≤ q by have r1 := QF.out q h; omega))
 clear tt r y0 y1 y2 y3 y4 y5 y6 y7 y8 y9 y10 y11 y12 y13 y14
 go_wp2
 refine bodyPost_ret (v := .tuple #[.agg #[.slice (some ⟨g, 0, none⟩) ss.length fc, .int .i64 (now + 1)], .bool true]) ?_ rfl ?_
 ·
  simp [results, Try.f15, go_sem, e0, e1]
 ·
  exact ⟨[.slice (some ⟨g, 0, none⟩) ss.length fc, .int .i64 (now + 1)], _, rfl, tStore_mkO PE.out (fun q h => h), QE.out, DF.out⟩
set_option maxHeartbeats 32000000 in
set_option maxRecDepth 100000 in
theorem specApply_set (id f x now : Int) (sv vv : Value) (ss : List (List VerD)) (xs : List Int) (w : World) (h : SlR tVersionS w sv ss) (hs : zL tVersionS ss ≤ 1048576) (g : SlR tInt w vv xs) (hn : xs.length ≤ 1048576) (h1 : storeB ss now = true) (h2 : updB (3, (id, xs), f, x) = true) (h3 : now < 100000) (hsg : segI ss id < ss.length) (hrm : roomI ss < ss.length) :
  Calls Try.prog 15 #[.agg #[sv, .int .i64 now], .agg #[.int .i64 3, .int .i64 id, vv, .int .i64 f, .int .i64 x]] w (FreshNew w (applyB (ss, now) (3, (id, xs), f, x))) := by
 obtain ⟨a, cap, rfl⟩ := slR_len h
 obtain ⟨va, vc, rfl⟩ := slR_len g
 have hlen := zL_len hs
 have H := Lib.hid h
 have G := Lib.hid g
 have HC := Lib.hid (fun W h => specCopy (.slice a ss.length cap) ss now W h hs)
 have HIS := Lib.hid (fun W h => specIsStore (.slice a ss.length cap) ss now W h hs)
 have HIU := Lib.hid (fun W g => specIsUpdate 3 id f x (.slice va xs.length vc) xs W g hn)
 have HFI := Lib.hid (fun W h => specFind (.slice a ss.length cap) ss now id W h hs)
 have HRO := Lib.hid (fun W h => specRoom (.slice a ss.length cap) ss now W h hs)
 clear h g hs hn
 have hok : okP ss now (3, (id, xs), f, x) := ⟨h1, h2, h3, ⟨fun q => absurd q (show ¬ (3 : Int) = 1 by decide), fun q => absurd hsg q⟩, fun _ => hrm⟩
 have HDN : doneL ss (now + 1) (3, (id, xs), f, x) = addL (dieL ss (segI ss id) (verI (ss.getD (segI ss id) []) id) (now + 1)) (roomI ss) (id, ((ss.getD (segI ss id) []).getD (verI (ss.getD (segI ss id) []) id) v0D).2.1.set f.toNat x, now + 1, -1) := by unfold doneL kill1; rw [if_neg (show ¬ (3 : Int) = 1 by decide), if_neg (show ¬ (3 : Int) = 2 by decide)]; rfl
 rw [apply_yes hok, HDN]
 rw [h1] at HIS
 rw [h2] at HIU
 have h4 : decide (100000 ≤ now) = false := decide_eq_false (by omega)
 have h5 : ¬ (100000 : Int) ≤ now := by omega
 have HS1 : idxI ss.length (segI ss id) = (segI ss id : Int) := if_pos hsg
 have HS2 : fndJ ss id = (verI (ss.getD (segI ss id) []) id : Int) := if_pos hsg
 rw [HS1, HS2] at HFI
 have i0 : ¬ (segI ss id : Int) < 0 := by omega
 have i1 : decide ((segI ss id : Int) < 0) = false := decide_eq_false (by omega)
 have i2 : (0 : Int) ≤ (segI ss id : Int) := by omega
 have HR1 : idxI ss.length (roomI ss) = (roomI ss : Int) := if_pos hrm
 rw [HR1] at HRO
 have r0 : ¬ (roomI ss : Int) < 0 := by omega
 have r1 : decide ((roomI ss : Int) < 0) = false := decide_eq_false (by omega)
 have r2 : (0 : Int) ≤ (roomI ss : Int) := by omega
 have hnow := (store_iff h1).1.2
 have n0 : 0 ≤ now := hnow.1
 have n1 : now < 100000 := h3
 have HI := Lib.hid hsg
 have HK := Lib.hid (old_alive hsg).1
 have hf : (0 ≤ f ∧ f ≤ 2) ∧ xs.length = 0 := by
  rcases upd_cases h2 with q | q | q
  ·
   exact absurd q.1 (show ¬ (3 : Int) = 1 by decide)
  ·
   exact absurd q.1 (show ¬ (3 : Int) = 2 by decide)
  ·
   exact ⟨q.2.2.2.1, q.2.2.1⟩
 have HXN : Hid (xs.length ≤ 1048576) := Lib.hid (by omega)
 have HYN : Hid (((ss.getD (segI ss id) []).getD (verI (ss.getD (segI ss id) []) id) v0D).2.1.length = 3) := Lib.hid (old_three h1 hsg)
 obtain ⟨fn, rfl⟩ := Int.eq_ofNat_of_zero_le hf.1.1
 rw [Int.toNat_natCast]
 have hfn : fn < 3 := by omega
 have HFN : Hid (fn < ((ss.getD (segI ss id) []).getD (verI (ss.getD (segI ss id) []) id) v0D).2.1.length) := Lib.hid (by have := HYN.out; omega)
 have hff := HFN.out
 have f0 : (0 : Int) ≤ (fn : Int) := by omega
 have f1 : (fn : Int) < (((ss.getD (segI ss id) []).getD (verI (ss.getD (segI ss id) []) id) v0D).2.1.length : Int) := by omega
 have i3 : (segI ss id : Int) < (ss.length : Int) := by omega
 have hkk := HK.out
 have j1 : (0 : Int) ≤ (verI (ss.getD (segI ss id) []) id : Int) := by omega
 have j2 : (verI (ss.getD (segI ss id) []) id : Int) < ((ss.getD (segI ss id) []).length : Int) := by omega
 have r3 : (roomI ss : Int) < (ss.length : Int) := by omega
 have hdl := die_len ss (segI ss id) (verI (ss.getD (segI ss id) []) id) (now + 1)
 have HDL := Lib.hid hdl
 have HR : Hid (roomI ss < (dieL ss (segI ss id) (verI (ss.getD (segI ss id) []) id) (now + 1)).length) := Lib.hid (by rw [hdl]; exact hrm)
 have hrl := room_len hrm
 obtain ⟨l, hl⟩ : ∃ l, l = (dieL ss (segI ss id) (verI (ss.getD (segI ss id) []) id) (now + 1)).getD (roomI ss) [] := ⟨_, rfl⟩
 have HLL := Lib.hid hl
 have HRL : Hid (l.length ≤ 1048576) := Lib.hid (by rw [hl, die_seg_len]; omega)
 clear h1 h2 h3 hok HDN HS1 HS2 HR1 hsg hrm hnow hkk hdl hrl hfn hf hff hl
 generalize segI ss id = i at *
 generalize verI (ss.getD i []) id = kx at *
 generalize roomI ss = rmi at *
 obtain ⟨li, hli⟩ : ∃ li, li = ss.getD i [] := ⟨_, rfl⟩
 obtain ⟨ys, hys⟩ : ∃ ys, ys = ((ss.getD i []).getD kx v0D).2.1 := ⟨_, rfl⟩
 have HLI := Lib.hid hli
 have HYS := Lib.hid hys
 rw [← hys] at HYN
 rw [← hli] at j2
 rw [← hys] at HFN f1 ⊢
 clear hli hys
 have HAPL : Hid ((l ++ [((id, ys.set fn x, now + 1, -1) : VerD)]).length = l.length + 1) := Lib.hid (by simp)
 have d := Lib.hid (show Below w.heap.size w (((w.alloc (.cells #[.slice a ss.length cap, .int .i64 now] 41)).alloc (.cells #[.int .i64 3, .int .i64 id, .slice va xs.length vc, .int .i64 (fn : Int), .int .i64 x] 31)).alloc (.cells #[.slice none 0 0, .int .i64 0] 41)) from (((Below.refl _ _).alloc (Nat.le_refl _) _).alloc (by simp <;> omega) _).alloc (by simp <;> omega) _)
 have B0 : Hid ((((w.alloc (.cells #[.slice a ss.length cap, .int .i64 now] 41)).alloc (.cells #[.int .i64 3, .int .i64 id, .slice va xs.length vc, .int .i64 (fn : Int), .int .i64 x] 31)).alloc (.cells #[.slice none 0 0, .int .i64 0] 41)).heap[w.heap.size]? = some (.cells #[.slice a ss.length cap, .int .i64 now] 41 (0, 0))) := Lib.hid (by
  rw [Below.heap_alloc _ _ _ (by simp <;> omega), Below.heap_alloc _ _ _ (by simp)]; exact heap_alloc_new w _)
 have B1 : Hid ((((w.alloc (.cells #[.slice a ss.length cap, .int .i64 now] 41)).alloc (.cells #[.int .i64 3, .int .i64 id, .slice va xs.length vc, .int .i64 (fn : Int), .int .i64 x] 31)).alloc (.cells #[.slice none 0 0, .int .i64 0] 41)).heap[(w.heap.size + 1)]? = some (.cells #[.int .i64 3, .int .i64 id, .slice va xs.length vc, .int .i64 (fn : Int), .int .i64 x] 31 (0, 0))) := Lib.hid (by
  rw [Below.heap_alloc _ _ _ (by simp)]
  have := heap_alloc_new (w.alloc (.cells #[.slice a ss.length cap, .int .i64 now] 41)) (.cells #[.int .i64 3, .int .i64 id, .slice va xs.length vc, .int .i64 (fn : Int), .int .i64 x] 31)
  simpa only [World.size_alloc] using this)
 have BZ : Hid ((((w.alloc (.cells #[.slice a ss.length cap, .int .i64 now] 41)).alloc (.cells #[.int .i64 3, .int .i64 id, .slice va xs.length vc, .int .i64 (fn : Int), .int .i64 x] 31)).alloc (.cells #[.slice none 0 0, .int .i64 0] 41)).heap[(w.heap.size + 2)]? = some (.cells #[.slice none 0 0, .int .i64 0] 41 (0, 0))) := Lib.hid (by
  have := heap_alloc_new ((w.alloc (.cells #[.slice a ss.length cap, .int .i64 now] 41)).alloc (.cells #[.int .i64 3, .int .i64 id, .slice va xs.length vc, .int .i64 (fn : Int), .int .i64 x] 31)) (.cells #[.slice none 0 0, .int .i64 0] 41)
  simpa only [World.size_alloc] using this)
 have YW : Hid (w.heap.size + 2 < (((w.alloc (.cells #[.slice a ss.length cap, .int .i64 now] 41)).alloc (.cells #[.int .i64 3, .int .i64 id, .slice va xs.length vc, .int .i64 (fn : Int), .int .i64 x] 31)).alloc (.cells #[.slice none 0 0, .int .i64 0] 41)).heap.size) := Lib.hid (by simp)
 go_enter Try.func15, Try.ntmps15
 go_wp2_with fail
 generalize (((w.alloc (.cells #[.slice a ss.length cap, .int .i64 now] 41)).alloc (.cells #[.int .i64 3, .int .i64 id, .slice va xs.length vc, .int .i64 (fn : Int), .int .i64 x] 31)).alloc (.cells #[.slice none 0 0, .int .i64 0] 41)) = W at *
 refine (HC.out W (slR_below tVersionS_law H.out d.out)).mono ?_
 rintro e w4 ⟨cs, rfl, oc, c4⟩
 obtain ⟨fv, F4, rfl, of, q4⟩ := tStore_O (tStore_law.lt oc)
 obtain ⟨fa, fc, rfl⟩ := slO_len of
 have PF := Lib.hid (slO_mono of q4)
 replace B0 := Lib.hid ((c4.block w.heap.size (Array.getElem?_eq_some_iff.1 B0.out).1).trans B0.out)
 replace B1 := Lib.hid ((c4.block (w.heap.size + 1) (Array.getElem?_eq_some_iff.1 B1.out).1).trans B1.out)
 replace BZ := Lib.hid ((c4.block (w.heap.size + 2) (Array.getElem?_eq_some_iff.1 BZ.out).1).trans BZ.out)
 replace d := Lib.hid (d.out.trans (c4.mono d.out.size))
 have Z_w4 := Lib.hid (show W.heap.size ≤ w4.heap.size from c4.size)
 have QF := Lib.hid (fun q (h : since W q ∧ q < w4.heap.size) => (show W.heap.size ≤ q ∧ q < w4.heap.size from h))
 clear oc of q4 c4
 have hal : Below w4.heap.size w4 (w4.alloc (.cells #[.slice fa ss.length fc, .int .i64 now] 41)) := (Below.refl _ _).alloc (Nat.le_refl _) _
 have BX := Lib.hid (heap_alloc_new w4 (.cells #[.slice fa ss.length fc, .int .i64 now] 41))
 have Y_X := Lib.hid (show w4.heap.size < (w4.alloc (.cells #[.slice fa ss.length fc, .int .i64 now] 41)).heap.size by simp [World.size_alloc])
 replace B0 := Lib.hid ((hal.block w.heap.size (Array.getElem?_eq_some_iff.1 B0.out).1).trans B0.out)
 replace B1 := Lib.hid ((hal.block (w.heap.size + 1) (Array.getElem?_eq_some_iff.1 B1.out).1).trans B1.out)
 replace BZ := Lib.hid ((hal.block (w.heap.size + 2) (Array.getElem?_eq_some_iff.1 BZ.out).1).trans BZ.out)
 replace PF := Lib.hid (slO_fresh tVersionS_law PF.out hal)
 replace d := Lib.hid (d.out.trans (hal.mono d.out.size))
 clear hal
 have p_B0_0 := (cell_of_row (w4.alloc (.cells #[.slice fa ss.length fc, .int .i64 now] 41)) _ 0 _ _ _ B0.out).trans (show _ = some (Value.slice a ss.length cap) from rfl)
 have p_B0_1 := (cell_of_row (w4.alloc (.cells #[.slice fa ss.length fc, .int .i64 now] 41)) _ 1 _ _ _ B0.out).trans (show _ = some (Value.int .i64 now) from rfl)
 go_wp2_with fail
 clear p_B0_0 p_B0_1
 generalize w4.alloc (.cells #[.slice fa ss.length fc, .int .i64 now] 41) = w5 at *
 refine (HIS.out w5 (slR_below tVersionS_law H.out d.out)).mono ?_
 rintro e w6 ⟨rfl, cw6⟩
 replace B0 := Lib.hid ((cw6.block w.heap.size (Array.getElem?_eq_some_iff.1 B0.out).1).trans B0.out)
 replace B1 := Lib.hid ((cw6.block (w.heap.size + 1) (Array.getElem?_eq_some_iff.1 B1.out).1).trans B1.out)
 replace BZ := Lib.hid ((cw6.block (w.heap.size + 2) (Array.getElem?_eq_some_iff.1 BZ.out).1).trans BZ.out)
 replace BX := Lib.hid ((cw6.block w4.heap.size (Array.getElem?_eq_some_iff.1 BX.out).1).trans BX.out)
 replace PF := Lib.hid (slO_fresh tVersionS_law PF.out cw6)
 replace d := Lib.hid (d.out.trans (cw6.mono d.out.size))
 have Z_w6 := Lib.hid (show w5.heap.size ≤ w6.heap.size from cw6.size)
 clear cw6
 have p_B1_0 := (cell_of_row w6 _ 0 _ _ _ B1.out).trans (show _ = some (Value.int .i64 3) from rfl)
 have p_B1_1 := (cell_of_row w6 _ 1 _ _ _ B1.out).trans (show _ = some (Value.int .i64 id) from rfl)
 have p_B1_2 := (cell_of_row w6 _ 2 _ _ _ B1.out).trans (show _ = some (Value.slice va xs.length vc) from rfl)
 have p_B1_3 := (cell_of_row w6 _ 3 _ _ _ B1.out).trans (show _ = some (Value.int .i64 (fn : Int)) from rfl)
 have p_B1_4 := (cell_of_row w6 _ 4 _ _ _ B1.out).trans (show _ = some (Value.int .i64 x) from rfl)
 go_wp2_with fail
 clear p_B1_0 p_B1_1 p_B1_2 p_B1_3 p_B1_4
 refine (HIU.out w6 (slR_ints (slR_below tInt_law G.out d.out))).mono ?_
 rintro e w7 ⟨rfl, cw7⟩
 replace B0 := Lib.hid ((cw7.block w.heap.size (Array.getElem?_eq_some_iff.1 B0.out).1).trans B0.out)
 replace B1 := Lib.hid ((cw7.block (w.heap.size + 1) (Array.getElem?_eq_some_iff.1 B1.out).1).trans B1.out)
 replace BZ := Lib.hid ((cw7.block (w.heap.size + 2) (Array.getElem?_eq_some_iff.1 BZ.out).1).trans BZ.out)
 replace BX := Lib.hid ((cw7.block w4.heap.size (Array.getElem?_eq_some_iff.1 BX.out).1).trans BX.out)
 replace PF := Lib.hid (slO_fresh tVersionS_law PF.out cw7)
 replace d := Lib.hid (d.out.trans (cw7.mono d.out.size))
 have Z_w7 := Lib.hid (show w6.heap.size ≤ w7.heap.size from cw7.size)
 clear cw7
 have p_B0_0 := (cell_of_row w7 _ 0 _ _ _ B0.out).trans (show _ = some (Value.slice a ss.length cap) from rfl)
 have p_B0_1 := (cell_of_row w7 _ 1 _ _ _ B0.out).trans (show _ = some (Value.int .i64 now) from rfl)
 have p_B1_0 := (cell_of_row w7 _ 0 _ _ _ B1.out).trans (show _ = some (Value.int .i64 3) from rfl)
 have p_B1_1 := (cell_of_row w7 _ 1 _ _ _ B1.out).trans (show _ = some (Value.int .i64 id) from rfl)
 have p_B1_2 := (cell_of_row w7 _ 2 _ _ _ B1.out).trans (show _ = some (Value.slice va xs.length vc) from rfl)
 have p_B1_3 := (cell_of_row w7 _ 3 _ _ _ B1.out).trans (show _ = some (Value.int .i64 (fn : Int)) from rfl)
 have p_B1_4 := (cell_of_row w7 _ 4 _ _ _ B1.out).trans (show _ = some (Value.int .i64 x) from rfl)
 go_wp2_with fail
 clear p_B0_0 p_B0_1 p_B1_0 p_B1_1 p_B1_2 p_B1_3 p_B1_4
 refine (HFI.out w7 (slR_below tVersionS_law H.out d.out)).mono ?_
 rintro e w8 ⟨rfl, cw8⟩
 replace B0 := Lib.hid ((cw8.block w.heap.size (Array.getElem?_eq_some_iff.1 B0.out).1).trans B0.out)
 replace B1 := Lib.hid ((cw8.block (w.heap.size + 1) (Array.getElem?_eq_some_iff.1 B1.out).1).trans B1.out)
 replace BZ := Lib.hid ((cw8.block (w.heap.size + 2) (Array.getElem?_eq_some_iff.1 BZ.out).1).trans BZ.out)
 replace BX := Lib.hid ((cw8.block w4.heap.size (Array.getElem?_eq_some_iff.1 BX.out).1).trans BX.out)
 replace PF := Lib.hid (slO_fresh tVersionS_law PF.out cw8)
 replace d := Lib.hid (d.out.trans (cw8.mono d.out.size))
 have Z_w8 := Lib.hid (show w7.heap.size ≤ w8.heap.size from cw8.size)
 clear cw8
 have p_B0_0 := (cell_of_row w8 _ 0 _ _ _ B0.out).trans (show _ = some (Value.slice a ss.length cap) from rfl)
 have p_B0_1 := (cell_of_row w8 _ 1 _ _ _ B0.out).trans (show _ = some (Value.int .i64 now) from rfl)
 go_wp2_with fail
 clear p_B0_0 p_B0_1
 refine (HRO.out w8 (slR_below tVersionS_law H.out d.out)).mono ?_
 rintro e w9 ⟨rfl, cw9⟩
 replace B0 := Lib.hid ((cw9.block w.heap.size (Array.getElem?_eq_some_iff.1 B0.out).1).trans B0.out)
 replace B1 := Lib.hid ((cw9.block (w.heap.size + 1) (Array.getElem?_eq_some_iff.1 B1.out).1).trans B1.out)
 replace BZ := Lib.hid ((cw9.block (w.heap.size + 2) (Array.getElem?_eq_some_iff.1 BZ.out).1).trans BZ.out)
 replace BX := Lib.hid ((cw9.block w4.heap.size (Array.getElem?_eq_some_iff.1 BX.out).1).trans BX.out)
 replace PF := Lib.hid (slO_fresh tVersionS_law PF.out cw9)
 replace d := Lib.hid (d.out.trans (cw9.mono d.out.size))
 have Z_w9 := Lib.hid (show w8.heap.size ≤ w9.heap.size from cw9.size)
 clear cw9
 have p_B0_0 := (cell_of_row w9 _ 0 _ _ _ B0.out).trans (show _ = some (Value.slice a ss.length cap) from rfl)
 have p_B0_1 := (cell_of_row w9 _ 1 _ _ _ B0.out).trans (show _ = some (Value.int .i64 now) from rfl)
 have p_B1_0 := (cell_of_row w9 _ 0 _ _ _ B1.out).trans (show _ = some (Value.int .i64 3) from rfl)
 have p_B1_1 := (cell_of_row w9 _ 1 _ _ _ B1.out).trans (show _ = some (Value.int .i64 id) from rfl)
 have p_B1_2 := (cell_of_row w9 _ 2 _ _ _ B1.out).trans (show _ = some (Value.slice va xs.length vc) from rfl)
 have p_B1_3 := (cell_of_row w9 _ 3 _ _ _ B1.out).trans (show _ = some (Value.int .i64 (fn : Int)) from rfl)
 have p_B1_4 := (cell_of_row w9 _ 4 _ _ _ B1.out).trans (show _ = some (Value.int .i64 x) from rfl)
 have p_BX_0 := (cell_of_row w9 _ 0 _ _ _ BX.out).trans (show _ = some (Value.slice fa ss.length fc) from rfl)
 have p_BX_1 := (cell_of_row w9 _ 1 _ _ _ BX.out).trans (show _ = some (Value.int .i64 now) from rfl)
 have f_BX_1 := frozen_of_row w9 _ 1 _ _ BX.out
 go_upto_region 9 with fail
 clear p_B0_0 p_B0_1 p_B1_0 p_B1_1 p_B1_2 p_B1_3 p_B1_4 p_BX_0 p_BX_1 f_BX_1
 have tt : Turn (fun q => q = w4.heap.size) w9 (w9.setCell ⟨w4.heap.size, 1, none⟩ (.int .i64 (now + 1))) := turn_set (G := fun q => q = w4.heap.size) (g := w4.heap.size) (j := 1) (u := .int .i64 (now + 1)) rfl
 have r := heap_setCell_same w9 (w4.heap.size) 1 _ _ (.int .i64 (now + 1)) BX.out
 simp at r
 generalize (w9.setCell ⟨w4.heap.size, 1, none⟩ (.int .i64 (now + 1))) = w10 at *
 have y0 := YW.out
 have y1 := Z_w4.out
 have y2 := Y_X.out
 have y3 := Z_w6.out
 have y4 := Z_w7.out
 have y5 := Z_w8.out
 have y6 := Z_w9.out
 have yd : w.heap.size ≤ w9.heap.size := d.out.size
 replace B0 := Lib.hid ((tt.block w.heap.size (Array.getElem?_eq_some_iff.1 B0.out).1 (fun h => by have r2 : _ = w4.heap.size := h; omega)).trans B0.out)
 replace B1 := Lib.hid ((tt.block (w.heap.size + 1) (Array.getElem?_eq_some_iff.1 B1.out).1 (fun h => by have r2 : _ = w4.heap.size := h; omega)).trans B1.out)
 replace BZ := Lib.hid ((tt.block (w.heap.size + 2) (Array.getElem?_eq_some_iff.1 BZ.out).1 (fun h => by have r2 : _ = w4.heap.size := h; omega)).trans BZ.out)
 replace PF := Lib.hid (slO_turn tVersionS_law PF.out tt (fun b h1 h2 => by have r1 := QF.out b h1; have r2 : _ = w4.heap.size := h2; omega))
 replace d := Lib.hid (below_turn d.out tt (fun b h => by have r2 : _ = w4.heap.size := h; omega) (by omega))
 have Z_w10 := Lib.hid (show w9.heap.size ≤ w10.heap.size from tt.size)
 clear yd y0 y1 y2 y3 y4 y5 y6
 replace BX : Hid (w10.heap[w4.heap.size]? = some (.cells #[.slice fa ss.length fc, .int .i64 (now + 1)] 41 (0, 0))) := Lib.hid r
 clear r tt
 go_cut [10] from 57 (fun s10 wx => ∃ (V : Nat) (ua : Option Addr) (uc : Nat) (KV : Nat → Prop), s10 = .pointer (some ⟨V, 0, none⟩) ∧ wx.heap[V]? = some (.cells #[.int .i64 id, .slice ua xs.length uc, .int .i64 (now + 1), .int .i64 (-1)] 88 (0, 0)) ∧ w10.heap.size ≤ V ∧ V < wx.heap.size ∧ SlO 3 tInt wx KV (.slice ua xs.length uc) xs ∧ (∀ q, KV q → w10.heap.size ≤ q ∧ q < wx.heap.size ∧ q ≠ V) ∧ Below w10.heap.size w10 wx)
 case first =>
  have DD := d
  clear d
  replace G := Lib.hid (slR_below tInt_law G.out DD.out)
  have d := Lib.hid (Below.refl w10.heap.size w10)
  go_wp2
  have p_B1_0 := (cell_of_row w10 _ 0 _ _ _ B1.out).trans (show _ = some (Value.int .i64 3) from rfl)
  have p_B1_1 := (cell_of_row w10 _ 1 _ _ _ B1.out).trans (show _ = some (Value.int .i64 id) from rfl)
  have p_B1_2 := (cell_of_row w10 _ 2 _ _ _ B1.out).trans (show _ = some (Value.slice va xs.length vc) from rfl)
  have p_B1_3 := (cell_of_row w10 _ 3 _ _ _ B1.out).trans (show _ = some (Value.int .i64 (fn : Int)) from rfl)
  have p_B1_4 := (cell_of_row w10 _ 4 _ _ _ B1.out).trans (show _ = some (Value.int .i64 x) from rfl)
  have p_BX_0 := (cell_of_row w10 _ 0 _ _ _ BX.out).trans (show _ = some (Value.slice fa ss.length fc) from rfl)
  have p_BX_1 := (cell_of_row w10 _ 1 _ _ _ BX.out).trans (show _ = some (Value.int .i64 (now + 1)) from rfl)
  refine wp_region_held_drew (S := fun w' => w'.cell? ⟨(w.heap.size + 1), 0, none⟩ = some (Value.int .i64 3) ∧ w'.cell? ⟨(w.heap.size + 1), 1, none⟩ = some (Value.int .i64 id) ∧ w'.cell? ⟨(w.heap.size + 1), 2, none⟩ = some (Value.slice va xs.length vc) ∧ w'.cell? ⟨(w.heap.size + 1), 3, none⟩ = some (Value.int .i64 (fn : Int)) ∧ w'.cell? ⟨(w.heap.size + 1), 4, none⟩ = some (Value.int .i64 x) ∧ w'.cell? ⟨w4.heap.size, 0, none⟩ = some (Value.slice fa ss.length fc) ∧ w'.cell? ⟨w4.heap.size, 1, none⟩ = some (Value.int .i64 (now + 1))) (by kernel_rfl) ⟨p_B1_0, p_B1_1, p_B1_2, p_B1_3, p_B1_4, p_BX_0, p_BX_1⟩ (fun hHeld => ?_)
  clear p_B1_0 p_B1_1 p_B1_2 p_B1_3 p_B1_4 p_BX_0 p_BX_1
  have cdr : Below w10.heap.size w10 w10.drew := below_drew (Below.refl _ _)
  replace B1 := Lib.hid ((cdr.block (w.heap.size + 1) (Array.getElem?_eq_some_iff.1 B1.out).1).trans B1.out)
  replace BX := Lib.hid ((cdr.block w4.heap.size (Array.getElem?_eq_some_iff.1 BX.out).1).trans BX.out)
  replace d := Lib.hid (d.out.trans (cdr.mono d.out.size))
  clear cdr
  have Z_dr := Lib.hid (show w10.heap.size ≤ w10.drew.heap.size from Nat.le_refl _)
  generalize w10.drew = Wd at *
  refine tR (i := 0) (v := ?_) ?_ ?_; rotate_left
  ·
   intro w hSw; (try dsimp only at hSw); go_simp; try (with_reducible rfl)
  try simp only [Act.put, lA, lB, lC]
  refine tR (i := 1) (v := ?_) ?_ ?_; rotate_left
  ·
   intro w hSw; (try dsimp only at hSw); go_simp; try (with_reducible rfl)
  try simp only [Act.put, lA, lB, lC]
  refine tR (i := 2) (v := ?_) ?_ ?_; rotate_left
  ·
   intro w hSw; (try dsimp only at hSw); go_simp; try (with_reducible rfl)
  try simp only [Act.put, lA, lB, lC]
  refine tR (i := 4) (v := ?_) ?_ ?_; rotate_left
  ·
   intro w hSw; (try dsimp only at hSw); go_simp; try (with_reducible rfl)
  try simp only [Act.put, lA, lB, lC]
  refine tR (i := 5) (v := ?_) ?_ ?_; rotate_left
  ·
   intro w hSw; (try dsimp only at hSw); go_simp; try (with_reducible rfl)
  try simp only [Act.put, lA, lB, lC]
  refine tR (i := 6) (v := ?_) ?_ ?_; rotate_left
  ·
   intro w hSw; (try dsimp only at hSw); go_simp; try (with_reducible rfl)
  try simp only [Act.put, lA, lB, lC]
  refine tR (i := 8) (v := ?_) ?_ ?_; rotate_left
  ·
   intro w hSw; (try dsimp only at hSw); go_simp; try (with_reducible rfl)
  try simp only [Act.put, lA, lB, lC]
  refine tR (i := 9) (v := ?_) ?_ ?_; rotate_left
  ·
   intro w hSw; (try dsimp only at hSw); go_simp; try (with_reducible rfl)
  try simp only [Act.put, lA, lB, lC]
  refine wpAnyH_ready (rs := [3, 11]) (by kernel_rfl) (by simp) ?_
  refine (AllReadyH.cons (o := _) (by simp only [hA, hB, hC]; rfl) (fun K hK => ?_) (AllReadyH.cons (o := _) (by simp only [hA, hB, hC]; rfl) (fun K hK => ?_) AllReadyH.nil))
  ·
   go_simp
   have hal : Below Wd.heap.size Wd (Wd.alloc (.cells #[] 3)) := (Below.refl _ _).alloc (Nat.le_refl _) _
   have Y_i := Lib.hid (show Wd.heap.size < (Wd.alloc (.cells #[] 3)).heap.size by simp [World.size_alloc])
   replace B1 := Lib.hid ((hal.block (w.heap.size + 1) (Array.getElem?_eq_some_iff.1 B1.out).1).trans B1.out)
   replace BX := Lib.hid ((hal.block w4.heap.size (Array.getElem?_eq_some_iff.1 BX.out).1).trans BX.out)
   replace d := Lib.hid (d.out.trans (hal.mono d.out.size))
   have PI := Lib.hid (slO_empty (T := tInt) Wd 3 (fun b => b = Wd.heap.size) rfl)
   have QI := Lib.hid (fun b (h : b = Wd.heap.size) => h)
   clear hal
   generalize (Wd.alloc (.cells #[] 3)) = V1 at *
   have p_B1_0 := (cell_of_row V1 _ 0 _ _ _ B1.out).trans (show _ = some (Value.int .i64 3) from rfl)
   have p_B1_1 := (cell_of_row V1 _ 1 _ _ _ B1.out).trans (show _ = some (Value.int .i64 id) from rfl)
   have p_B1_2 := (cell_of_row V1 _ 2 _ _ _ B1.out).trans (show _ = some (Value.slice va xs.length vc) from rfl)
   have p_B1_3 := (cell_of_row V1 _ 3 _ _ _ B1.out).trans (show _ = some (Value.int .i64 (fn : Int)) from rfl)
   have p_B1_4 := (cell_of_row V1 _ 4 _ _ _ B1.out).trans (show _ = some (Value.int .i64 x) from rfl)
   have p_BX_0 := (cell_of_row V1 _ 0 _ _ _ BX.out).trans (show _ = some (Value.slice fa ss.length fc) from rfl)
   have p_BX_1 := (cell_of_row V1 _ 1 _ _ _ BX.out).trans (show _ = some (Value.int .i64 (now + 1)) from rfl)
   refine hK.out _ _ ⟨p_B1_0, p_B1_1, p_B1_2, p_B1_3, p_B1_4, p_BX_0, p_BX_1⟩ (fun hHeld => ?_)
   clear p_B1_0 p_B1_1 p_B1_2 p_B1_3 p_B1_4 p_BX_0 p_BX_1
   clear hK K
   try simp only [Act.put, lA, lB, lC]
   refine wpAnyH_ready (rs := [7, 11]) (by kernel_rfl) (by simp) ?_
   refine (AllReadyH.cons (o := _) (by simp only [hA, hB, hC]; rfl) (fun K hK => ?_) (AllReadyH.cons (o := _) (by simp only [hA, hB, hC]; rfl) (fun K hK => ?_) AllReadyH.nil))
   ·
    refine step_append_flat tInt_law flat_int info_T_int Try.underlying22 rfl rfl (.tmp 60) (.tmp 63) rfl (fun b => b = Wd.heap.size) (fun b => (fun b => b = Wd.heap.size) b ∨ b = V1.heap.size) _ _ [] xs rfl rfl PI.out (slR_below tInt_law G.out d.out) (fun b h => Or.inl h) (Or.inr rfl) (by have := HXN.out; simp; omega) ?_
    intro u V2 oB tB
    rw [List.nil_append] at oB
    obtain ⟨ua, uc, rfl⟩ := slO_len oB
    have y0 := YW.out
    have y1 := Z_w4.out
    have y2 := Y_X.out
    have y3 := Z_w6.out
    have y4 := Z_w7.out
    have y5 := Z_w8.out
    have y6 := Z_w9.out
    have y7 := Z_w10.out
    have y8 := Z_dr.out
    have y9 := Y_i.out
    have yd : w10.heap.size ≤ V1.heap.size := d.out.size
    replace B1 := Lib.hid ((tB.block (w.heap.size + 1) (Array.getElem?_eq_some_iff.1 B1.out).1 (fun h => by have r2 := QI.out _ h; omega)).trans B1.out)
    replace BX := Lib.hid ((tB.block w4.heap.size (Array.getElem?_eq_some_iff.1 BX.out).1 (fun h => by have r2 := QI.out _ h; omega)).trans BX.out)
    replace d := Lib.hid (below_turn d.out tB (fun b h => by have r2 := QI.out _ h; omega) (by omega))
    have Z_V2 := Lib.hid (show V1.heap.size ≤ V2.heap.size from tB.size)
    clear yd y0 y1 y2 y3 y4 y5 y6 y7 y8 y9
    replace PI := Lib.hid (slO_lt tInt_law oB)
    replace QI := Lib.hid (fun b (h : ((fun b => b = Wd.heap.size) b ∨ b = V1.heap.size) ∧ b < V2.heap.size) => (show (b = Wd.heap.size ∨ b = V1.heap.size) ∧ b < V2.heap.size from h))
    clear oB tB
    have p_B1_0 := (cell_of_row V2 _ 0 _ _ _ B1.out).trans (show _ = some (Value.int .i64 3) from rfl)
    have p_B1_1 := (cell_of_row V2 _ 1 _ _ _ B1.out).trans (show _ = some (Value.int .i64 id) from rfl)
    have p_B1_2 := (cell_of_row V2 _ 2 _ _ _ B1.out).trans (show _ = some (Value.slice va xs.length vc) from rfl)
    have p_B1_3 := (cell_of_row V2 _ 3 _ _ _ B1.out).trans (show _ = some (Value.int .i64 (fn : Int)) from rfl)
    have p_B1_4 := (cell_of_row V2 _ 4 _ _ _ B1.out).trans (show _ = some (Value.int .i64 x) from rfl)
    have p_BX_0 := (cell_of_row V2 _ 0 _ _ _ BX.out).trans (show _ = some (Value.slice fa ss.length fc) from rfl)
    have p_BX_1 := (cell_of_row V2 _ 1 _ _ _ BX.out).trans (show _ = some (Value.int .i64 (now + 1)) from rfl)
    refine hK.out _ _ ⟨p_B1_0, p_B1_1, p_B1_2, p_B1_3, p_B1_4, p_BX_0, p_BX_1⟩ (fun hHeld => ?_)
    clear p_B1_0 p_B1_1 p_B1_2 p_B1_3 p_B1_4 p_BX_0 p_BX_1
    clear hK K
    try simp only [Act.put, lA, lB, lC]
    refine tR (i := 10) (v := ?_) ?_ ?_; rotate_left
    ·
     intro w hSw; (try dsimp only at hSw); go_simp; try (with_reducible rfl)
    try simp only [Act.put, lA, lB, lC]
    refine wpAnyH_ready (rs := [11]) (by kernel_rfl) (by simp) ?_
    refine (AllReadyH.cons (o := _) (by simp only [hA, hB, hC]; rfl) (fun K hK => ?_) AllReadyH.nil)
    go_simp
    have hal : Below V2.heap.size V2 (V2.alloc (.cells #[.int .i64 0, .slice none 0 0, .int .i64 0, .int .i64 0] 88)) := (Below.refl _ _).alloc (Nat.le_refl _) _
    have BV := Lib.hid (heap_alloc_new V2 (.cells #[.int .i64 0, .slice none 0 0, .int .i64 0, .int .i64 0] 88))
    have Y_v := Lib.hid (show V2.heap.size < (V2.alloc (.cells #[.int .i64 0, .slice none 0 0, .int .i64 0, .int .i64 0] 88)).heap.size by simp [World.size_alloc])
    replace B1 := Lib.hid ((hal.block (w.heap.size + 1) (Array.getElem?_eq_some_iff.1 B1.out).1).trans B1.out)
    replace BX := Lib.hid ((hal.block w4.heap.size (Array.getElem?_eq_some_iff.1 BX.out).1).trans BX.out)
    replace PI := Lib.hid (slO_fresh tInt_law PI.out hal)
    replace d := Lib.hid (d.out.trans (hal.mono d.out.size))
    clear hal
    generalize (V2.alloc (.cells #[.int .i64 0, .slice none 0 0, .int .i64 0, .int .i64 0] 88)) = V3 at *
    have p_B1_0 := (cell_of_row V3 _ 0 _ _ _ B1.out).trans (show _ = some (Value.int .i64 3) from rfl)
    have p_B1_1 := (cell_of_row V3 _ 1 _ _ _ B1.out).trans (show _ = some (Value.int .i64 id) from rfl)
    have p_B1_2 := (cell_of_row V3 _ 2 _ _ _ B1.out).trans (show _ = some (Value.slice va xs.length vc) from rfl)
    have p_B1_3 := (cell_of_row V3 _ 3 _ _ _ B1.out).trans (show _ = some (Value.int .i64 (fn : Int)) from rfl)
    have p_B1_4 := (cell_of_row V3 _ 4 _ _ _ B1.out).trans (show _ = some (Value.int .i64 x) from rfl)
    have p_BX_0 := (cell_of_row V3 _ 0 _ _ _ BX.out).trans (show _ = some (Value.slice fa ss.length fc) from rfl)
    have p_BX_1 := (cell_of_row V3 _ 1 _ _ _ BX.out).trans (show _ = some (Value.int .i64 (now + 1)) from rfl)
    refine hK.out _ _ ⟨p_B1_0, p_B1_1, p_B1_2, p_B1_3, p_B1_4, p_BX_0, p_BX_1⟩ (fun hHeld => ?_)
    clear p_B1_0 p_B1_1 p_B1_2 p_B1_3 p_B1_4 p_BX_0 p_BX_1
    clear hK K
    try simp only [Act.put, lA, lB, lC]
    refine wpAnyH_ready (rs := [12]) (by kernel_rfl) (by simp) ?_
    refine (AllReadyH.cons (o := _) (by simp only [hA, hB, hC]; rfl) (fun K hK => ?_) AllReadyH.nil)
    have p_BV_0 := (cell_of_row V3 _ 0 _ _ _ BV.out).trans (show _ = some (Value.int .i64 0) from rfl)
    have p_BV_1 := (cell_of_row V3 _ 1 _ _ _ BV.out).trans (show _ = some (Value.slice none 0 0) from rfl)
    have p_BV_2 := (cell_of_row V3 _ 2 _ _ _ BV.out).trans (show _ = some (Value.int .i64 0) from rfl)
    have p_BV_3 := (cell_of_row V3 _ 3 _ _ _ BV.out).trans (show _ = some (Value.int .i64 0) from rfl)
    have f_BV_0 := frozen_of_row V3 _ 0 _ _ BV.out
    have f_BV_1 := frozen_of_row V3 _ 1 _ _ BV.out
    have f_BV_2 := frozen_of_row V3 _ 2 _ _ BV.out
    have f_BV_3 := frozen_of_row V3 _ 3 _ _ BV.out
    go_simp
    clear p_BV_0 p_BV_1 p_BV_2 p_BV_3 f_BV_0 f_BV_1 f_BV_2 f_BV_3
    have tt : Turn (fun q => q = V2.heap.size) V3 ((((V3.setCell ⟨V2.heap.size, 0, none⟩ (.int .i64 id)).setCell ⟨V2.heap.size, 1, none⟩ (.slice ua xs.length uc)).setCell ⟨V2.heap.size, 2, none⟩ (.int .i64 (now + 1))).setCell ⟨V2.heap.size, 3, none⟩ (.int .i64 (-1))) := (((((Turn.refl (fun q => q = V2.heap.size) V3).trans (turn_set (G := fun q => q = V2.heap.size) (g := V2.heap.size) (j := 0) (u := .int .i64 id) rfl)).trans (turn_set (G := fun q => q = V2.heap.size) (g := V2.heap.size) (j := 1) (u := .slice ua xs.length uc) rfl)).trans (turn_set (G := fun q => q = V2.heap.size) (g := V2.heap.size) (j := 2) (u := .int .i64 (now + 1)) rfl)).trans (turn_set (G := fun q => q = V2.heap.size) (g := V2.heap.size) (j := 3) (u := .int .i64 (-1)) rfl))
    have r := (heap_setCell_same _ (V2.heap.size) 3 _ _ (.int .i64 (-1)) (heap_setCell_same _ (V2.heap.size) 2 _ _ (.int .i64 (now + 1)) (heap_setCell_same _ (V2.heap.size) 1 _ _ (.slice ua xs.length uc) (heap_setCell_same V3 (V2.heap.size) 0 _ _ (.int .i64 id) BV.out))))
    simp at r
    generalize ((((V3.setCell ⟨V2.heap.size, 0, none⟩ (.int .i64 id)).setCell ⟨V2.heap.size, 1, none⟩ (.slice ua xs.length uc)).setCell ⟨V2.heap.size, 2, none⟩ (.int .i64 (now + 1))).setCell ⟨V2.heap.size, 3, none⟩ (.int .i64 (-1))) = V4 at *
    have y0 := YW.out
    have y1 := Z_w4.out
    have y2 := Y_X.out
    have y3 := Z_w6.out
    have y4 := Z_w7.out
    have y5 := Z_w8.out
    have y6 := Z_w9.out
    have y7 := Z_w10.out
    have y8 := Z_dr.out
    have y9 := Y_i.out
    have y10 := Z_V2.out
    have y11 := Y_v.out
    have yd : w10.heap.size ≤ V3.heap.size := d.out.size
    replace B1 := Lib.hid ((tt.block (w.heap.size + 1) (Array.getElem?_eq_some_iff.1 B1.out).1 (fun h => by have r2 : _ = V2.heap.size := h; omega)).trans B1.out)
    replace BX := Lib.hid ((tt.block w4.heap.size (Array.getElem?_eq_some_iff.1 BX.out).1 (fun h => by have r2 : _ = V2.heap.size := h; omega)).trans BX.out)
    replace PI := Lib.hid (slO_turn tInt_law PI.out tt (fun b h1 h2 => by have r1 := QI.out b h1; have r2 : _ = V2.heap.size := h2; omega))
    replace d := Lib.hid (below_turn d.out tt (fun b h => by have r2 : _ = V2.heap.size := h; omega) (by omega))
    have Z_V4 := Lib.hid (show V3.heap.size ≤ V4.heap.size from tt.size)
    clear yd y0 y1 y2 y3 y4 y5 y6 y7 y8 y9 y10 y11
    replace BV : Hid (V4.heap[V2.heap.size]? = some (.cells #[.int .i64 id, .slice ua xs.length uc, .int .i64 (now + 1), .int .i64 (-1)] 88 (0, 0))) := Lib.hid r
    clear r tt
    have p_B1_0 := (cell_of_row V4 _ 0 _ _ _ B1.out).trans (show _ = some (Value.int .i64 3) from rfl)
    have p_B1_1 := (cell_of_row V4 _ 1 _ _ _ B1.out).trans (show _ = some (Value.int .i64 id) from rfl)
    have p_B1_2 := (cell_of_row V4 _ 2 _ _ _ B1.out).trans (show _ = some (Value.slice va xs.length vc) from rfl)
    have p_B1_3 := (cell_of_row V4 _ 3 _ _ _ B1.out).trans (show _ = some (Value.int .i64 (fn : Int)) from rfl)
    have p_B1_4 := (cell_of_row V4 _ 4 _ _ _ B1.out).trans (show _ = some (Value.int .i64 x) from rfl)
    have p_BX_0 := (cell_of_row V4 _ 0 _ _ _ BX.out).trans (show _ = some (Value.slice fa ss.length fc) from rfl)
    have p_BX_1 := (cell_of_row V4 _ 1 _ _ _ BX.out).trans (show _ = some (Value.int .i64 (now + 1)) from rfl)
    refine hK.out _ _ ⟨p_B1_0, p_B1_1, p_B1_2, p_B1_3, p_B1_4, p_BX_0, p_BX_1⟩ (fun hHeld => ?_)
    clear p_B1_0 p_B1_1 p_B1_2 p_B1_3 p_B1_4 p_BX_0 p_BX_1
    clear hK K
    try simp only [Act.put, lA, lB, lC]
    refine wpAnyH_done (by kernel_rfl) ?_ _
    clear hHeld
    go_wp2
    go_meet
    have y0 := YW.out
    have y1 := Z_w4.out
    have y2 := Y_X.out
    have y3 := Z_w6.out
    have y4 := Z_w7.out
    have y5 := Z_w8.out
    have y6 := Z_w9.out
    have y7 := Z_w10.out
    have y8 := Z_dr.out
    have y9 := Y_i.out
    have y10 := Z_V2.out
    have y11 := Y_v.out
    have y12 := Z_V4.out
    case rel => exact ⟨_, _, _, _, rfl, BV.out, by omega, (Array.getElem?_eq_some_iff.1 BV.out).1, PI.out, fun q hq => (by have r := QI.out q hq; omega), d.out⟩
   ·
    go_simp
    have hal : Below V1.heap.size V1 (V1.alloc (.cells #[.int .i64 0, .slice none 0 0, .int .i64 0, .int .i64 0] 88)) := (Below.refl _ _).alloc (Nat.le_refl _) _
    have BV := Lib.hid (heap_alloc_new V1 (.cells #[.int .i64 0, .slice none 0 0, .int .i64 0, .int .i64 0] 88))
    have Y_v := Lib.hid (show V1.heap.size < (V1.alloc (.cells #[.int .i64 0, .slice none 0 0, .int .i64 0, .int .i64 0] 88)).heap.size by simp [World.size_alloc])
    replace B1 := Lib.hid ((hal.block (w.heap.size + 1) (Array.getElem?_eq_some_iff.1 B1.out).1).trans B1.out)
    replace BX := Lib.hid ((hal.block w4.heap.size (Array.getElem?_eq_some_iff.1 BX.out).1).trans BX.out)
    replace PI := Lib.hid (slO_fresh tInt_law PI.out hal)
    replace d := Lib.hid (d.out.trans (hal.mono d.out.size))
    clear hal
    generalize (V1.alloc (.cells #[.int .i64 0, .slice none 0 0, .int .i64 0, .int .i64 0] 88)) = V2 at *
    have p_B1_0 := (cell_of_row V2 _ 0 _ _ _ B1.out).trans (show _ = some (Value.int .i64 3) from rfl)
    have p_B1_1 := (cell_of_row V2 _ 1 _ _ _ B1.out).trans (show _ = some (Value.int .i64 id) from rfl)
    have p_B1_2 := (cell_of_row V2 _ 2 _ _ _ B1.out).trans (show _ = some (Value.slice va xs.length vc) from rfl)
    have p_B1_3 := (cell_of_row V2 _ 3 _ _ _ B1.out).trans (show _ = some (Value.int .i64 (fn : Int)) from rfl)
    have p_B1_4 := (cell_of_row V2 _ 4 _ _ _ B1.out).trans (show _ = some (Value.int .i64 x) from rfl)
    have p_BX_0 := (cell_of_row V2 _ 0 _ _ _ BX.out).trans (show _ = some (Value.slice fa ss.length fc) from rfl)
    have p_BX_1 := (cell_of_row V2 _ 1 _ _ _ BX.out).trans (show _ = some (Value.int .i64 (now + 1)) from rfl)
    refine hK.out _ _ ⟨p_B1_0, p_B1_1, p_B1_2, p_B1_3, p_B1_4, p_BX_0, p_BX_1⟩ (fun hHeld => ?_)
    clear p_B1_0 p_B1_1 p_B1_2 p_B1_3 p_B1_4 p_BX_0 p_BX_1
    clear hK K
    try simp only [Act.put, lA, lB, lC]
    refine wpAnyH_ready (rs := [7]) (by kernel_rfl) (by simp) ?_
    refine (AllReadyH.cons (o := _) (by simp only [hA, hB, hC]; rfl) (fun K hK => ?_) AllReadyH.nil)
    refine step_append_flat tInt_law flat_int info_T_int Try.underlying22 rfl rfl (.tmp 60) (.tmp 63) rfl (fun b => b = Wd.heap.size) (fun b => (fun b => b = Wd.heap.size) b ∨ b = V2.heap.size) _ _ [] xs rfl rfl PI.out (slR_below tInt_law G.out d.out) (fun b h => Or.inl h) (Or.inr rfl) (by have := HXN.out; simp; omega) ?_
    intro u V3 oB tB
    rw [List.nil_append] at oB
    obtain ⟨ua, uc, rfl⟩ := slO_len oB
    have y0 := YW.out
    have y1 := Z_w4.out
    have y2 := Y_X.out
    have y3 := Z_w6.out
    have y4 := Z_w7.out
    have y5 := Z_w8.out
    have y6 := Z_w9.out
    have y7 := Z_w10.out
    have y8 := Z_dr.out
    have y9 := Y_i.out
    have y10 := Y_v.out
    have yd : w10.heap.size ≤ V2.heap.size := d.out.size
    replace B1 := Lib.hid ((tB.block (w.heap.size + 1) (Array.getElem?_eq_some_iff.1 B1.out).1 (fun h => by have r2 := QI.out _ h; omega)).trans B1.out)
    replace BX := Lib.hid ((tB.block w4.heap.size (Array.getElem?_eq_some_iff.1 BX.out).1 (fun h => by have r2 := QI.out _ h; omega)).trans BX.out)
    replace BV := Lib.hid ((tB.block V1.heap.size (Array.getElem?_eq_some_iff.1 BV.out).1 (fun h => by have r2 := QI.out _ h; omega)).trans BV.out)
    replace d := Lib.hid (below_turn d.out tB (fun b h => by have r2 := QI.out _ h; omega) (by omega))
    have Z_V3 := Lib.hid (show V2.heap.size ≤ V3.heap.size from tB.size)
    clear yd y0 y1 y2 y3 y4 y5 y6 y7 y8 y9 y10
    replace PI := Lib.hid (slO_lt tInt_law oB)
    replace QI := Lib.hid (fun b (h : ((fun b => b = Wd.heap.size) b ∨ b = V2.heap.size) ∧ b < V3.heap.size) => (show (b = Wd.heap.size ∨ b = V2.heap.size) ∧ b < V3.heap.size from h))
    clear oB tB
    have p_B1_0 := (cell_of_row V3 _ 0 _ _ _ B1.out).trans (show _ = some (Value.int .i64 3) from rfl)
    have p_B1_1 := (cell_of_row V3 _ 1 _ _ _ B1.out).trans (show _ = some (Value.int .i64 id) from rfl)
    have p_B1_2 := (cell_of_row V3 _ 2 _ _ _ B1.out).trans (show _ = some (Value.slice va xs.length vc) from rfl)
    have p_B1_3 := (cell_of_row V3 _ 3 _ _ _ B1.out).trans (show _ = some (Value.int .i64 (fn : Int)) from rfl)
    have p_B1_4 := (cell_of_row V3 _ 4 _ _ _ B1.out).trans (show _ = some (Value.int .i64 x) from rfl)
    have p_BX_0 := (cell_of_row V3 _ 0 _ _ _ BX.out).trans (show _ = some (Value.slice fa ss.length fc) from rfl)
    have p_BX_1 := (cell_of_row V3 _ 1 _ _ _ BX.out).trans (show _ = some (Value.int .i64 (now + 1)) from rfl)
    refine hK.out _ _ ⟨p_B1_0, p_B1_1, p_B1_2, p_B1_3, p_B1_4, p_BX_0, p_BX_1⟩ (fun hHeld => ?_)
    clear p_B1_0 p_B1_1 p_B1_2 p_B1_3 p_B1_4 p_BX_0 p_BX_1
    clear hK K
    try simp only [Act.put, lA, lB, lC]
    refine tR (i := 10) (v := ?_) ?_ ?_; rotate_left
    ·
     intro w hSw; (try dsimp only at hSw); go_simp; try (with_reducible rfl)
    try simp only [Act.put, lA, lB, lC]
    refine wpAnyH_ready (rs := [12]) (by kernel_rfl) (by simp) ?_
    refine (AllReadyH.cons (o := _) (by simp only [hA, hB, hC]; rfl) (fun K hK => ?_) AllReadyH.nil)
    have p_BV_0 := (cell_of_row V3 _ 0 _ _ _ BV.out).trans (show _ = some (Value.int .i64 0) from rfl)
    have p_BV_1 := (cell_of_row V3 _ 1 _ _ _ BV.out).trans (show _ = some (Value.slice none 0 0) from rfl)
    have p_BV_2 := (cell_of_row V3 _ 2 _ _ _ BV.out).trans (show _ = some (Value.int .i64 0) from rfl)
    have p_BV_3 := (cell_of_row V3 _ 3 _ _ _ BV.out).trans (show _ = some (Value.int .i64 0) from rfl)
    have f_BV_0 := frozen_of_row V3 _ 0 _ _ BV.out
    have f_BV_1 := frozen_of_row V3 _ 1 _ _ BV.out
    have f_BV_2 := frozen_of_row V3 _ 2 _ _ BV.out
    have f_BV_3 := frozen_of_row V3 _ 3 _ _ BV.out
    go_simp
    clear p_BV_0 p_BV_1 p_BV_2 p_BV_3 f_BV_0 f_BV_1 f_BV_2 f_BV_3
    have tt : Turn (fun q => q = V1.heap.size) V3 ((((V3.setCell ⟨V1.heap.size, 0, none⟩ (.int .i64 id)).setCell ⟨V1.heap.size, 1, none⟩ (.slice ua xs.length uc)).setCell ⟨V1.heap.size, 2, none⟩ (.int .i64 (now + 1))).setCell ⟨V1.heap.size, 3, none⟩ (.int .i64 (-1))) := (((((Turn.refl (fun q => q = V1.heap.size) V3).trans (turn_set (G := fun q => q = V1.heap.size) (g := V1.heap.size) (j := 0) (u := .int .i64 id) rfl)).trans (turn_set (G := fun q => q = V1.heap.size) (g := V1.heap.size) (j := 1) (u := .slice ua xs.length uc) rfl)).trans (turn_set (G := fun q => q = V1.heap.size) (g := V1.heap.size) (j := 2) (u := .int .i64 (now + 1)) rfl)).trans (turn_set (G := fun q => q = V1.heap.size) (g := V1.heap.size) (j := 3) (u := .int .i64 (-1)) rfl))
    have r := (heap_setCell_same _ (V1.heap.size) 3 _ _ (.int .i64 (-1)) (heap_setCell_same _ (V1.heap.size) 2 _ _ (.int .i64 (now + 1)) (heap_setCell_same _ (V1.heap.size) 1 _ _ (.slice ua xs.length uc) (heap_setCell_same V3 (V1.heap.size) 0 _ _ (.int .i64 id) BV.out))))
    simp at r
    generalize ((((V3.setCell ⟨V1.heap.size, 0, none⟩ (.int .i64 id)).setCell ⟨V1.heap.size, 1, none⟩ (.slice ua xs.length uc)).setCell ⟨V1.heap.size, 2, none⟩ (.int .i64 (now + 1))).setCell ⟨V1.heap.size, 3, none⟩ (.int .i64 (-1))) = V4 at *
    have y0 := YW.out
    have y1 := Z_w4.out
    have y2 := Y_X.out
    have y3 := Z_w6.out
    have y4 := Z_w7.out
    have y5 := Z_w8.out
    have y6 := Z_w9.out
    have y7 := Z_w10.out
    have y8 := Z_dr.out
    have y9 := Y_i.out
    have y10 := Y_v.out
    have y11 := Z_V3.out
    have yd : w10.heap.size ≤ V3.heap.size := d.out.size
    replace B1 := Lib.hid ((tt.block (w.heap.size + 1) (Array.getElem?_eq_some_iff.1 B1.out).1 (fun h => by have r2 : _ = V1.heap.size := h; omega)).trans B1.out)
    replace BX := Lib.hid ((tt.block w4.heap.size (Array.getElem?_eq_some_iff.1 BX.out).1 (fun h => by have r2 : _ = V1.heap.size := h; omega)).trans BX.out)
    replace PI := Lib.hid (slO_turn tInt_law PI.out tt (fun b h1 h2 => by have r1 := QI.out b h1; have r2 : _ = V1.heap.size := h2; omega))
    replace d := Lib.hid (below_turn d.out tt (fun b h => by have r2 : _ = V1.heap.size := h; omega) (by omega))
    have Z_V4 := Lib.hid (show V3.heap.size ≤ V4.heap.size from tt.size)
    clear yd y0 y1 y2 y3 y4 y5 y6 y7 y8 y9 y10 y11
    replace BV : Hid (V4.heap[V1.heap.size]? = some (.cells #[.int .i64 id, .slice ua xs.length uc, .int .i64 (now + 1), .int .i64 (-1)] 88 (0, 0))) := Lib.hid r
    clear r tt
    have p_B1_0 := (cell_of_row V4 _ 0 _ _ _ B1.out).trans (show _ = some (Value.int .i64 3) from rfl)
    have p_B1_1 := (cell_of_row V4 _ 1 _ _ _ B1.out).trans (show _ = some (Value.int .i64 id) from rfl)
    have p_B1_2 := (cell_of_row V4 _ 2 _ _ _ B1.out).trans (show _ = some (Value.slice va xs.length vc) from rfl)
    have p_B1_3 := (cell_of_row V4 _ 3 _ _ _ B1.out).trans (show _ = some (Value.int .i64 (fn : Int)) from rfl)
    have p_B1_4 := (cell_of_row V4 _ 4 _ _ _ B1.out).trans (show _ = some (Value.int .i64 x) from rfl)
    have p_BX_0 := (cell_of_row V4 _ 0 _ _ _ BX.out).trans (show _ = some (Value.slice fa ss.length fc) from rfl)
    have p_BX_1 := (cell_of_row V4 _ 1 _ _ _ BX.out).trans (show _ = some (Value.int .i64 (now + 1)) from rfl)
    refine hK.out _ _ ⟨p_B1_0, p_B1_1, p_B1_2, p_B1_3, p_B1_4, p_BX_0, p_BX_1⟩ (fun hHeld => ?_)
    clear p_B1_0 p_B1_1 p_B1_2 p_B1_3 p_B1_4 p_BX_0 p_BX_1
    clear hK K
    try simp only [Act.put, lA, lB, lC]
    refine wpAnyH_done (by kernel_rfl) ?_ _
    clear hHeld
    go_wp2
    go_meet
    have y0 := YW.out
    have y1 := Z_w4.out
    have y2 := Y_X.out
    have y3 := Z_w6.out
    have y4 := Z_w7.out
    have y5 := Z_w8.out
    have y6 := Z_w9.out
    have y7 := Z_w10.out
    have y8 := Z_dr.out
    have y9 := Y_i.out
    have y10 := Y_v.out
    have y11 := Z_V3.out
    have y12 := Z_V4.out
    case rel => exact ⟨_, _, _, _, rfl, BV.out, by omega, (Array.getElem?_eq_some_iff.1 BV.out).1, PI.out, fun q hq => (by have r := QI.out q hq; omega), d.out⟩
  ·
   go_simp
   have hal : Below Wd.heap.size Wd (Wd.alloc (.cells #[.int .i64 0, .slice none 0 0, .int .i64 0, .int .i64 0] 88)) := (Below.refl _ _).alloc (Nat.le_refl _) _
   have BV := Lib.hid (heap_alloc_new Wd (.cells #[.int .i64 0, .slice none 0 0, .int .i64 0, .int .i64 0] 88))
   have Y_v := Lib.hid (show Wd.heap.size < (Wd.alloc (.cells #[.int .i64 0, .slice none 0 0, .int .i64 0, .int .i64 0] 88)).heap.size by simp [World.size_alloc])
   replace B1 := Lib.hid ((hal.block (w.heap.size + 1) (Array.getElem?_eq_some_iff.1 B1.out).1).trans B1.out)
   replace BX := Lib.hid ((hal.block w4.heap.size (Array.getElem?_eq_some_iff.1 BX.out).1).trans BX.out)
   replace d := Lib.hid (d.out.trans (hal.mono d.out.size))
   clear hal
   generalize (Wd.alloc (.cells #[.int .i64 0, .slice none 0 0, .int .i64 0, .int .i64 0] 88)) = V1 at *
   have p_B1_0 := (cell_of_row V1 _ 0 _ _ _ B1.out).trans (show _ = some (Value.int .i64 3) from rfl)
   have p_B1_1 := (cell_of_row V1 _ 1 _ _ _ B1.out).trans (show _ = some (Value.int .i64 id) from rfl)
   have p_B1_2 := (cell_of_row V1 _ 2 _ _ _ B1.out).trans (show _ = some (Value.slice va xs.length vc) from rfl)
   have p_B1_3 := (cell_of_row V1 _ 3 _ _ _ B1.out).trans (show _ = some (Value.int .i64 (fn : Int)) from rfl)
   have p_B1_4 := (cell_of_row V1 _ 4 _ _ _ B1.out).trans (show _ = some (Value.int .i64 x) from rfl)
   have p_BX_0 := (cell_of_row V1 _ 0 _ _ _ BX.out).trans (show _ = some (Value.slice fa ss.length fc) from rfl)
   have p_BX_1 := (cell_of_row V1 _ 1 _ _ _ BX.out).trans (show _ = some (Value.int .i64 (now + 1)) from rfl)
   refine hK.out _ _ ⟨p_B1_0, p_B1_1, p_B1_2, p_B1_3, p_B1_4, p_BX_0, p_BX_1⟩ (fun hHeld => ?_)
   clear p_B1_0 p_B1_1 p_B1_2 p_B1_3 p_B1_4 p_BX_0 p_BX_1
   clear hK K
   try simp only [Act.put, lA, lB, lC]
   refine wpAnyH_ready (rs := [3]) (by kernel_rfl) (by simp) ?_
   refine (AllReadyH.cons (o := _) (by simp only [hA, hB, hC]; rfl) (fun K hK => ?_) AllReadyH.nil)
   go_simp
   have hal : Below V1.heap.size V1 (V1.alloc (.cells #[] 3)) := (Below.refl _ _).alloc (Nat.le_refl _) _
   have Y_i := Lib.hid (show V1.heap.size < (V1.alloc (.cells #[] 3)).heap.size by simp [World.size_alloc])
   replace B1 := Lib.hid ((hal.block (w.heap.size + 1) (Array.getElem?_eq_some_iff.1 B1.out).1).trans B1.out)
   replace BX := Lib.hid ((hal.block w4.heap.size (Array.getElem?_eq_some_iff.1 BX.out).1).trans BX.out)
   replace BV := Lib.hid ((hal.block Wd.heap.size (Array.getElem?_eq_some_iff.1 BV.out).1).trans BV.out)
   replace d := Lib.hid (d.out.trans (hal.mono d.out.size))
   have PI := Lib.hid (slO_empty (T := tInt) V1 3 (fun b => b = V1.heap.size) rfl)
   have QI := Lib.hid (fun b (h : b = V1.heap.size) => h)
   clear hal
   generalize (V1.alloc (.cells #[] 3)) = V2 at *
   have p_B1_0 := (cell_of_row V2 _ 0 _ _ _ B1.out).trans (show _ = some (Value.int .i64 3) from rfl)
   have p_B1_1 := (cell_of_row V2 _ 1 _ _ _ B1.out).trans (show _ = some (Value.int .i64 id) from rfl)
   have p_B1_2 := (cell_of_row V2 _ 2 _ _ _ B1.out).trans (show _ = some (Value.slice va xs.length vc) from rfl)
   have p_B1_3 := (cell_of_row V2 _ 3 _ _ _ B1.out).trans (show _ = some (Value.int .i64 (fn : Int)) from rfl)
   have p_B1_4 := (cell_of_row V2 _ 4 _ _ _ B1.out).trans (show _ = some (Value.int .i64 x) from rfl)
   have p_BX_0 := (cell_of_row V2 _ 0 _ _ _ BX.out).trans (show _ = some (Value.slice fa ss.length fc) from rfl)
   have p_BX_1 := (cell_of_row V2 _ 1 _ _ _ BX.out).trans (show _ = some (Value.int .i64 (now + 1)) from rfl)
   refine hK.out _ _ ⟨p_B1_0, p_B1_1, p_B1_2, p_B1_3, p_B1_4, p_BX_0, p_BX_1⟩ (fun hHeld => ?_)
   clear p_B1_0 p_B1_1 p_B1_2 p_B1_3 p_B1_4 p_BX_0 p_BX_1
   clear hK K
   try simp only [Act.put, lA, lB, lC]
   refine wpAnyH_ready (rs := [7]) (by kernel_rfl) (by simp) ?_
   refine (AllReadyH.cons (o := _) (by simp only [hA, hB, hC]; rfl) (fun K hK => ?_) AllReadyH.nil)
   refine step_append_flat tInt_law flat_int info_T_int Try.underlying22 rfl rfl (.tmp 60) (.tmp 63) rfl (fun b => b = V1.heap.size) (fun b => (fun b => b = V1.heap.size) b ∨ b = V2.heap.size) _ _ [] xs rfl rfl PI.out (slR_below tInt_law G.out d.out) (fun b h => Or.inl h) (Or.inr rfl) (by have := HXN.out; simp; omega) ?_
   intro u V3 oB tB
   rw [List.nil_append] at oB
   obtain ⟨ua, uc, rfl⟩ := slO_len oB
   have y0 := YW.out
   have y1 := Z_w4.out
   have y2 := Y_X.out
   have y3 := Z_w6.out
   have y4 := Z_w7.out
   have y5 := Z_w8.out
   have y6 := Z_w9.out
   have y7 := Z_w10.out
   have y8 := Z_dr.out
   have y9 := Y_v.out
   have y10 := Y_i.out
   have yd : w10.heap.size ≤ V2.heap.size := d.out.size
   replace B1 := Lib.hid ((tB.block (w.heap.size + 1) (Array.getElem?_eq_some_iff.1 B1.out).1 (fun h => by have r2 := QI.out _ h; omega)).trans B1.out)
   replace BX := Lib.hid ((tB.block w4.heap.size (Array.getElem?_eq_some_iff.1 BX.out).1 (fun h => by have r2 := QI.out _ h; omega)).trans BX.out)
   replace BV := Lib.hid ((tB.block Wd.heap.size (Array.getElem?_eq_some_iff.1 BV.out).1 (fun h => by have r2 := QI.out _ h; omega)).trans BV.out)
   replace d := Lib.hid (below_turn d.out tB (fun b h => by have r2 := QI.out _ h; omega) (by omega))
   have Z_V3 := Lib.hid (show V2.heap.size ≤ V3.heap.size from tB.size)
   clear yd y0 y1 y2 y3 y4 y5 y6 y7 y8 y9 y10
   replace PI := Lib.hid (slO_lt tInt_law oB)
   replace QI := Lib.hid (fun b (h : ((fun b => b = V1.heap.size) b ∨ b = V2.heap.size) ∧ b < V3.heap.size) => (show (b = V1.heap.size ∨ b = V2.heap.size) ∧ b < V3.heap.size from h))
   clear oB tB
   have p_B1_0 := (cell_of_row V3 _ 0 _ _ _ B1.out).trans (show _ = some (Value.int .i64 3) from rfl)
   have p_B1_1 := (cell_of_row V3 _ 1 _ _ _ B1.out).trans (show _ = some (Value.int .i64 id) from rfl)
   have p_B1_2 := (cell_of_row V3 _ 2 _ _ _ B1.out).trans (show _ = some (Value.slice va xs.length vc) from rfl)
   have p_B1_3 := (cell_of_row V3 _ 3 _ _ _ B1.out).trans (show _ = some (Value.int .i64 (fn : Int)) from rfl)
   have p_B1_4 := (cell_of_row V3 _ 4 _ _ _ B1.out).trans (show _ = some (Value.int .i64 x) from rfl)
   have p_BX_0 := (cell_of_row V3 _ 0 _ _ _ BX.out).trans (show _ = some (Value.slice fa ss.length fc) from rfl)
   have p_BX_1 := (cell_of_row V3 _ 1 _ _ _ BX.out).trans (show _ = some (Value.int .i64 (now + 1)) from rfl)
   refine hK.out _ _ ⟨p_B1_0, p_B1_1, p_B1_2, p_B1_3, p_B1_4, p_BX_0, p_BX_1⟩ (fun hHeld => ?_)
   clear p_B1_0 p_B1_1 p_B1_2 p_B1_3 p_B1_4 p_BX_0 p_BX_1
   clear hK K
   try simp only [Act.put, lA, lB, lC]
   refine tR (i := 10) (v := ?_) ?_ ?_; rotate_left
   ·
    intro w hSw; (try dsimp only at hSw); go_simp; try (with_reducible rfl)
   try simp only [Act.put, lA, lB, lC]
   refine wpAnyH_ready (rs := [12]) (by kernel_rfl) (by simp) ?_
   refine (AllReadyH.cons (o := _) (by simp only [hA, hB, hC]; rfl) (fun K hK => ?_) AllReadyH.nil)
   have p_BV_0 := (cell_of_row V3 _ 0 _ _ _ BV.out).trans (show _ = some (Value.int .i64 0) from rfl)
   have p_BV_1 := (cell_of_row V3 _ 1 _ _ _ BV.out).trans (show _ = some (Value.slice none 0 0) from rfl)
   have p_BV_2 := (cell_of_row V3 _ 2 _ _ _ BV.out).trans (show _ = some (Value.int .i64 0) from rfl)
   have p_BV_3 := (cell_of_row V3 _ 3 _ _ _ BV.out).trans (show _ = some (Value.int .i64 0) from rfl)
   have f_BV_0 := frozen_of_row V3 _ 0 _ _ BV.out
   have f_BV_1 := frozen_of_row V3 _ 1 _ _ BV.out
   have f_BV_2 := frozen_of_row V3 _ 2 _ _ BV.out
   have f_BV_3 := frozen_of_row V3 _ 3 _ _ BV.out
   go_simp
   clear p_BV_0 p_BV_1 p_BV_2 p_BV_3 f_BV_0 f_BV_1 f_BV_2 f_BV_3
   have tt : Turn (fun q => q = Wd.heap.size) V3 ((((V3.setCell ⟨Wd.heap.size, 0, none⟩ (.int .i64 id)).setCell ⟨Wd.heap.size, 1, none⟩ (.slice ua xs.length uc)).setCell ⟨Wd.heap.size, 2, none⟩ (.int .i64 (now + 1))).setCell ⟨Wd.heap.size, 3, none⟩ (.int .i64 (-1))) := (((((Turn.refl (fun q => q = Wd.heap.size) V3).trans (turn_set (G := fun q => q = Wd.heap.size) (g := Wd.heap.size) (j := 0) (u := .int .i64 id) rfl)).trans (turn_set (G := fun q => q = Wd.heap.size) (g := Wd.heap.size) (j := 1) (u := .slice ua xs.length uc) rfl)).trans (turn_set (G := fun q => q = Wd.heap.size) (g := Wd.heap.size) (j := 2) (u := .int .i64 (now + 1)) rfl)).trans (turn_set (G := fun q => q = Wd.heap.size) (g := Wd.heap.size) (j := 3) (u := .int .i64 (-1)) rfl))
   have r := (heap_setCell_same _ (Wd.heap.size) 3 _ _ (.int .i64 (-1)) (heap_setCell_same _ (Wd.heap.size) 2 _ _ (.int .i64 (now + 1)) (heap_setCell_same _ (Wd.heap.size) 1 _ _ (.slice ua xs.length uc) (heap_setCell_same V3 (Wd.heap.size) 0 _ _ (.int .i64 id) BV.out))))
   simp at r
   generalize ((((V3.setCell ⟨Wd.heap.size, 0, none⟩ (.int .i64 id)).setCell ⟨Wd.heap.size, 1, none⟩ (.slice ua xs.length uc)).setCell ⟨Wd.heap.size, 2, none⟩ (.int .i64 (now + 1))).setCell ⟨Wd.heap.size, 3, none⟩ (.int .i64 (-1))) = V4 at *
   have y0 := YW.out
   have y1 := Z_w4.out
   have y2 := Y_X.out
   have y3 := Z_w6.out
   have y4 := Z_w7.out
   have y5 := Z_w8.out
   have y6 := Z_w9.out
   have y7 := Z_w10.out
   have y8 := Z_dr.out
   have y9 := Y_v.out
   have y10 := Y_i.out
   have y11 := Z_V3.out
   have yd : w10.heap.size ≤ V3.heap.size := d.out.size
   replace B1 := Lib.hid ((tt.block (w.heap.size + 1) (Array.getElem?_eq_some_iff.1 B1.out).1 (fun h => by have r2 : _ = Wd.heap.size := h; omega)).trans B1.out)
   replace BX := Lib.hid ((tt.block w4.heap.size (Array.getElem?_eq_some_iff.1 BX.out).1 (fun h => by have r2 : _ = Wd.heap.size := h; omega)).trans BX.out)
   replace PI := Lib.hid (slO_turn tInt_law PI.out tt (fun b h1 h2 => by have r1 := QI.out b h1; have r2 : _ = Wd.heap.size := h2; omega))
   replace d := Lib.hid (below_turn d.out tt (fun b h => by have r2 : _ = Wd.heap.size := h; omega) (by omega))
   have Z_V4 := Lib.hid (show V3.heap.size ≤ V4.heap.size from tt.size)
   clear yd y0 y1 y2 y3 y4 y5 y6 y7 y8 y9 y10 y11
   replace BV : Hid (V4.heap[Wd.heap.size]? = some (.cells #[.int .i64 id, .slice ua xs.length uc, .int .i64 (now + 1), .int .i64 (-1)] 88 (0, 0))) := Lib.hid r
   clear r tt
   have p_B1_0 := (cell_of_row V4 _ 0 _ _ _ B1.out).trans (show _ = some (Value.int .i64 3) from rfl)
   have p_B1_1 := (cell_of_row V4 _ 1 _ _ _ B1.out).trans (show _ = some (Value.int .i64 id) from rfl)
   have p_B1_2 := (cell_of_row V4 _ 2 _ _ _ B1.out).trans (show _ = some (Value.slice va xs.length vc) from rfl)
   have p_B1_3 := (cell_of_row V4 _ 3 _ _ _ B1.out).trans (show _ = some (Value.int .i64 (fn : Int)) from rfl)
   have p_B1_4 := (cell_of_row V4 _ 4 _ _ _ B1.out).trans (show _ = some (Value.int .i64 x) from rfl)
   have p_BX_0 := (cell_of_row V4 _ 0 _ _ _ BX.out).trans (show _ = some (Value.slice fa ss.length fc) from rfl)
   have p_BX_1 := (cell_of_row V4 _ 1 _ _ _ BX.out).trans (show _ = some (Value.int .i64 (now + 1)) from rfl)
   refine hK.out _ _ ⟨p_B1_0, p_B1_1, p_B1_2, p_B1_3, p_B1_4, p_BX_0, p_BX_1⟩ (fun hHeld => ?_)
   clear p_B1_0 p_B1_1 p_B1_2 p_B1_3 p_B1_4 p_BX_0 p_BX_1
   clear hK K
   try simp only [Act.put, lA, lB, lC]
   refine wpAnyH_done (by kernel_rfl) ?_ _
   clear hHeld
   go_wp2
   go_meet
   have y0 := YW.out
   have y1 := Z_w4.out
   have y2 := Y_X.out
   have y3 := Z_w6.out
   have y4 := Z_w7.out
   have y5 := Z_w8.out
   have y6 := Z_w9.out
   have y7 := Z_w10.out
   have y8 := Z_dr.out
   have y9 := Y_v.out
   have y10 := Y_i.out
   have y11 := Z_V3.out
   have y12 := Z_V4.out
   case rel => exact ⟨_, _, _, _, rfl, BV.out, by omega, (Array.getElem?_eq_some_iff.1 BV.out).1, PI.out, fun q hq => (by have r := QI.out q hq; omega), d.out⟩
 case rest =>
 obtain ⟨V, ua, uc, KV, rfl, bV, yV, yV2, oV, qV, dV⟩ := hcut
 generalize wc = w11 at *
 replace B0 := Lib.hid ((dV.block w.heap.size (Array.getElem?_eq_some_iff.1 B0.out).1).trans B0.out)
 replace B1 := Lib.hid ((dV.block (w.heap.size + 1) (Array.getElem?_eq_some_iff.1 B1.out).1).trans B1.out)
 replace BZ := Lib.hid ((dV.block (w.heap.size + 2) (Array.getElem?_eq_some_iff.1 BZ.out).1).trans BZ.out)
 replace BX := Lib.hid ((dV.block w4.heap.size (Array.getElem?_eq_some_iff.1 BX.out).1).trans BX.out)
 replace PF := Lib.hid (slO_fresh tVersionS_law PF.out dV)
 replace d := Lib.hid (d.out.trans (dV.mono d.out.size))
 have Z_w11 := Lib.hid (show w10.heap.size ≤ w11.heap.size from dV.size)
 have BV := Lib.hid bV
 have YV := Lib.hid yV
 have YV2 := Lib.hid yV2
 have PX := Lib.hid oV
 have QX : Hid (∀ q, KV q → w10.heap.size ≤ q ∧ q < w11.heap.size ∧ q ≠ V) := Lib.hid qV
 clear bV yV yV2 oV qV dV
 obtain ⟨g, gc, q0, qc, xa, xn, hv, hg, cg, hF0, hq0, hn0, c1, hx, hy0, hz0, hput0⟩ := segs_die PF.out HI.out HK.out
 simp only [Value.slice.injEq] at hv
 obtain ⟨rfl, _, rfl⟩ := hv
 rw [← HYS.out] at c1 hx
 rw [← HLI.out] at cg
 have HX := Lib.hid hx
 have HG := Lib.hid hg
 clear hx hF0 hn0 hy0 hz0 hput0
 have hal : Below w11.heap.size w11 (w11.alloc (.cells #[] 3)) := (Below.refl _ _).alloc (Nat.le_refl _) _
 have HAL := Lib.hid hal
 have bxa := (hal.block w4.heap.size (Array.getElem?_eq_some_iff.1 BX.out).1).trans BX.out
 have px0 := (cell_of_row (w11.alloc (.cells #[] 3)) _ 0 _ _ _ bxa).trans (show _ = some (Value.slice (some ⟨g, 0, none⟩) ss.length fc) from rfl)
 have cga := (hal.cell (p := ⟨g, i, none⟩) hg).trans cg
 have c1a := (hal.cell (p := ⟨q0, kx * 4 + 1, none⟩) hq0).trans c1
 clear bxa cg c1 hg hq0
 have E0 := Lib.hid (slO_empty (T := tInt) w11 3 (fun q => w11.heap.size ≤ q) (Nat.le_refl _))
 clear hal
 go_wp2_with (at_builtin; refine append_flat tInt_law flat_int info_T_int Try.underlying22 rfl rfl (.tmp 70) (.tmp 79) rfl (fun q => w11.heap.size ≤ q) (fun q => w11.heap.size ≤ q) _ _ [] ys rfl rfl E0.out (slR_below tInt_law HX.out HAL.out) (fun b h => h) (by simp) (by have h9 := HYN.out; simp only [List.length_nil]; omega) ?_)
 intro v' w12 o1 t1
 obtain ⟨ub, uc2, rfl⟩ := slO_len o1
 have c12 : Below w11.heap.size w11 w12 := below_turn HAL.out t1 (fun b h => h) (by simp [World.size_alloc])
 have PY := Lib.hid (slO_lt tInt_law o1)
 clear px0 cga c1a o1 t1 E0 HAL HX
 replace B0 := Lib.hid ((c12.block w.heap.size (Array.getElem?_eq_some_iff.1 B0.out).1).trans B0.out)
 replace B1 := Lib.hid ((c12.block (w.heap.size + 1) (Array.getElem?_eq_some_iff.1 B1.out).1).trans B1.out)
 replace BZ := Lib.hid ((c12.block (w.heap.size + 2) (Array.getElem?_eq_some_iff.1 BZ.out).1).trans BZ.out)
 replace BX := Lib.hid ((c12.block w4.heap.size (Array.getElem?_eq_some_iff.1 BX.out).1).trans BX.out)
 replace BV := Lib.hid ((c12.block V (Array.getElem?_eq_some_iff.1 BV.out).1).trans BV.out)
 replace PF := Lib.hid (slO_fresh tVersionS_law PF.out c12)
 replace PX := Lib.hid (slO_fresh tInt_law PX.out c12)
 replace d := Lib.hid (d.out.trans (c12.mono d.out.size))
 have Z_w12 := Lib.hid (show w11.heap.size ≤ w12.heap.size from c12.size)
 clear c12
 have QY := Lib.hid (fun q (h : w11.heap.size ≤ q ∧ q < w12.heap.size) => h)
 clear PX QX
 have p_BV_0 := (cell_of_row w12 _ 0 _ _ _ BV.out).trans (show _ = some (Value.int .i64 id) from rfl)
 have p_BV_1 := (cell_of_row w12 _ 1 _ _ _ BV.out).trans (show _ = some (Value.slice ua xs.length uc) from rfl)
 have p_BV_2 := (cell_of_row w12 _ 2 _ _ _ BV.out).trans (show _ = some (Value.int .i64 (now + 1)) from rfl)
 have p_BV_3 := (cell_of_row w12 _ 3 _ _ _ BV.out).trans (show _ = some (Value.int .i64 (-1)) from rfl)
 have f_BV_0 := frozen_of_row w12 _ 0 _ _ BV.out
 have f_BV_1 := frozen_of_row w12 _ 1 _ _ BV.out
 have f_BV_2 := frozen_of_row w12 _ 2 _ _ BV.out
 have f_BV_3 := frozen_of_row w12 _ 3 _ _ BV.out
 go_wp2
 clear p_BV_0 p_BV_1 p_BV_2 p_BV_3 f_BV_0 f_BV_1 f_BV_2 f_BV_3
 have tt : Turn (fun q => q = V) w12 (w12.setCell ⟨V, 1, none⟩ (.slice ub ys.length uc2)) := turn_set (G := fun q => q = V) (g := V) (j := 1) (u := .slice ub ys.length uc2) rfl
 have r := heap_setCell_same w12 (V) 1 _ _ (.slice ub ys.length uc2) BV.out
 simp at r
 generalize (w12.setCell ⟨V, 1, none⟩ (.slice ub ys.length uc2)) = w13 at *
 have y0 := YW.out
 have y1 := Z_w4.out
 have y2 := Y_X.out
 have y3 := Z_w6.out
 have y4 := Z_w7.out
 have y5 := Z_w8.out
 have y6 := Z_w9.out
 have y7 := Z_w10.out
 have y8 := Z_w11.out
 have y9 := YV.out
 have y10 := YV2.out
 have y11 := Z_w12.out
 have yd : w.heap.size ≤ w12.heap.size := d.out.size
 replace B0 := Lib.hid ((tt.block w.heap.size (Array.getElem?_eq_some_iff.1 B0.out).1 (fun h => by have r2 : _ = V := h; omega)).trans B0.out)
 replace B1 := Lib.hid ((tt.block (w.heap.size + 1) (Array.getElem?_eq_some_iff.1 B1.out).1 (fun h => by have r2 : _ = V := h; omega)).trans B1.out)
 replace BZ := Lib.hid ((tt.block (w.heap.size + 2) (Array.getElem?_eq_some_iff.1 BZ.out).1 (fun h => by have r2 : _ = V := h; omega)).trans BZ.out)
 replace BX := Lib.hid ((tt.block w4.heap.size (Array.getElem?_eq_some_iff.1 BX.out).1 (fun h => by have r2 : _ = V := h; omega)).trans BX.out)
 replace PF := Lib.hid (slO_turn tVersionS_law PF.out tt (fun b h1 h2 => by have r1 := QF.out b h1; have r2 : _ = V := h2; omega))
 replace PY := Lib.hid (slO_turn tInt_law PY.out tt (fun b h1 h2 => by have r1 := QY.out b h1; have r2 : _ = V := h2; omega))
 replace d := Lib.hid (below_turn d.out tt (fun b h => by have r2 : _ = V := h; omega) (by omega))
 have Z_w13 := Lib.hid (show w12.heap.size ≤ w13.heap.size from tt.size)
 clear yd y0 y1 y2 y3 y4 y5 y6 y7 y8 y9 y10 y11
 replace BV : Hid (w13.heap[V]? = some (.cells #[.int .i64 id, .slice ub ys.length uc2, .int .i64 (now + 1), .int .i64 (-1)] 88 (0, 0))) := Lib.hid r
 clear r tt
 have p_BX_0 := (cell_of_row w13 _ 0 _ _ _ BX.out).trans (show _ = some (Value.slice (some ⟨g, 0, none⟩) ss.length fc) from rfl)
 have p_BX_1 := (cell_of_row w13 _ 1 _ _ _ BX.out).trans (show _ = some (Value.int .i64 (now + 1)) from rfl)
 refine wp_region_held_drew (S := fun w' => w'.cell? ⟨w4.heap.size, 0, none⟩ = some (Value.slice (some ⟨g, 0, none⟩) ss.length fc) ∧ w'.cell? ⟨w4.heap.size, 1, none⟩ = some (Value.int .i64 (now + 1))) (by kernel_rfl) ⟨p_BX_0, p_BX_1⟩ (fun hHeld => ?_)
 clear p_BX_0 p_BX_1
 have cdr : Below w13.heap.size w13 w13.drew := below_drew (Below.refl _ _)
 replace B0 := Lib.hid ((cdr.block w.heap.size (Array.getElem?_eq_some_iff.1 B0.out).1).trans B0.out)
 replace B1 := Lib.hid ((cdr.block (w.heap.size + 1) (Array.getElem?_eq_some_iff.1 B1.out).1).trans B1.out)
 replace BZ := Lib.hid ((cdr.block (w.heap.size + 2) (Array.getElem?_eq_some_iff.1 BZ.out).1).trans BZ.out)
 replace BX := Lib.hid ((cdr.block w4.heap.size (Array.getElem?_eq_some_iff.1 BX.out).1).trans BX.out)
 replace BV := Lib.hid ((cdr.block V (Array.getElem?_eq_some_iff.1 BV.out).1).trans BV.out)
 replace PF := Lib.hid (slO_fresh tVersionS_law PF.out cdr)
 replace PY := Lib.hid (slO_fresh tInt_law PY.out cdr)
 replace d := Lib.hid (d.out.trans (cdr.mono d.out.size))
 clear cdr
 have Z_dr := Lib.hid (show w13.heap.size ≤ w13.drew.heap.size from Nat.le_refl _)
 generalize w13.drew = Wd at *
 refine tR (i := 0) (v := ?_) ?_ ?_; rotate_left
 ·
  intro w hSw; (try dsimp only at hSw); go_simp; try (with_reducible rfl)
 try simp only [Act.put, lA, lB, lC]
 refine tR (i := 1) (v := ?_) ?_ ?_; rotate_left
 ·
  intro w hSw; (try dsimp only at hSw); go_simp; try (with_reducible rfl)
 try simp only [Act.put, lA, lB, lC]
 refine tR (i := 2) (v := ?_) ?_ ?_; rotate_left
 ·
  intro w hSw; (try dsimp only at hSw); go_simp; try (with_reducible rfl)
 try simp only [Act.put, lA, lB, lC]
 refine tR (i := 3) (v := ?_) ?_ ?_; rotate_left
 ·
  intro w hSw; (try dsimp only at hSw); go_simp; try (with_reducible rfl)
 try simp only [Act.put, lA, lB, lC]
 refine tR (i := 5) (v := ?_) ?_ ?_; rotate_left
 ·
  intro w hSw; (try dsimp only at hSw); go_simp; try (with_reducible rfl)
 try simp only [Act.put, lA, lB, lC]
 refine tR (i := 6) (v := ?_) ?_ ?_; rotate_left
 ·
  intro w hSw; (try dsimp only at hSw); go_simp; try (with_reducible rfl)
 try simp only [Act.put, lA, lB, lC]
 refine tR (i := 7) (v := ?_) ?_ ?_; rotate_left
 ·
  intro w hSw; (try dsimp only at hSw); go_simp; try (with_reducible rfl)
 try simp only [Act.put, lA, lB, lC]
 refine wpAnyH_ready (rs := [4]) (by kernel_rfl) (by simp) ?_
 refine (AllReadyH.cons (o := _) (by simp only [hA, hB, hC]; rfl) (fun K hK => ?_) AllReadyH.nil)
 obtain ⟨g2, gc2, q2, qc2, xa2, xn2, hv2, hg2, cg2, hF2, hq2, hn2, c2, hx2, hy2, hz2, hput2⟩ := segs_die PF.out HI.out HK.out
 simp only [Value.slice.injEq, Option.some.injEq, Addr.mk.injEq] at hv2
 obtain ⟨⟨rfl, _⟩, _, rfl⟩ := hv2
 clear hF2 hq2 hn2 c2 hx2 hy2 hz2 hput2
 rw [← HLI.out] at cg2
 go_simp
 have Q2 : Hid (Wd.cell? ⟨g, i, none⟩ = some (Value.slice (some ⟨q2, 0, none⟩) li.length qc2)) := Lib.hid cg2
 clear cg2 hg2
 have p_BX_0 := (cell_of_row Wd _ 0 _ _ _ BX.out).trans (show _ = some (Value.slice (some ⟨g, 0, none⟩) ss.length fc) from rfl)
 have p_BX_1 := (cell_of_row Wd _ 1 _ _ _ BX.out).trans (show _ = some (Value.int .i64 (now + 1)) from rfl)
 refine hK.out _ _ ⟨p_BX_0, p_BX_1⟩ (fun hHeld => ?_)
 clear p_BX_0 p_BX_1
 clear hK K
 try simp only [Act.put, lA, lB, lC]
 refine tR (i := 8) (v := ?_) ?_ ?_; rotate_left
 ·
  intro w hSw; (try dsimp only at hSw); go_simp; try (with_reducible rfl)
 try simp only [Act.put, lA, lB, lC]
 refine tR (i := 9) (v := ?_) ?_ ?_; rotate_left
 ·
  intro w hSw; (try dsimp only at hSw); go_simp; try (with_reducible rfl)
 try simp only [Act.put, lA, lB, lC]
 refine wpAnyH_ready (rs := [10]) (by kernel_rfl) (by simp) ?_
 refine (AllReadyH.cons (o := _) (by simp only [hA, hB, hC]; rfl) (fun K hK => ?_) AllReadyH.nil)
 obtain ⟨g3, gc3, q3, qc3, xa3, xn3, hv3, hg3, cg3, hF3, hq3, hne3, c3, hx3, ⟨y3, hy3⟩, hz3, hput3⟩ := segs_die PF.out HI.out HK.out
 simp only [Value.slice.injEq, Option.some.injEq, Addr.mk.injEq] at hv3
 obtain ⟨⟨rfl, _⟩, _, rfl⟩ := hv3
 rw [← HLI.out] at cg3
 have hsl := cg3.symm.trans Q2.out
 simp only [Option.some.injEq, Value.slice.injEq, Addr.mk.injEq] at hsl
 obtain ⟨⟨rfl, _⟩, _, rfl⟩ := hsl
 have HP3 := Lib.hid (hput3 (now + 1))
 have r3 := QF.out _ hF3
 have R3 := Lib.hid r3
 clear hput3 r3 c3 hx3
 go_simp
 have tt : Turn (fun q => q = q3) Wd (Wd.setCell ⟨q3, kx * 4 + 3, none⟩ (.int .i64 (now + 1))) := turn_set (G := fun q => q = q3) (g := q3) (j := kx * 4 + 3) (u := .int .i64 (now + 1)) rfl
 generalize (Wd.setCell ⟨q3, kx * 4 + 3, none⟩ (.int .i64 (now + 1))) = w14 at *
 have y0 := YW.out
 have y1 := Z_w4.out
 have y2 := Y_X.out
 have y3 := Z_w6.out
 have y4 := Z_w7.out
 have y5 := Z_w8.out
 have y6 := Z_w9.out
 have y7 := Z_w10.out
 have y8 := Z_w11.out
 have y9 := YV.out
 have y10 := YV2.out
 have y11 := Z_w12.out
 have y12 := Z_w13.out
 have y13 := Z_dr.out
 have yd : w.heap.size ≤ Wd.heap.size := d.out.size
 replace B0 := Lib.hid ((tt.block w.heap.size (Array.getElem?_eq_some_iff.1 B0.out).1 (fun h => by have r2 : _ = q3 := h; have r4 := R3.out; omega)).trans B0.out)
 replace B1 := Lib.hid ((tt.block (w.heap.size + 1) (Array.getElem?_eq_some_iff.1 B1.out).1 (fun h => by have r2 : _ = q3 := h; have r4 := R3.out; omega)).trans B1.out)
 replace BZ := Lib.hid ((tt.block (w.heap.size + 2) (Array.getElem?_eq_some_iff.1 BZ.out).1 (fun h => by have r2 : _ = q3 := h; have r4 := R3.out; omega)).trans BZ.out)
 replace BX := Lib.hid ((tt.block w4.heap.size (Array.getElem?_eq_some_iff.1 BX.out).1 (fun h => by have r2 : _ = q3 := h; have r4 := R3.out; omega)).trans BX.out)
 replace BV := Lib.hid ((tt.block V (Array.getElem?_eq_some_iff.1 BV.out).1 (fun h => by have r2 : _ = q3 := h; have r4 := R3.out; omega)).trans BV.out)
 replace PY := Lib.hid (slO_turn tInt_law PY.out tt (fun b h1 h2 => by have r1 := QY.out b h1; have r2 : _ = q3 := h2; have r4 := R3.out; omega))
 replace d := Lib.hid (below_turn d.out tt (fun b h => by have r2 : _ = q3 := h; have r4 := R3.out; omega) (by omega))
 have Z_w14 := Lib.hid (show Wd.heap.size ≤ w14.heap.size from tt.size)
 clear yd y0 y1 y2 y3 y4 y5 y6 y7 y8 y9 y10 y11 y12 y13
 replace PF := HP3
 clear HP3 tt hy3 hz3 hq3 hne3 hg3 cg3 hF3 Q2
 have p_BX_0 := (cell_of_row w14 _ 0 _ _ _ BX.out).trans (show _ = some (Value.slice (some ⟨g, 0, none⟩) ss.length fc) from rfl)
 have p_BX_1 := (cell_of_row w14 _ 1 _ _ _ BX.out).trans (show _ = some (Value.int .i64 (now + 1)) from rfl)
 refine hK.out _ _ ⟨p_BX_0, p_BX_1⟩ (fun hHeld => ?_)
 clear p_BX_0 p_BX_1
 clear hK K
 try simp only [Act.put, lA, lB, lC]
 refine wpAnyH_done (by kernel_rfl) ?_ _
 clear hHeld
 have hy := PY.out
 obtain ⟨bg, bc, hv5, hF5, hb5, ⟨y5, hy5⟩, hz5, hput5⟩ := ints_poke hy HFN.out
 simp only [Value.slice.injEq] at hv5
 obtain ⟨rfl, _, rfl⟩ := hv5
 have HP5 := Lib.hid (hput5 x)
 have R5 := Lib.hid (QY.out _ hF5)
 clear hy hput5 hF5 hb5
 have y0 := YW.out
 have y1 := Z_w4.out
 have y2 := Y_X.out
 have y3 := Z_w6.out
 have y4 := Z_w7.out
 have y5 := Z_w8.out
 have y6 := Z_w9.out
 have y7 := Z_w10.out
 have y8 := Z_w11.out
 have y9 := YV.out
 have y10 := YV2.out
 have y11 := Z_w12.out
 have y12 := Z_w13.out
 have y13 := Z_dr.out
 have y14 := Z_w14.out
 have r5 := R5.out
 have nb1 : ¬ bg = w.heap.size + 1 := by omega
 have nb2 : ¬ w.heap.size + 1 = bg := by omega
 clear r5 y0 y1 y2 y3 y4 y5 y6 y7 y8 y9 y10 y11 y12 y13 y14
 have p_BV_0 := (cell_of_row w14 _ 0 _ _ _ BV.out).trans (show _ = some (Value.int .i64 id) from rfl)
 have p_BV_1 := (cell_of_row w14 _ 1 _ _ _ BV.out).trans (show _ = some (Value.slice (some ⟨bg, 0, none⟩) ys.length uc2) from rfl)
 have p_BV_2 := (cell_of_row w14 _ 2 _ _ _ BV.out).trans (show _ = some (Value.int .i64 (now + 1)) from rfl)
 have p_BV_3 := (cell_of_row w14 _ 3 _ _ _ BV.out).trans (show _ = some (Value.int .i64 (-1)) from rfl)
 have p_B1_0 := (cell_of_row w14 _ 0 _ _ _ B1.out).trans (show _ = some (Value.int .i64 3) from rfl)
 have p_B1_1 := (cell_of_row w14 _ 1 _ _ _ B1.out).trans (show _ = some (Value.int .i64 id) from rfl)
 have p_B1_2 := (cell_of_row w14 _ 2 _ _ _ B1.out).trans (show _ = some (Value.slice va xs.length vc) from rfl)
 have p_B1_3 := (cell_of_row w14 _ 3 _ _ _ B1.out).trans (show _ = some (Value.int .i64 (fn : Int)) from rfl)
 have p_B1_4 := (cell_of_row w14 _ 4 _ _ _ B1.out).trans (show _ = some (Value.int .i64 x) from rfl)
 go_wp2
 clear hy5 hz5 nb1 nb2 p_BV_0 p_BV_1 p_BV_2 p_BV_3 p_B1_0 p_B1_1 p_B1_2 p_B1_3 p_B1_4
 have tt : Turn (fun q => q = bg) w14 (w14.setCell ⟨bg, fn, none⟩ (.int .i64 x)) := turn_set (G := fun q => q = bg) (g := bg) (j := fn) (u := .int .i64 x) rfl
 generalize (w14.setCell ⟨bg, fn, none⟩ (.int .i64 x)) = w15 at *
 have y0 := YW.out
 have y1 := Z_w4.out
 have y2 := Y_X.out
 have y3 := Z_w6.out
 have y4 := Z_w7.out
 have y5 := Z_w8.out
 have y6 := Z_w9.out
 have y7 := Z_w10.out
 have y8 := Z_w11.out
 have y9 := YV.out
 have y10 := YV2.out
 have y11 := Z_w12.out
 have y12 := Z_w13.out
 have y13 := Z_dr.out
 have y14 := Z_w14.out
 have yd : w.heap.size ≤ w14.heap.size := d.out.size
 replace B0 := Lib.hid ((tt.block w.heap.size (Array.getElem?_eq_some_iff.1 B0.out).1 (fun h => by have r2 : _ = bg := h; have r4 := R5.out; omega)).trans B0.out)
 replace B1 := Lib.hid ((tt.block (w.heap.size + 1) (Array.getElem?_eq_some_iff.1 B1.out).1 (fun h => by have r2 : _ = bg := h; have r4 := R5.out; omega)).trans B1.out)
 replace BZ := Lib.hid ((tt.block (w.heap.size + 2) (Array.getElem?_eq_some_iff.1 BZ.out).1 (fun h => by have r2 : _ = bg := h; have r4 := R5.out; omega)).trans BZ.out)
 replace BX := Lib.hid ((tt.block w4.heap.size (Array.getElem?_eq_some_iff.1 BX.out).1 (fun h => by have r2 : _ = bg := h; have r4 := R5.out; omega)).trans BX.out)
 replace BV := Lib.hid ((tt.block V (Array.getElem?_eq_some_iff.1 BV.out).1 (fun h => by have r2 : _ = bg := h; have r4 := R5.out; omega)).trans BV.out)
 replace PF := Lib.hid (slO_turn tVersionS_law PF.out tt (fun b h1 h2 => by have r1 := QF.out b h1; have r2 : _ = bg := h2; have r4 := R5.out; omega))
 replace d := Lib.hid (below_turn d.out tt (fun b h => by have r2 : _ = bg := h; have r4 := R5.out; omega) (by omega))
 have Z_w15 := Lib.hid (show w14.heap.size ≤ w15.heap.size from tt.size)
 clear yd y0 y1 y2 y3 y4 y5 y6 y7 y8 y9 y10 y11 y12 y13 y14
 replace PY := HP5
 clear HP5 tt
 have y0 := YW.out
 have y1 := Z_w4.out
 have y2 := Y_X.out
 have y3 := Z_w6.out
 have y4 := Z_w7.out
 have y5 := Z_w8.out
 have y6 := Z_w9.out
 have y7 := Z_w10.out
 have y8 := Z_w11.out
 have y9 := YV.out
 have y10 := YV2.out
 have y11 := Z_w12.out
 have y12 := Z_w13.out
 have y13 := Z_dr.out
 have y14 := Z_w14.out
 have y15 := Z_w15.out
 have hD := (show w10.heap.size ≤ w15.heap.size by omega)
 have HW4 := Lib.hid (show w4.heap.size < w10.heap.size by omega)
 have HD := Lib.hid hD
 clear hD y0 y1 y2 y3 y4 y5 y6 y7 y8 y9 y10 y11 y12 y13 y14 y15
 replace PF := Lib.hid (slO_mono PF.out (F' := fun q => (fun q => (W.heap.size ≤ q ∧ q < w4.heap.size) ∨ w10.heap.size ≤ q) q ∧ q < w10.heap.size) (fun q h => (by have r1 := QF.out q h; have r2 := HW4.out; exact ⟨Or.inl r1, by omega⟩)))
 replace QF := Lib.hid (fun q (h : (fun q => (W.heap.size ≤ q ∧ q < w4.heap.size) ∨ w10.heap.size ≤ q) q ∧ q < w10.heap.size) => (show (W.heap.size ≤ q ∧ q < w4.heap.size) ∧ q < w10.heap.size from ⟨h.1.elim (fun e => e) (fun e => absurd h.2 (Nat.not_lt.2 e)), h.2⟩))
 have p_BX_0 := (cell_of_row w15 _ 0 _ _ _ BX.out).trans (show _ = some (Value.slice (some ⟨g, 0, none⟩) ss.length fc) from rfl)
 have p_BX_1 := (cell_of_row w15 _ 1 _ _ _ BX.out).trans (show _ = some (Value.int .i64 (now + 1)) from rfl)
 have p_BV_0 := (cell_of_row w15 _ 0 _ _ _ BV.out).trans (show _ = some (Value.int .i64 id) from rfl)
 have p_BV_1 := (cell_of_row w15 _ 1 _ _ _ BV.out).trans (show _ = some (Value.slice (some ⟨bg, 0, none⟩) ys.length uc2) from rfl)
 have p_BV_2 := (cell_of_row w15 _ 2 _ _ _ BV.out).trans (show _ = some (Value.int .i64 (now + 1)) from rfl)
 have p_BV_3 := (cell_of_row w15 _ 3 _ _ _ BV.out).trans (show _ = some (Value.int .i64 (-1)) from rfl)
 refine wp_region_held_drew (S := fun w' => w'.cell? ⟨w4.heap.size, 0, none⟩ = some (Value.slice (some ⟨g, 0, none⟩) ss.length fc) ∧ w'.cell? ⟨w4.heap.size, 1, none⟩ = some (Value.int .i64 (now + 1)) ∧ w'.cell? ⟨V, 0, none⟩ = some (Value.int .i64 id) ∧ w'.cell? ⟨V, 1, none⟩ = some (Value.slice (some ⟨bg, 0, none⟩) ys.length uc2) ∧ w'.cell? ⟨V, 2, none⟩ = some (Value.int .i64 (now + 1)) ∧ w'.cell? ⟨V, 3, none⟩ = some (Value.int .i64 (-1))) (by kernel_rfl) ⟨p_BX_0, p_BX_1, p_BV_0, p_BV_1, p_BV_2, p_BV_3⟩ (fun hHeld => ?_)
 clear p_BX_0 p_BX_1 p_BV_0 p_BV_1 p_BV_2 p_BV_3
 have cdr : Below w15.heap.size w15 w15.drew := below_drew (Below.refl _ _)
 replace B0 := Lib.hid ((cdr.block w.heap.size (Array.getElem?_eq_some_iff.1 B0.out).1).trans B0.out)
 replace B1 := Lib.hid ((cdr.block (w.heap.size + 1) (Array.getElem?_eq_some_iff.1 B1.out).1).trans B1.out)
 replace BZ := Lib.hid ((cdr.block (w.heap.size + 2) (Array.getElem?_eq_some_iff.1 BZ.out).1).trans BZ.out)
 replace BX := Lib.hid ((cdr.block w4.heap.size (Array.getElem?_eq_some_iff.1 BX.out).1).trans BX.out)
 replace BV := Lib.hid ((cdr.block V (Array.getElem?_eq_some_iff.1 BV.out).1).trans BV.out)
 replace PF := Lib.hid (slO_fresh tVersionS_law PF.out cdr)
 replace PY := Lib.hid (slO_fresh tInt_law PY.out cdr)
 replace d := Lib.hid (d.out.trans (cdr.mono d.out.size))
 clear cdr
 generalize Wd = Wc at *
 have Z_ds := Lib.hid (show w15.heap.size ≤ w15.drew.heap.size from Nat.le_refl _)
 replace HD := Lib.hid (Nat.le_trans HD.out Z_ds.out)
 generalize w15.drew = Wd at *
 obtain ⟨g4, gc4, u4, Fj, hv4, hF4, hg4, c4, hu4, hFj, hput4⟩ := segs_put PF.out HD.out (fun q h => Or.inr h) HR.out
 simp only [Value.slice.injEq, Option.some.injEq, Addr.mk.injEq] at hv4
 first | obtain ⟨rfl, hl4, rfl⟩ := hv4 | obtain ⟨⟨rfl, _⟩, hl4, rfl⟩ := hv4
 clear hl4
 rw [← HLL.out] at hu4
 obtain ⟨sa, sc, rfl⟩ := slO_len hu4
 have C4 := Lib.hid c4
 have G4 : Hid (W.heap.size ≤ g ∧ g < w4.heap.size ∧ g < Wd.heap.size) := Lib.hid (by have r1 := QF.out _ ⟨hF4, hg4⟩; have r2 := HD.out; exact ⟨r1.1.1, r1.1.2, Nat.lt_of_lt_of_le r1.2 r2⟩)
 have U4 := Lib.hid hu4
 have FJ := Lib.hid hFj
 have PUT := Lib.hid hput4
 have EW := Lib.hid (Below.refl Wd.heap.size Wd)
 clear hput4 hFj hu4 c4 hF4 hg4
 refine tR (i := 0) (v := ?_) ?_ ?_; rotate_left
 ·
  intro w hSw; (try dsimp only at hSw); go_simp; try (with_reducible rfl)
 try simp only [Act.put, lA, lB, lC]
 refine tR (i := 1) (v := ?_) ?_ ?_; rotate_left
 ·
  intro w hSw; (try dsimp only at hSw); go_simp; try (with_reducible rfl)
 try simp only [Act.put, lA, lB, lC]
 refine tR (i := 2) (v := ?_) ?_ ?_; rotate_left
 ·
  intro w hSw; (try dsimp only at hSw); go_simp; try (with_reducible rfl)
 try simp only [Act.put, lA, lB, lC]
 refine tR (i := 3) (v := ?_) ?_ ?_; rotate_left
 ·
  intro w hSw; (try dsimp only at hSw); go_simp; try (with_reducible rfl)
 try simp only [Act.put, lA, lB, lC]
 refine tR (i := 4) (v := ?_) ?_ ?_; rotate_left
 ·
  intro w hSw; (try dsimp only at hSw); go_simp; try (with_reducible rfl)
 try simp only [Act.put, lA, lB, lC]
 refine tR (i := 5) (v := ?_) ?_ ?_; rotate_left
 ·
  intro w hSw; (try dsimp only at hSw); go_simp; try (with_reducible rfl)
 try simp only [Act.put, lA, lB, lC]
 refine tR (i := 6) (v := ?_) ?_ ?_; rotate_left
 ·
  intro w hSw; (try dsimp only at hSw); go_simp; try (with_reducible rfl)
 try simp only [Act.put, lA, lB, lC]
 refine tR (i := 8) (v := ?_) ?_ ?_; rotate_left
 ·
  intro w hSw; (try dsimp only at hSw); go_simp; try (with_reducible rfl)
 try simp only [Act.put, lA, lB, lC]
 refine wpAnyH_ready (rs := [7, 9]) (by kernel_rfl) (by simp) ?_
 refine (AllReadyH.cons (o := _) (by simp only [hA, hB, hC]; rfl) (fun K hK => ?_) (AllReadyH.cons (o := _) (by simp only [hA, hB, hC]; rfl) (fun K hK => ?_) AllReadyH.nil))
 ·
  have cg := (EW.out.cell (p := ⟨g, rmi, none⟩) G4.out.2.2).trans C4.out
  go_simp
  clear cg
  have p_BX_0 := (cell_of_row Wd _ 0 _ _ _ BX.out).trans (show _ = some (Value.slice (some ⟨g, 0, none⟩) ss.length fc) from rfl)
  have p_BX_1 := (cell_of_row Wd _ 1 _ _ _ BX.out).trans (show _ = some (Value.int .i64 (now + 1)) from rfl)
  have p_BV_0 := (cell_of_row Wd _ 0 _ _ _ BV.out).trans (show _ = some (Value.int .i64 id) from rfl)
  have p_BV_1 := (cell_of_row Wd _ 1 _ _ _ BV.out).trans (show _ = some (Value.slice (some ⟨bg, 0, none⟩) ys.length uc2) from rfl)
  have p_BV_2 := (cell_of_row Wd _ 2 _ _ _ BV.out).trans (show _ = some (Value.int .i64 (now + 1)) from rfl)
  have p_BV_3 := (cell_of_row Wd _ 3 _ _ _ BV.out).trans (show _ = some (Value.int .i64 (-1)) from rfl)
  refine hK.out _ _ ⟨p_BX_0, p_BX_1, p_BV_0, p_BV_1, p_BV_2, p_BV_3⟩ (fun hHeld => ?_)
  clear p_BX_0 p_BX_1 p_BV_0 p_BV_1 p_BV_2 p_BV_3
  clear hK K
  try simp only [Act.put, lA, lB, lC]
  refine wpAnyH_ready (rs := [9]) (by kernel_rfl) (by simp) ?_
  refine (AllReadyH.cons (o := _) (by simp only [hA, hB, hC]; rfl) (fun K hK => ?_) AllReadyH.nil)
  go_simp
  have hal : Below Wd.heap.size Wd (Wd.alloc (.cells #[.int .i64 id, .slice (some ⟨bg, 0, none⟩) ys.length uc2, .int .i64 (now + 1), .int .i64 (-1)] 88)) := (Below.refl _ _).alloc (Nat.le_refl _) _
  have KB0 := B0
  have KB1 := B1
  have KBZ := BZ
  have KBX := BX
  have KBV := BV
  have KPF := PF
  have KPY := PY
  have Kd := d
  have KEW := EW
  replace B0 := Lib.hid ((hal.block w.heap.size (Array.getElem?_eq_some_iff.1 B0.out).1).trans B0.out)
  replace B1 := Lib.hid ((hal.block (w.heap.size + 1) (Array.getElem?_eq_some_iff.1 B1.out).1).trans B1.out)
  replace BZ := Lib.hid ((hal.block (w.heap.size + 2) (Array.getElem?_eq_some_iff.1 BZ.out).1).trans BZ.out)
  replace BX := Lib.hid ((hal.block w4.heap.size (Array.getElem?_eq_some_iff.1 BX.out).1).trans BX.out)
  replace BV := Lib.hid ((hal.block V (Array.getElem?_eq_some_iff.1 BV.out).1).trans BV.out)
  replace PF := Lib.hid (slO_fresh tVersionS_law PF.out hal)
  replace PY := Lib.hid (slO_fresh tInt_law PY.out hal)
  replace d := Lib.hid (d.out.trans (hal.mono d.out.size))
  replace EW := Lib.hid (EW.out.trans (hal.mono EW.out.size))
  clear hal
  have p_BX_0 := (cell_of_row (Wd.alloc (.cells #[.int .i64 id, .slice (some ⟨bg, 0, none⟩) ys.length uc2, .int .i64 (now + 1), .int .i64 (-1)] 88)) _ 0 _ _ _ BX.out).trans (show _ = some (Value.slice (some ⟨g, 0, none⟩) ss.length fc) from rfl)
  have p_BX_1 := (cell_of_row (Wd.alloc (.cells #[.int .i64 id, .slice (some ⟨bg, 0, none⟩) ys.length uc2, .int .i64 (now + 1), .int .i64 (-1)] 88)) _ 1 _ _ _ BX.out).trans (show _ = some (Value.int .i64 (now + 1)) from rfl)
  have p_BV_0 := (cell_of_row (Wd.alloc (.cells #[.int .i64 id, .slice (some ⟨bg, 0, none⟩) ys.length uc2, .int .i64 (now + 1), .int .i64 (-1)] 88)) _ 0 _ _ _ BV.out).trans (show _ = some (Value.int .i64 id) from rfl)
  have p_BV_1 := (cell_of_row (Wd.alloc (.cells #[.int .i64 id, .slice (some ⟨bg, 0, none⟩) ys.length uc2, .int .i64 (now + 1), .int .i64 (-1)] 88)) _ 1 _ _ _ BV.out).trans (show _ = some (Value.slice (some ⟨bg, 0, none⟩) ys.length uc2) from rfl)
  have p_BV_2 := (cell_of_row (Wd.alloc (.cells #[.int .i64 id, .slice (some ⟨bg, 0, none⟩) ys.length uc2, .int .i64 (now + 1), .int .i64 (-1)] 88)) _ 2 _ _ _ BV.out).trans (show _ = some (Value.int .i64 (now + 1)) from rfl)
  have p_BV_3 := (cell_of_row (Wd.alloc (.cells #[.int .i64 id, .slice (some ⟨bg, 0, none⟩) ys.length uc2, .int .i64 (now + 1), .int .i64 (-1)] 88)) _ 3 _ _ _ BV.out).trans (show _ = some (Value.int .i64 (-1)) from rfl)
  refine hK.out _ _ ⟨p_BX_0, p_BX_1, p_BV_0, p_BV_1, p_BV_2, p_BV_3⟩ (fun hHeld => ?_)
  clear p_BX_0 p_BX_1 p_BV_0 p_BV_1 p_BV_2 p_BV_3
  clear hK K
  try simp only [Act.put, lA, lB, lC]
  refine wpAnyH_ready (rs := [10]) (by kernel_rfl) (by simp) ?_
  refine (AllReadyH.cons (o := _) (by simp only [hA, hB, hC]; rfl) (fun K hK => ?_) AllReadyH.nil)
  have y0 := YW.out
  have y1 := Z_w4.out
  have y2 := Y_X.out
  have y3 := Z_w6.out
  have y4 := Z_w7.out
  have y5 := Z_w8.out
  have y6 := Z_w9.out
  have y7 := Z_w10.out
  have y8 := Z_w11.out
  have y9 := YV.out
  have y10 := YV2.out
  have y11 := Z_w12.out
  have y12 := Z_w13.out
  have y13 := Z_dr.out
  have y14 := Z_w14.out
  have y15 := Z_w15.out
  have y16 := Z_ds.out
  have yw := KEW.out.size
  have yd := Kd.out.size
  have hD := HD.out
  have hw4 := HW4.out
  have hnew : tVersion.O Wd (fun q => w10.heap.size ≤ q) [.int .i64 id, .slice (some ⟨bg, 0, none⟩) ys.length uc2, .int .i64 (now + 1), .int .i64 (-1)] (id, ys.set fn x, now + 1, -1) := tVersion_mkO KPY.out (fun q hq => by have r1 := QY.out q hq; show w10.heap.size ≤ q; omega)
  refine step_append_T tVersion_law info_T_Version Try.underlying89 rfl rfl (.tmp 112) (.tmp 114) rfl (fun q => Fj q ∨ w10.heap.size ≤ q) w10.heap.size _ (l) rfl (slO_mono (slO_fresh tVersion_law U4.out KEW.out) (fun q hq => ⟨Or.inl hq, (FJ.out q hq).2.2⟩)) (by omega) (fun q hq => Or.inr hq) HRL.out [.int .i64 id, .slice (some ⟨bg, 0, none⟩) ys.length uc2, .int .i64 (now + 1), .int .i64 (-1)] (id, ys.set fn x, now + 1, -1) hnew (by simp [Value.oneCell']) 1 _ rfl rfl ?_
  intro v7 w16 oN tN
  obtain ⟨na, nc, rfl⟩ := slO_len oN
  have T16 : Hid (Turn (fun q => Fj q ∨ w10.heap.size ≤ q) Wd w16) := Lib.hid ((turn_below KEW.out).trans (tN.mono (fun q h => h.1)))
  replace B0 := Lib.hid ((tN.block w.heap.size (Array.getElem?_eq_some_iff.1 KB0.out).1 (fun h => by have r3 := h.2; rcases h.1 with r4 | r4; (have r5 := QF.out _ ⟨(FJ.out _ r4).1, (FJ.out _ r4).2.2⟩; omega); omega)).trans KB0.out)
  replace B1 := Lib.hid ((tN.block (w.heap.size + 1) (Array.getElem?_eq_some_iff.1 KB1.out).1 (fun h => by have r3 := h.2; rcases h.1 with r4 | r4; (have r5 := QF.out _ ⟨(FJ.out _ r4).1, (FJ.out _ r4).2.2⟩; omega); omega)).trans KB1.out)
  replace BZ := Lib.hid ((tN.block (w.heap.size + 2) (Array.getElem?_eq_some_iff.1 KBZ.out).1 (fun h => by have r3 := h.2; rcases h.1 with r4 | r4; (have r5 := QF.out _ ⟨(FJ.out _ r4).1, (FJ.out _ r4).2.2⟩; omega); omega)).trans KBZ.out)
  replace BX := Lib.hid ((tN.block w4.heap.size (Array.getElem?_eq_some_iff.1 KBX.out).1 (fun h => by have r3 := h.2; rcases h.1 with r4 | r4; (have r5 := QF.out _ ⟨(FJ.out _ r4).1, (FJ.out _ r4).2.2⟩; omega); omega)).trans KBX.out)
  replace BV := Lib.hid ((tN.block V (Array.getElem?_eq_some_iff.1 KBV.out).1 (fun h => by have r3 := h.2; rcases h.1 with r4 | r4; (have r5 := QF.out _ ⟨(FJ.out _ r4).1, (FJ.out _ r4).2.2⟩; omega); omega)).trans KBV.out)
  replace d := Lib.hid (below_turn Kd.out tN (fun q h => by have r3 := h.2; rcases h.1 with r4 | r4; (have r5 := QF.out _ ⟨(FJ.out _ r4).1, (FJ.out _ r4).2.2⟩; omega); omega) yd)
  have zN := Lib.hid (show Wd.heap.size ≤ w16.heap.size from tN.size)
  have ON := Lib.hid oN
  clear hnew oN tN yd yw hD hw4 EW PF PY KB0 KB1 KBZ KBX KBV KPF KPY Kd KEW y0 y1 y2 y3 y4 y5 y6 y7 y8 y9 y10 y11 y12 y13 y14 y15 y16
  have p_BX_0 := (cell_of_row w16 _ 0 _ _ _ BX.out).trans (show _ = some (Value.slice (some ⟨g, 0, none⟩) ss.length fc) from rfl)
  have p_BX_1 := (cell_of_row w16 _ 1 _ _ _ BX.out).trans (show _ = some (Value.int .i64 (now + 1)) from rfl)
  have p_BV_0 := (cell_of_row w16 _ 0 _ _ _ BV.out).trans (show _ = some (Value.int .i64 id) from rfl)
  have p_BV_1 := (cell_of_row w16 _ 1 _ _ _ BV.out).trans (show _ = some (Value.slice (some ⟨bg, 0, none⟩) ys.length uc2) from rfl)
  have p_BV_2 := (cell_of_row w16 _ 2 _ _ _ BV.out).trans (show _ = some (Value.int .i64 (now + 1)) from rfl)
  have p_BV_3 := (cell_of_row w16 _ 3 _ _ _ BV.out).trans (show _ = some (Value.int .i64 (-1)) from rfl)
  refine hK.out _ _ ⟨p_BX_0, p_BX_1, p_BV_0, p_BV_1, p_BV_2, p_BV_3⟩ (fun hHeld => ?_)
  clear p_BX_0 p_BX_1 p_BV_0 p_BV_1 p_BV_2 p_BV_3
  clear hK K
  try simp only [Act.put, lA, lB, lC]
  refine tR (i := 11) (v := ?_) ?_ ?_; rotate_left
  ·
   intro w hSw; (try dsimp only at hSw); go_simp; try (with_reducible rfl)
  try simp only [Act.put, lA, lB, lC]
  refine wpAnyH_ready (rs := [12]) (by kernel_rfl) (by simp) ?_
  refine (AllReadyH.cons (o := _) (by simp only [hA, hB, hC]; rfl) (fun K hK => ?_) AllReadyH.nil)
  obtain ⟨⟨cw, fw⟩, ow⟩ := PUT.out w16 _ _ T16.out ON.out
  have OW := Lib.hid ow
  clear ow
  have px := HAPL.out
  go_simp
  clear cw fw px
  rw [HAPL.out] at OW
  have tt : Turn (fun q => q = g) w16 (w16.setCell ⟨g, rmi, none⟩ (.slice na ((l).length + 1) nc)) := turn_set (G := fun q => q = g) (g := g) (j := rmi) (u := .slice na ((l).length + 1) nc) rfl
  generalize (w16.setCell ⟨g, rmi, none⟩ (.slice na ((l).length + 1) nc)) = w17 at *
  rw [HLL.out] at OW
  have y0 := YW.out
  have y1 := Z_w4.out
  have y2 := Y_X.out
  have y3 := Z_w6.out
  have y4 := Z_w7.out
  have y5 := Z_w8.out
  have y6 := Z_w9.out
  have y7 := Z_w10.out
  have y8 := Z_w11.out
  have y9 := YV.out
  have y10 := YV2.out
  have y11 := Z_w12.out
  have y12 := Z_w13.out
  have y13 := Z_dr.out
  have y14 := Z_w14.out
  have y15 := Z_w15.out
  have y16 := Z_ds.out
  have y17 := zN.out
  have yd : w.heap.size ≤ w16.heap.size := d.out.size
  replace B0 := Lib.hid ((tt.block w.heap.size (Array.getElem?_eq_some_iff.1 B0.out).1 (fun h => by have r2 : _ = g := h; have r4 := G4.out; omega)).trans B0.out)
  replace B1 := Lib.hid ((tt.block (w.heap.size + 1) (Array.getElem?_eq_some_iff.1 B1.out).1 (fun h => by have r2 : _ = g := h; have r4 := G4.out; omega)).trans B1.out)
  replace BZ := Lib.hid ((tt.block (w.heap.size + 2) (Array.getElem?_eq_some_iff.1 BZ.out).1 (fun h => by have r2 : _ = g := h; have r4 := G4.out; omega)).trans BZ.out)
  replace BX := Lib.hid ((tt.block w4.heap.size (Array.getElem?_eq_some_iff.1 BX.out).1 (fun h => by have r2 : _ = g := h; have r4 := G4.out; omega)).trans BX.out)
  replace BV := Lib.hid ((tt.block V (Array.getElem?_eq_some_iff.1 BV.out).1 (fun h => by have r2 : _ = g := h; have r4 := G4.out; omega)).trans BV.out)
  replace d := Lib.hid (below_turn d.out tt (fun b h => by have r2 : _ = g := h; have r4 := G4.out; omega) (by omega))
  have Z_w17 := Lib.hid (show w16.heap.size ≤ w17.heap.size from tt.size)
  clear yd y0 y1 y2 y3 y4 y5 y6 y7 y8 y9 y10 y11 y12 y13 y14 y15 y16 y17
  have PF := OW
  have QF2 := Lib.hid (fun q (h : (W.heap.size ≤ q ∧ q < w4.heap.size) ∨ w10.heap.size ≤ q) => h)
  clear OW tt QF
  have QF := QF2
  clear QF2
  have p_BX_0 := (cell_of_row w17 _ 0 _ _ _ BX.out).trans (show _ = some (Value.slice (some ⟨g, 0, none⟩) ss.length fc) from rfl)
  have p_BX_1 := (cell_of_row w17 _ 1 _ _ _ BX.out).trans (show _ = some (Value.int .i64 (now + 1)) from rfl)
  have p_BV_0 := (cell_of_row w17 _ 0 _ _ _ BV.out).trans (show _ = some (Value.int .i64 id) from rfl)
  have p_BV_1 := (cell_of_row w17 _ 1 _ _ _ BV.out).trans (show _ = some (Value.slice (some ⟨bg, 0, none⟩) ys.length uc2) from rfl)
  have p_BV_2 := (cell_of_row w17 _ 2 _ _ _ BV.out).trans (show _ = some (Value.int .i64 (now + 1)) from rfl)
  have p_BV_3 := (cell_of_row w17 _ 3 _ _ _ BV.out).trans (show _ = some (Value.int .i64 (-1)) from rfl)
  refine hK.out _ _ ⟨p_BX_0, p_BX_1, p_BV_0, p_BV_1, p_BV_2, p_BV_3⟩ (fun hHeld => ?_)
  clear p_BX_0 p_BX_1 p_BV_0 p_BV_1 p_BV_2 p_BV_3
  clear hK K
  try simp only [Act.put, lA, lB, lC]
  refine wpAnyH_done (by kernel_rfl) ?_ _
  clear hHeld
  clear U4 FJ PUT T16 ON C4
  have p_BX_0 := (cell_of_row w17 _ 0 _ _ _ BX.out).trans (show _ = some (Value.slice (some ⟨g, 0, none⟩) ss.length fc) from rfl)
  have p_BX_1 := (cell_of_row w17 _ 1 _ _ _ BX.out).trans (show _ = some (Value.int .i64 (now + 1)) from rfl)
  have p_BZ_0 := (cell_of_row w17 _ 0 _ _ _ BZ.out).trans (show _ = some (Value.slice none 0 0) from rfl)
  have p_BZ_1 := (cell_of_row w17 _ 1 _ _ _ BZ.out).trans (show _ = some (Value.int .i64 0) from rfl)
  have f_BZ_0 := frozen_of_row w17 _ 0 _ _ BZ.out
  have f_BZ_1 := frozen_of_row w17 _ 1 _ _ BZ.out
  have tt : Turn (fun q => q = w.heap.size + 2) w17 ((w17.setCell ⟨w.heap.size + 2, 0, none⟩ (.slice (some ⟨g, 0, none⟩) ss.length fc)).setCell ⟨w.heap.size + 2, 1, none⟩ (.int .i64 (now + 1))) := ((Turn.refl (fun q => q = w.heap.size + 2) _).trans (turn_set (G := fun q => q = w.heap.size + 2) (g := w.heap.size + 2) (j := 0) (u := .slice (some ⟨g, 0, none⟩) ss.length fc) rfl)).trans (turn_set (G := fun q => q = w.heap.size + 2) (g := w.heap.size + 2) (j := 1) (u := .int .i64 (now + 1)) rfl)
  have r := heap_setCell_same _ (w.heap.size + 2) 1 _ _ (.int .i64 (now + 1)) (heap_setCell_same w17 (w.heap.size + 2) 0 _ _ (.slice (some ⟨g, 0, none⟩) ss.length fc) BZ.out)
  have e0 := cell_of_row _ _ 0 _ _ _ r
  have e1 := cell_of_row _ _ 1 _ _ _ r
  simp at e0 e1
  have y0 := YW.out
  have y1 := Z_w4.out
  have y2 := Y_X.out
  have y3 := Z_w6.out
  have y4 := Z_w7.out
  have y5 := Z_w8.out
  have y6 := Z_w9.out
  have y7 := Z_w10.out
  have y8 := Z_w11.out
  have y9 := YV.out
  have y10 := YV2.out
  have y11 := Z_w12.out
  have y12 := Z_w13.out
  have y13 := Z_dr.out
  have y14 := Z_w14.out
  have y15 := Z_w15.out
  have y16 := Z_ds.out
  have y17 := zN.out
  have y18 := Z_w17.out
  have DF := Lib.hid (below_turn d.out tt (fun q h => by omega) d.out.size)
  have PE := Lib.hid (slO_turn tVersionS_law PF.out tt (fun q h1 h2 => by have r1 := QF.out q h1; omega))
  have QE := Lib.hid (fun q h => (show w.heap.size ≤ q by have r1 := QF.out q h; omega))
  clear tt r y0 y1 y2 y3 y4 y5 y6 y7 y8 y9 y10 y11 y12 y13 y14 y15 y16 y17 y18
  go_wp2
  refine bodyPost_ret (v := .tuple #[.agg #[.slice (some ⟨g, 0, none⟩) ss.length fc, .int .i64 (now + 1)], .bool true]) ?_ rfl ?_
  ·
   simp [results, Try.f15, go_sem, e0, e1]
  ·
   exact ⟨[.slice (some ⟨g, 0, none⟩) ss.length fc, .int .i64 (now + 1)], _, rfl, tStore_mkO PE.out (fun q h => h), QE.out, DF.out⟩
 ·
  go_simp
  have hal : Below Wd.heap.size Wd (Wd.alloc (.cells #[.int .i64 id, .slice (some ⟨bg, 0, none⟩) ys.length uc2, .int .i64 (now + 1), .int .i64 (-1)] 88)) := (Below.refl _ _).alloc (Nat.le_refl _) _
  have KB0 := B0
  have KB1 := B1
  have KBZ := BZ
  have KBX := BX
  have KBV := BV
  have KPF := PF
  have KPY := PY
  have Kd := d
  have KEW := EW
  replace B0 := Lib.hid ((hal.block w.heap.size (Array.getElem?_eq_some_iff.1 B0.out).1).trans B0.out)
  replace B1 := Lib.hid ((hal.block (w.heap.size + 1) (Array.getElem?_eq_some_iff.1 B1.out).1).trans B1.out)
  replace BZ := Lib.hid ((hal.block (w.heap.size + 2) (Array.getElem?_eq_some_iff.1 BZ.out).1).trans BZ.out)
  replace BX := Lib.hid ((hal.block w4.heap.size (Array.getElem?_eq_some_iff.1 BX.out).1).trans BX.out)
  replace BV := Lib.hid ((hal.block V (Array.getElem?_eq_some_iff.1 BV.out).1).trans BV.out)
  replace PF := Lib.hid (slO_fresh tVersionS_law PF.out hal)
  replace PY := Lib.hid (slO_fresh tInt_law PY.out hal)
  replace d := Lib.hid (d.out.trans (hal.mono d.out.size))
  replace EW := Lib.hid (EW.out.trans (hal.mono EW.out.size))
  clear hal
  have p_BX_0 := (cell_of_row (Wd.alloc (.cells #[.int .i64 id, .slice (some ⟨bg, 0, none⟩) ys.length uc2, .int .i64 (now + 1), .int .i64 (-1)] 88)) _ 0 _ _ _ BX.out).trans (show _ = some (Value.slice (some ⟨g, 0, none⟩) ss.length fc) from rfl)
  have p_BX_1 := (cell_of_row (Wd.alloc (.cells #[.int .i64 id, .slice (some ⟨bg, 0, none⟩) ys.length uc2, .int .i64 (now + 1), .int .i64 (-1)] 88)) _ 1 _ _ _ BX.out).trans (show _ = some (Value.int .i64 (now + 1)) from rfl)
  have p_BV_0 := (cell_of_row (Wd.alloc (.cells #[.int .i64 id, .slice (some ⟨bg, 0, none⟩) ys.length uc2, .int .i64 (now + 1), .int .i64 (-1)] 88)) _ 0 _ _ _ BV.out).trans (show _ = some (Value.int .i64 id) from rfl)
  have p_BV_1 := (cell_of_row (Wd.alloc (.cells #[.int .i64 id, .slice (some ⟨bg, 0, none⟩) ys.length uc2, .int .i64 (now + 1), .int .i64 (-1)] 88)) _ 1 _ _ _ BV.out).trans (show _ = some (Value.slice (some ⟨bg, 0, none⟩) ys.length uc2) from rfl)
  have p_BV_2 := (cell_of_row (Wd.alloc (.cells #[.int .i64 id, .slice (some ⟨bg, 0, none⟩) ys.length uc2, .int .i64 (now + 1), .int .i64 (-1)] 88)) _ 2 _ _ _ BV.out).trans (show _ = some (Value.int .i64 (now + 1)) from rfl)
  have p_BV_3 := (cell_of_row (Wd.alloc (.cells #[.int .i64 id, .slice (some ⟨bg, 0, none⟩) ys.length uc2, .int .i64 (now + 1), .int .i64 (-1)] 88)) _ 3 _ _ _ BV.out).trans (show _ = some (Value.int .i64 (-1)) from rfl)
  refine hK.out _ _ ⟨p_BX_0, p_BX_1, p_BV_0, p_BV_1, p_BV_2, p_BV_3⟩ (fun hHeld => ?_)
  clear p_BX_0 p_BX_1 p_BV_0 p_BV_1 p_BV_2 p_BV_3
  clear hK K
  try simp only [Act.put, lA, lB, lC]
  refine wpAnyH_ready (rs := [7]) (by kernel_rfl) (by simp) ?_
  refine (AllReadyH.cons (o := _) (by simp only [hA, hB, hC]; rfl) (fun K hK => ?_) AllReadyH.nil)
  have cg := (EW.out.cell (p := ⟨g, rmi, none⟩) G4.out.2.2).trans C4.out
  go_simp
  clear cg
  have p_BX_0 := (cell_of_row (Wd.alloc (.cells #[.int .i64 id, .slice (some ⟨bg, 0, none⟩) ys.length uc2, .int .i64 (now + 1), .int .i64 (-1)] 88)) _ 0 _ _ _ BX.out).trans (show _ = some (Value.slice (some ⟨g, 0, none⟩) ss.length fc) from rfl)
  have p_BX_1 := (cell_of_row (Wd.alloc (.cells #[.int .i64 id, .slice (some ⟨bg, 0, none⟩) ys.length uc2, .int .i64 (now + 1), .int .i64 (-1)] 88)) _ 1 _ _ _ BX.out).trans (show _ = some (Value.int .i64 (now + 1)) from rfl)
  have p_BV_0 := (cell_of_row (Wd.alloc (.cells #[.int .i64 id, .slice (some ⟨bg, 0, none⟩) ys.length uc2, .int .i64 (now + 1), .int .i64 (-1)] 88)) _ 0 _ _ _ BV.out).trans (show _ = some (Value.int .i64 id) from rfl)
  have p_BV_1 := (cell_of_row (Wd.alloc (.cells #[.int .i64 id, .slice (some ⟨bg, 0, none⟩) ys.length uc2, .int .i64 (now + 1), .int .i64 (-1)] 88)) _ 1 _ _ _ BV.out).trans (show _ = some (Value.slice (some ⟨bg, 0, none⟩) ys.length uc2) from rfl)
  have p_BV_2 := (cell_of_row (Wd.alloc (.cells #[.int .i64 id, .slice (some ⟨bg, 0, none⟩) ys.length uc2, .int .i64 (now + 1), .int .i64 (-1)] 88)) _ 2 _ _ _ BV.out).trans (show _ = some (Value.int .i64 (now + 1)) from rfl)
  have p_BV_3 := (cell_of_row (Wd.alloc (.cells #[.int .i64 id, .slice (some ⟨bg, 0, none⟩) ys.length uc2, .int .i64 (now + 1), .int .i64 (-1)] 88)) _ 3 _ _ _ BV.out).trans (show _ = some (Value.int .i64 (-1)) from rfl)
  refine hK.out _ _ ⟨p_BX_0, p_BX_1, p_BV_0, p_BV_1, p_BV_2, p_BV_3⟩ (fun hHeld => ?_)
  clear p_BX_0 p_BX_1 p_BV_0 p_BV_1 p_BV_2 p_BV_3
  clear hK K
  try simp only [Act.put, lA, lB, lC]
  refine wpAnyH_ready (rs := [10]) (by kernel_rfl) (by simp) ?_
  refine (AllReadyH.cons (o := _) (by simp only [hA, hB, hC]; rfl) (fun K hK => ?_) AllReadyH.nil)
  have y0 := YW.out
  have y1 := Z_w4.out
  have y2 := Y_X.out
  have y3 := Z_w6.out
  have y4 := Z_w7.out
  have y5 := Z_w8.out
  have y6 := Z_w9.out
  have y7 := Z_w10.out
  have y8 := Z_w11.out
  have y9 := YV.out
  have y10 := YV2.out
  have y11 := Z_w12.out
  have y12 := Z_w13.out
  have y13 := Z_dr.out
  have y14 := Z_w14.out
  have y15 := Z_w15.out
  have y16 := Z_ds.out
  have yw := KEW.out.size
  have yd := Kd.out.size
  have hD := HD.out
  have hw4 := HW4.out
  have hnew : tVersion.O Wd (fun q => w10.heap.size ≤ q) [.int .i64 id, .slice (some ⟨bg, 0, none⟩) ys.length uc2, .int .i64 (now + 1), .int .i64 (-1)] (id, ys.set fn x, now + 1, -1) := tVersion_mkO KPY.out (fun q hq => by have r1 := QY.out q hq; show w10.heap.size ≤ q; omega)
  refine step_append_T tVersion_law info_T_Version Try.underlying89 rfl rfl (.tmp 112) (.tmp 114) rfl (fun q => Fj q ∨ w10.heap.size ≤ q) w10.heap.size _ (l) rfl (slO_mono (slO_fresh tVersion_law U4.out KEW.out) (fun q hq => ⟨Or.inl hq, (FJ.out q hq).2.2⟩)) (by omega) (fun q hq => Or.inr hq) HRL.out [.int .i64 id, .slice (some ⟨bg, 0, none⟩) ys.length uc2, .int .i64 (now + 1), .int .i64 (-1)] (id, ys.set fn x, now + 1, -1) hnew (by simp [Value.oneCell']) 1 _ rfl rfl ?_
  intro v7 w16 oN tN
  obtain ⟨na, nc, rfl⟩ := slO_len oN
  have T16 : Hid (Turn (fun q => Fj q ∨ w10.heap.size ≤ q) Wd w16) := Lib.hid ((turn_below KEW.out).trans (tN.mono (fun q h => h.1)))
  replace B0 := Lib.hid ((tN.block w.heap.size (Array.getElem?_eq_some_iff.1 KB0.out).1 (fun h => by have r3 := h.2; rcases h.1 with r4 | r4; (have r5 := QF.out _ ⟨(FJ.out _ r4).1, (FJ.out _ r4).2.2⟩; omega); omega)).trans KB0.out)
  replace B1 := Lib.hid ((tN.block (w.heap.size + 1) (Array.getElem?_eq_some_iff.1 KB1.out).1 (fun h => by have r3 := h.2; rcases h.1 with r4 | r4; (have r5 := QF.out _ ⟨(FJ.out _ r4).1, (FJ.out _ r4).2.2⟩; omega); omega)).trans KB1.out)
  replace BZ := Lib.hid ((tN.block (w.heap.size + 2) (Array.getElem?_eq_some_iff.1 KBZ.out).1 (fun h => by have r3 := h.2; rcases h.1 with r4 | r4; (have r5 := QF.out _ ⟨(FJ.out _ r4).1, (FJ.out _ r4).2.2⟩; omega); omega)).trans KBZ.out)
  replace BX := Lib.hid ((tN.block w4.heap.size (Array.getElem?_eq_some_iff.1 KBX.out).1 (fun h => by have r3 := h.2; rcases h.1 with r4 | r4; (have r5 := QF.out _ ⟨(FJ.out _ r4).1, (FJ.out _ r4).2.2⟩; omega); omega)).trans KBX.out)
  replace BV := Lib.hid ((tN.block V (Array.getElem?_eq_some_iff.1 KBV.out).1 (fun h => by have r3 := h.2; rcases h.1 with r4 | r4; (have r5 := QF.out _ ⟨(FJ.out _ r4).1, (FJ.out _ r4).2.2⟩; omega); omega)).trans KBV.out)
  replace d := Lib.hid (below_turn Kd.out tN (fun q h => by have r3 := h.2; rcases h.1 with r4 | r4; (have r5 := QF.out _ ⟨(FJ.out _ r4).1, (FJ.out _ r4).2.2⟩; omega); omega) yd)
  have zN := Lib.hid (show Wd.heap.size ≤ w16.heap.size from tN.size)
  have ON := Lib.hid oN
  clear hnew oN tN yd yw hD hw4 EW PF PY KB0 KB1 KBZ KBX KBV KPF KPY Kd KEW y0 y1 y2 y3 y4 y5 y6 y7 y8 y9 y10 y11 y12 y13 y14 y15 y16
  have p_BX_0 := (cell_of_row w16 _ 0 _ _ _ BX.out).trans (show _ = some (Value.slice (some ⟨g, 0, none⟩) ss.length fc) from rfl)
  have p_BX_1 := (cell_of_row w16 _ 1 _ _ _ BX.out).trans (show _ = some (Value.int .i64 (now + 1)) from rfl)
  have p_BV_0 := (cell_of_row w16 _ 0 _ _ _ BV.out).trans (show _ = some (Value.int .i64 id) from rfl)
  have p_BV_1 := (cell_of_row w16 _ 1 _ _ _ BV.out).trans (show _ = some (Value.slice (some ⟨bg, 0, none⟩) ys.length uc2) from rfl)
  have p_BV_2 := (cell_of_row w16 _ 2 _ _ _ BV.out).trans (show _ = some (Value.int .i64 (now + 1)) from rfl)
  have p_BV_3 := (cell_of_row w16 _ 3 _ _ _ BV.out).trans (show _ = some (Value.int .i64 (-1)) from rfl)
  refine hK.out _ _ ⟨p_BX_0, p_BX_1, p_BV_0, p_BV_1, p_BV_2, p_BV_3⟩ (fun hHeld => ?_)
  clear p_BX_0 p_BX_1 p_BV_0 p_BV_1 p_BV_2 p_BV_3
  clear hK K
  try simp only [Act.put, lA, lB, lC]
  refine tR (i := 11) (v := ?_) ?_ ?_; rotate_left
  ·
   intro w hSw; (try dsimp only at hSw); go_simp; try (with_reducible rfl)
  try simp only [Act.put, lA, lB, lC]
  refine wpAnyH_ready (rs := [12]) (by kernel_rfl) (by simp) ?_
  refine (AllReadyH.cons (o := _) (by simp only [hA, hB, hC]; rfl) (fun K hK => ?_) AllReadyH.nil)
  obtain ⟨⟨cw, fw⟩, ow⟩ := PUT.out w16 _ _ T16.out ON.out
  have OW := Lib.hid ow
  clear ow
  have px := HAPL.out
  go_simp
  clear cw fw px
  rw [HAPL.out] at OW
  have tt : Turn (fun q => q = g) w16 (w16.setCell ⟨g, rmi, none⟩ (.slice na ((l).length + 1) nc)) := turn_set (G := fun q => q = g) (g := g) (j := rmi) (u := .slice na ((l).length + 1) nc) rfl
  generalize (w16.setCell ⟨g, rmi, none⟩ (.slice na ((l).length + 1) nc)) = w17 at *
  rw [HLL.out] at OW
  have y0 := YW.out
  have y1 := Z_w4.out
  have y2 := Y_X.out
  have y3 := Z_w6.out
  have y4 := Z_w7.out
  have y5 := Z_w8.out
  have y6 := Z_w9.out
  have y7 := Z_w10.out
  have y8 := Z_w11.out
  have y9 := YV.out
  have y10 := YV2.out
  have y11 := Z_w12.out
  have y12 := Z_w13.out
  have y13 := Z_dr.out
  have y14 := Z_w14.out
  have y15 := Z_w15.out
  have y16 := Z_ds.out
  have y17 := zN.out
  have yd : w.heap.size ≤ w16.heap.size := d.out.size
  replace B0 := Lib.hid ((tt.block w.heap.size (Array.getElem?_eq_some_iff.1 B0.out).1 (fun h => by have r2 : _ = g := h; have r4 := G4.out; omega)).trans B0.out)
  replace B1 := Lib.hid ((tt.block (w.heap.size + 1) (Array.getElem?_eq_some_iff.1 B1.out).1 (fun h => by have r2 : _ = g := h; have r4 := G4.out; omega)).trans B1.out)
  replace BZ := Lib.hid ((tt.block (w.heap.size + 2) (Array.getElem?_eq_some_iff.1 BZ.out).1 (fun h => by have r2 : _ = g := h; have r4 := G4.out; omega)).trans BZ.out)
  replace BX := Lib.hid ((tt.block w4.heap.size (Array.getElem?_eq_some_iff.1 BX.out).1 (fun h => by have r2 : _ = g := h; have r4 := G4.out; omega)).trans BX.out)
  replace BV := Lib.hid ((tt.block V (Array.getElem?_eq_some_iff.1 BV.out).1 (fun h => by have r2 : _ = g := h; have r4 := G4.out; omega)).trans BV.out)
  replace d := Lib.hid (below_turn d.out tt (fun b h => by have r2 : _ = g := h; have r4 := G4.out; omega) (by omega))
  have Z_w17 := Lib.hid (show w16.heap.size ≤ w17.heap.size from tt.size)
  clear yd y0 y1 y2 y3 y4 y5 y6 y7 y8 y9 y10 y11 y12 y13 y14 y15 y16 y17
  have PF := OW
  have QF2 := Lib.hid (fun q (h : (W.heap.size ≤ q ∧ q < w4.heap.size) ∨ w10.heap.size ≤ q) => h)
  clear OW tt QF
  have QF := QF2
  clear QF2
  have p_BX_0 := (cell_of_row w17 _ 0 _ _ _ BX.out).trans (show _ = some (Value.slice (some ⟨g, 0, none⟩) ss.length fc) from rfl)
  have p_BX_1 := (cell_of_row w17 _ 1 _ _ _ BX.out).trans (show _ = some (Value.int .i64 (now + 1)) from rfl)
  have p_BV_0 := (cell_of_row w17 _ 0 _ _ _ BV.out).trans (show _ = some (Value.int .i64 id) from rfl)
  have p_BV_1 := (cell_of_row w17 _ 1 _ _ _ BV.out).trans (show _ = some (Value.slice (some ⟨bg, 0, none⟩) ys.length uc2) from rfl)
  have p_BV_2 := (cell_of_row w17 _ 2 _ _ _ BV.out).trans (show _ = some (Value.int .i64 (now + 1)) from rfl)
  have p_BV_3 := (cell_of_row w17 _ 3 _ _ _ BV.out).trans (show _ = some (Value.int .i64 (-1)) from rfl)
  refine hK.out _ _ ⟨p_BX_0, p_BX_1, p_BV_0, p_BV_1, p_BV_2, p_BV_3⟩ (fun hHeld => ?_)
  clear p_BX_0 p_BX_1 p_BV_0 p_BV_1 p_BV_2 p_BV_3
  clear hK K
  try simp only [Act.put, lA, lB, lC]
  refine wpAnyH_done (by kernel_rfl) ?_ _
  clear hHeld
  clear U4 FJ PUT T16 ON C4
  have p_BX_0 := (cell_of_row w17 _ 0 _ _ _ BX.out).trans (show _ = some (Value.slice (some ⟨g, 0, none⟩) ss.length fc) from rfl)
  have p_BX_1 := (cell_of_row w17 _ 1 _ _ _ BX.out).trans (show _ = some (Value.int .i64 (now + 1)) from rfl)
  have p_BZ_0 := (cell_of_row w17 _ 0 _ _ _ BZ.out).trans (show _ = some (Value.slice none 0 0) from rfl)
  have p_BZ_1 := (cell_of_row w17 _ 1 _ _ _ BZ.out).trans (show _ = some (Value.int .i64 0) from rfl)
  have f_BZ_0 := frozen_of_row w17 _ 0 _ _ BZ.out
  have f_BZ_1 := frozen_of_row w17 _ 1 _ _ BZ.out
  have tt : Turn (fun q => q = w.heap.size + 2) w17 ((w17.setCell ⟨w.heap.size + 2, 0, none⟩ (.slice (some ⟨g, 0, none⟩) ss.length fc)).setCell ⟨w.heap.size + 2, 1, none⟩ (.int .i64 (now + 1))) := ((Turn.refl (fun q => q = w.heap.size + 2) _).trans (turn_set (G := fun q => q = w.heap.size + 2) (g := w.heap.size + 2) (j := 0) (u := .slice (some ⟨g, 0, none⟩) ss.length fc) rfl)).trans (turn_set (G := fun q => q = w.heap.size + 2) (g := w.heap.size + 2) (j := 1) (u := .int .i64 (now + 1)) rfl)
  have r := heap_setCell_same _ (w.heap.size + 2) 1 _ _ (.int .i64 (now + 1)) (heap_setCell_same w17 (w.heap.size + 2) 0 _ _ (.slice (some ⟨g, 0, none⟩) ss.length fc) BZ.out)
  have e0 := cell_of_row _ _ 0 _ _ _ r
  have e1 := cell_of_row _ _ 1 _ _ _ r
  simp at e0 e1
  have y0 := YW.out
  have y1 := Z_w4.out
  have y2 := Y_X.out
  have y3 := Z_w6.out
  have y4 := Z_w7.out
  have y5 := Z_w8.out
  have y6 := Z_w9.out
  have y7 := Z_w10.out
  have y8 := Z_w11.out
  have y9 := YV.out
  have y10 := YV2.out
  have y11 := Z_w12.out
  have y12 := Z_w13.out
  have y13 := Z_dr.out
  have y14 := Z_w14.out
  have y15 := Z_w15.out
  have y16 := Z_ds.out
  have y17 := zN.out
  have y18 := Z_w17.out
  have DF := Lib.hid (below_turn d.out tt (fun q h => by omega) d.out.size)
  have PE := Lib.hid (slO_turn tVersionS_law PF.out tt (fun q h1 h2 => by have r1 := QF.out q h1; omega))
  have QE := Lib.hid (fun q h => (show w.heap.size ≤ q by have r1 := QF.out q h; omega))
  clear tt r y0 y1 y2 y3 y4 y5 y6 y7 y8 y9 y10 y11 y12 y13 y14 y15 y16 y17 y18
  go_wp2
  refine bodyPost_ret (v := .tuple #[.agg #[.slice (some ⟨g, 0, none⟩) ss.length fc, .int .i64 (now + 1)], .bool true]) ?_ rfl ?_
  ·
   simp [results, Try.f15, go_sem, e0, e1]
  ·
   exact ⟨[.slice (some ⟨g, 0, none⟩) ss.length fc, .int .i64 (now + 1)], _, rfl, tStore_mkO PE.out (fun q h => h), QE.out, DF.out⟩
theorem specApplyUpdate (k id f x now : Int) (sv vv : Value) (ss : List (List VerD)) (xs : List Int) (w : World) (h : SlR tVersionS w sv ss) (hs : zL tVersionS ss ≤ 1048576) (g : SlR tInt w vv xs) (hn : xs.length ≤ 1048576) :
  Calls Try.prog 15 #[.agg #[sv, .int .i64 now], .agg #[.int .i64 k, .int .i64 id, vv, .int .i64 f, .int .i64 x]] w (FreshNew w (applyB (ss, now) (k, (id, xs), f, x))) := by
 cases h1 : storeB ss now with
 | false => exact specApply_noStore k id f x now sv vv ss xs w h hs g hn h1
 | true =>
  cases h2 : updB (k, (id, xs), f, x) with
  | false => exact specApply_noUpd k id f x now sv vv ss xs w h hs g hn h1 h2
  | true =>
   by_cases h3 : now < 100000
   ·
    have hk : k = 1 ∨ k = 2 ∨ k = 3 := by
     rcases upd_cases h2 with q | q | q
     ·
      exact Or.inl q.1
     ·
      exact Or.inr (Or.inl q.1)
     ·
      exact Or.inr (Or.inr q.1)
    rcases hk with rfl | rfl | rfl
    ·
     by_cases hsg : segI ss id < ss.length
     ·
      exact specApply_insThere id f x now sv vv ss xs w h hs g hn h1 h2 h3 hsg
     ·
      by_cases hrm : roomI ss < ss.length
      ·
       exact specApply_ins id f x now sv vv ss xs w h hs g hn h1 h2 h3 hsg hrm
      ·
       exact specApply_insFull id f x now sv vv ss xs w h hs g hn h1 h2 h3 hsg hrm
    ·
     by_cases hsg : segI ss id < ss.length
     ·
      exact specApply_del id f x now sv vv ss xs w h hs g hn h1 h2 h3 hsg
     ·
      exact specApply_delNone id f x now sv vv ss xs w h hs g hn h1 h2 h3 hsg
    ·
     by_cases hsg : segI ss id < ss.length
     ·
      by_cases hrm : roomI ss < ss.length
      ·
       exact specApply_set id f x now sv vv ss xs w h hs g hn h1 h2 h3 hsg hrm
      ·
       exact specApply_setFull id f x now sv vv ss xs w h hs g hn h1 h2 h3 hsg hrm
     ·
      exact specApply_setNone id f x now sv vv ss xs w h hs g hn h1 h2 h3 hsg
   ·
    exact specApply_noTime k id f x now sv vv ss xs w h hs g hn h1 h2 h3
end Go.Proofs.Ythiiaiholcfhhaa
