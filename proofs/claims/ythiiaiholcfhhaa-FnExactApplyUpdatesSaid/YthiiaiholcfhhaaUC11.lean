/-
 Texts of the proof, merged: UpdP6, UpdFit.
-/
import Derived.Test.YthiiaiholcfhhaaUC4
import Derived.Test.YthiiaiholcfhhaaUC8
import Derived.Test.YthiiaiholcfhhaaUC9
import Derived.Test.YthiiaiholcfhhaaUC10
namespace Go.Proofs.Ythiiaiholcfhhaa
open Go.RowKit
set_option linter.unusedVariables false
set_option linter.unusedSimpArgs false
theorem applys_one (s : StoreD) (u : UpdD) : applysB s [u] = ((applyB s u).1, if (applyB s u).2 then 1 else 0) := rfl
theorem one_slR {w : World} {b : Nat} {k id f x : Int} {vv : Value} {xs : List Int} {t : TypeId} (h : w.heap[b]? = some (.cells #[.int .i64 k, .int .i64 id, vv, .int .i64 f, .int .i64 x] t (0, 0))) (g : SlR tInt w vv xs) :
  SlR tUpdate w (.slice (some ⟨b, 0, none⟩) 1 1) [(k, (id, xs), f, x)] := by
 refine Or.inr ⟨b, 0, 1, fun _ => [.int .i64 k, .int .i64 id, vv, .int .i64 f, .int .i64 x], rfl, by simp, (Array.getElem?_eq_some_iff.1 h).1, fun j hj => ?_⟩
 obtain rfl : j = 0 := by simpa using hj
 refine ⟨fun i hi => ?_, tUpdate_mkR g⟩
 have hi2 : i < 5 := hi
 have e := cell_of_row w b i _ _ _ h
 rw [show (0 : Nat) + 0 * tUpdate.n + i = i by omega, e]
 simp
set_option maxHeartbeats 16000000 in
set_option maxRecDepth 100000 in
theorem implApplyUpdate (now k id f x : Int) (sv vv : Value) (ss : List (List VerD)) (xs : List Int) (w : World) (h : SlR tVersionS w sv ss) (hs : zL tVersionS ss ≤ 1048576) (g : SlR tInt w vv xs) (hx : xs.length ≤ 1048576) :
  Calls Try.prog 17 #[.agg #[sv, .int .i64 now], .agg #[.int .i64 k, .int .i64 id, vv, .int .i64 f, .int .i64 x]] w (FreshNew w (applyB (ss, now) (k, (id, xs), f, x))) := by
 obtain ⟨a, cap, rfl⟩ := slR_len h
 obtain ⟨ua, uc, rfl⟩ := slR_len g
 obtain ⟨⟨⟨s2, m2⟩, is⟩, hap⟩ : ∃ p, p = applyB (ss, now) (k, (id, xs), f, x) := ⟨_, rfl⟩
 have HC : Hid (∀ (W : World) (lv : Value), SlR tVersionS W (.slice a ss.length cap) ss → SlR tUpdate W lv [(k, (id, xs), f, x)] → Calls Try.prog 25 #[.agg #[.slice a ss.length cap, .int .i64 now], lv] W (FreshNI W ((s2, m2), if is then 1 else 0))) := Lib.hid (fun W lv h g => by
  have r := implApplyUpdatesL now (.slice a ss.length cap) lv ss [(k, (id, xs), f, x)] W h hs g (by simp) (fun j hj => by have e : j = 0 := Nat.lt_one_iff.1 hj; subst e; exact hx)
  rw [applys_one, ← hap] at r
  exact r)
 rw [← hap]
 clear hap
 have H := Lib.hid h
 have G := Lib.hid g
 clear h g hs hx
 cases is with
 | false =>
  have d := Lib.hid (show Below w.heap.size w (((w.alloc (.cells #[.slice a ss.length cap, .int .i64 now] 41)).alloc (.cells #[.int .i64 k, .int .i64 id, .slice ua xs.length uc, .int .i64 f, .int .i64 x] 31)).alloc (.cells #[.slice none 0 0, .int .i64 0] 41)) from (((Below.refl _ _).alloc (Nat.le_refl _) _).alloc (by simp <;> omega) _).alloc (by simp <;> omega) _)
  have B0 : Hid ((((w.alloc (.cells #[.slice a ss.length cap, .int .i64 now] 41)).alloc (.cells #[.int .i64 k, .int .i64 id, .slice ua xs.length uc, .int .i64 f, .int .i64 x] 31)).alloc (.cells #[.slice none 0 0, .int .i64 0] 41)).heap[w.heap.size]? = some (.cells #[.slice a ss.length cap, .int .i64 now] 41 (0, 0))) := Lib.hid (by
   rw [Below.heap_alloc _ _ _ (by simp <;> omega), Below.heap_alloc _ _ _ (by simp <;> omega)]; exact heap_alloc_new w (.cells #[.slice a ss.length cap, .int .i64 now] 41))
  have B1 : Hid ((((w.alloc (.cells #[.slice a ss.length cap, .int .i64 now] 41)).alloc (.cells #[.int .i64 k, .int .i64 id, .slice ua xs.length uc, .int .i64 f, .int .i64 x] 31)).alloc (.cells #[.slice none 0 0, .int .i64 0] 41)).heap[(w.heap.size + 1)]? = some (.cells #[.int .i64 k, .int .i64 id, .slice ua xs.length uc, .int .i64 f, .int .i64 x] 31 (0, 0))) := Lib.hid (by
   rw [Below.heap_alloc _ _ _ (by simp <;> omega)]; have := heap_alloc_new (w.alloc (.cells #[.slice a ss.length cap, .int .i64 now] 41)) (.cells #[.int .i64 k, .int .i64 id, .slice ua xs.length uc, .int .i64 f, .int .i64 x] 31)
   simpa only [World.size_alloc] using this)
  have BZ : Hid ((((w.alloc (.cells #[.slice a ss.length cap, .int .i64 now] 41)).alloc (.cells #[.int .i64 k, .int .i64 id, .slice ua xs.length uc, .int .i64 f, .int .i64 x] 31)).alloc (.cells #[.slice none 0 0, .int .i64 0] 41)).heap[(w.heap.size + 2)]? = some (.cells #[.slice none 0 0, .int .i64 0] 41 (0, 0))) := Lib.hid (by
   have := heap_alloc_new ((w.alloc (.cells #[.slice a ss.length cap, .int .i64 now] 41)).alloc (.cells #[.int .i64 k, .int .i64 id, .slice ua xs.length uc, .int .i64 f, .int .i64 x] 31)) (.cells #[.slice none 0 0, .int .i64 0] 41)
   simpa only [World.size_alloc] using this)
  have YW : Hid (w.heap.size + 2 < (((w.alloc (.cells #[.slice a ss.length cap, .int .i64 now] 41)).alloc (.cells #[.int .i64 k, .int .i64 id, .slice ua xs.length uc, .int .i64 f, .int .i64 x] 31)).alloc (.cells #[.slice none 0 0, .int .i64 0] 41)).heap.size) := Lib.hid (by simp)
  go_enter Try.func17, Try.ntmps17
  go_upto_region 1 with fail
  generalize (((w.alloc (.cells #[.slice a ss.length cap, .int .i64 now] 41)).alloc (.cells #[.int .i64 k, .int .i64 id, .slice ua xs.length uc, .int .i64 f, .int .i64 x] 31)).alloc (.cells #[.slice none 0 0, .int .i64 0] 41)) = W at *
  have hal : Below W.heap.size W (W.alloc (.cells #[.int .i64 k, .int .i64 id, .slice ua xs.length uc, .int .i64 f, .int .i64 x] 31)) := (Below.refl _ _).alloc (Nat.le_refl _) _
  have BL := Lib.hid (heap_alloc_new W (.cells #[.int .i64 k, .int .i64 id, .slice ua xs.length uc, .int .i64 f, .int .i64 x] 31))
  have YL := Lib.hid (show W.heap.size < (W.alloc (.cells #[.int .i64 k, .int .i64 id, .slice ua xs.length uc, .int .i64 f, .int .i64 x] 31)).heap.size by simp [World.size_alloc])
  have p_B0_0 := (cell_of_row W _ 0 _ _ _ B0.out).trans (show _ = some (Value.slice a ss.length cap) from rfl)
  have p_B0_1 := (cell_of_row W _ 1 _ _ _ B0.out).trans (show _ = some (Value.int .i64 now) from rfl)
  have p_B1_0 := (cell_of_row W _ 0 _ _ _ B1.out).trans (show _ = some (Value.int .i64 k) from rfl)
  have p_B1_1 := (cell_of_row W _ 1 _ _ _ B1.out).trans (show _ = some (Value.int .i64 id) from rfl)
  have p_B1_2 := (cell_of_row W _ 2 _ _ _ B1.out).trans (show _ = some (Value.slice ua xs.length uc) from rfl)
  have p_B1_3 := (cell_of_row W _ 3 _ _ _ B1.out).trans (show _ = some (Value.int .i64 f) from rfl)
  have p_B1_4 := (cell_of_row W _ 4 _ _ _ B1.out).trans (show _ = some (Value.int .i64 x) from rfl)
  go_wp2_with fail
  clear p_B0_0 p_B0_1 p_B1_0 p_B1_1 p_B1_2 p_B1_3 p_B1_4
  replace B0 := Lib.hid ((hal.block w.heap.size (Array.getElem?_eq_some_iff.1 B0.out).1).trans B0.out)
  replace B1 := Lib.hid ((hal.block (w.heap.size + 1) (Array.getElem?_eq_some_iff.1 B1.out).1).trans B1.out)
  replace BZ := Lib.hid ((hal.block (w.heap.size + 2) (Array.getElem?_eq_some_iff.1 BZ.out).1).trans BZ.out)
  replace d := Lib.hid (d.out.trans (hal.mono d.out.size))
  clear hal
  generalize (W.alloc (.cells #[.int .i64 k, .int .i64 id, .slice ua xs.length uc, .int .i64 f, .int .i64 x] 31)) = W4 at *
  refine (HC.out W4 _ (slR_below tVersionS_law H.out d.out) (one_slR BL.out (slR_below tInt_law G.out d.out))).mono ?_
  rintro e w5 ⟨g0, G0, rfl, o5, q5, c5⟩
  simp only at o5
  obtain ⟨va, F5, rfl, o6, hF5⟩ := tStore_O o5
  obtain ⟨fa, fc, rfl⟩ := slO_len o6
  clear o5
  replace B0 := Lib.hid ((c5.block w.heap.size (Array.getElem?_eq_some_iff.1 B0.out).1).trans B0.out)
  replace B1 := Lib.hid ((c5.block (w.heap.size + 1) (Array.getElem?_eq_some_iff.1 B1.out).1).trans B1.out)
  replace BZ := Lib.hid ((c5.block (w.heap.size + 2) (Array.getElem?_eq_some_iff.1 BZ.out).1).trans BZ.out)
  replace d := Lib.hid (d.out.trans (c5.mono d.out.size))
  have Z_w5 := Lib.hid (show W4.heap.size ≤ w5.heap.size from c5.size)
  have PF := Lib.hid (slO_lt tVersionS_law o6)
  have QF := Lib.hid (fun q (h : F5 q ∧ q < w5.heap.size) => (show W4.heap.size ≤ q ∧ q < w5.heap.size from ⟨q5 q (hF5 q h.1), h.2⟩))
  clear o6 q5 c5 hF5
  skip
  have hal : Below w5.heap.size w5 (w5.alloc (.cells #[.slice fa s2.length fc, .int .i64 m2] 41)) := (Below.refl _ _).alloc (Nat.le_refl _) _
  have BR := Lib.hid (heap_alloc_new w5 (.cells #[.slice fa s2.length fc, .int .i64 m2] 41))
  have YR := Lib.hid (show w5.heap.size < (w5.alloc (.cells #[.slice fa s2.length fc, .int .i64 m2] 41)).heap.size by simp [World.size_alloc])
  go_upto_region 2 with fail
  replace B0 := Lib.hid ((hal.block w.heap.size (Array.getElem?_eq_some_iff.1 B0.out).1).trans B0.out)
  replace B1 := Lib.hid ((hal.block (w.heap.size + 1) (Array.getElem?_eq_some_iff.1 B1.out).1).trans B1.out)
  replace BZ := Lib.hid ((hal.block (w.heap.size + 2) (Array.getElem?_eq_some_iff.1 BZ.out).1).trans BZ.out)
  replace PF := Lib.hid (slO_fresh tVersionS_law PF.out hal)
  replace d := Lib.hid (d.out.trans (hal.mono d.out.size))
  clear hal
  generalize (w5.alloc (.cells #[.slice fa s2.length fc, .int .i64 m2] 41)) = w6 at *
  have p_BR_0 := (cell_of_row w6 _ 0 _ _ _ BR.out).trans (show _ = some (Value.slice fa s2.length fc) from rfl)
  have p_BR_1 := (cell_of_row w6 _ 1 _ _ _ BR.out).trans (show _ = some (Value.int .i64 m2) from rfl)
  have p_BZ_0 := (cell_of_row w6 _ 0 _ _ _ BZ.out).trans (show _ = some (Value.slice none 0 0) from rfl)
  have p_BZ_1 := (cell_of_row w6 _ 1 _ _ _ BZ.out).trans (show _ = some (Value.int .i64 0) from rfl)
  have f_BZ_0 := frozen_of_row w6 _ 0 _ _ BZ.out
  have f_BZ_1 := frozen_of_row w6 _ 1 _ _ BZ.out
  have tt : Turn (fun q => q = w.heap.size + 2) w6 ((w6.setCell ⟨w.heap.size + 2, 0, none⟩ (.slice fa s2.length fc)).setCell ⟨w.heap.size + 2, 1, none⟩ (.int .i64 m2)) := ((Turn.refl (fun q => q = w.heap.size + 2) _).trans (turn_set (G := fun q => q = w.heap.size + 2) (g := w.heap.size + 2) (j := 0) (u := .slice fa s2.length fc) rfl)).trans (turn_set (G := fun q => q = w.heap.size + 2) (g := w.heap.size + 2) (j := 1) (u := .int .i64 m2) rfl)
  have r := heap_setCell_same _ (w.heap.size + 2) 1 _ _ (.int .i64 m2) (heap_setCell_same w6 (w.heap.size + 2) 0 _ _ (.slice fa s2.length fc) BZ.out)
  have e0 := cell_of_row _ _ 0 _ _ _ r
  have e1 := cell_of_row _ _ 1 _ _ _ r
  simp at e0 e1
  have y0 := YW.out
  have y1 := YL.out
  have y2 := Z_w5.out
  have y3 := YR.out
  have DF := Lib.hid (below_turn d.out tt (fun q h => by omega) d.out.size)
  have PE := Lib.hid (slO_turn tVersionS_law PF.out tt (fun q h1 h2 => by have r1 := QF.out q h1; omega))
  have QE := Lib.hid (fun q h => (show w.heap.size ≤ q by have r1 := QF.out q h; omega))
  clear tt r y0 y1 y2 y3
  go_wp2
  refine bodyPost_ret (v := .tuple #[.agg #[.slice fa s2.length fc, .int .i64 m2], .bool false]) ?_ rfl ?_
  ·
   simp [results, Try.f17, go_sem, e0, e1]
  ·
   exact ⟨[.slice fa s2.length fc, .int .i64 m2], _, rfl, tStore_mkO PE.out (fun q h => h), QE.out, DF.out⟩
 | true =>
  have d := Lib.hid (show Below w.heap.size w (((w.alloc (.cells #[.slice a ss.length cap, .int .i64 now] 41)).alloc (.cells #[.int .i64 k, .int .i64 id, .slice ua xs.length uc, .int .i64 f, .int .i64 x] 31)).alloc (.cells #[.slice none 0 0, .int .i64 0] 41)) from (((Below.refl _ _).alloc (Nat.le_refl _) _).alloc (by simp <;> omega) _).alloc (by simp <;> omega) _)
  have B0 : Hid ((((w.alloc (.cells #[.slice a ss.length cap, .int .i64 now] 41)).alloc (.cells #[.int .i64 k, .int .i64 id, .slice ua xs.length uc, .int .i64 f, .int .i64 x] 31)).alloc (.cells #[.slice none 0 0, .int .i64 0] 41)).heap[w.heap.size]? = some (.cells #[.slice a ss.length cap, .int .i64 now] 41 (0, 0))) := Lib.hid (by
   rw [Below.heap_alloc _ _ _ (by simp <;> omega), Below.heap_alloc _ _ _ (by simp <;> omega)]; exact heap_alloc_new w (.cells #[.slice a ss.length cap, .int .i64 now] 41))
  have B1 : Hid ((((w.alloc (.cells #[.slice a ss.length cap, .int .i64 now] 41)).alloc (.cells #[.int .i64 k, .int .i64 id, .slice ua xs.length uc, .int .i64 f, .int .i64 x] 31)).alloc (.cells #[.slice none 0 0, .int .i64 0] 41)).heap[(w.heap.size + 1)]? = some (.cells #[.int .i64 k, .int .i64 id, .slice ua xs.length uc, .int .i64 f, .int .i64 x] 31 (0, 0))) := Lib.hid (by
   rw [Below.heap_alloc _ _ _ (by simp <;> omega)]; have := heap_alloc_new (w.alloc (.cells #[.slice a ss.length cap, .int .i64 now] 41)) (.cells #[.int .i64 k, .int .i64 id, .slice ua xs.length uc, .int .i64 f, .int .i64 x] 31)
   simpa only [World.size_alloc] using this)
  have BZ : Hid ((((w.alloc (.cells #[.slice a ss.length cap, .int .i64 now] 41)).alloc (.cells #[.int .i64 k, .int .i64 id, .slice ua xs.length uc, .int .i64 f, .int .i64 x] 31)).alloc (.cells #[.slice none 0 0, .int .i64 0] 41)).heap[(w.heap.size + 2)]? = some (.cells #[.slice none 0 0, .int .i64 0] 41 (0, 0))) := Lib.hid (by
   have := heap_alloc_new ((w.alloc (.cells #[.slice a ss.length cap, .int .i64 now] 41)).alloc (.cells #[.int .i64 k, .int .i64 id, .slice ua xs.length uc, .int .i64 f, .int .i64 x] 31)) (.cells #[.slice none 0 0, .int .i64 0] 41)
   simpa only [World.size_alloc] using this)
  have YW : Hid (w.heap.size + 2 < (((w.alloc (.cells #[.slice a ss.length cap, .int .i64 now] 41)).alloc (.cells #[.int .i64 k, .int .i64 id, .slice ua xs.length uc, .int .i64 f, .int .i64 x] 31)).alloc (.cells #[.slice none 0 0, .int .i64 0] 41)).heap.size) := Lib.hid (by simp)
  go_enter Try.func17, Try.ntmps17
  go_upto_region 1 with fail
  generalize (((w.alloc (.cells #[.slice a ss.length cap, .int .i64 now] 41)).alloc (.cells #[.int .i64 k, .int .i64 id, .slice ua xs.length uc, .int .i64 f, .int .i64 x] 31)).alloc (.cells #[.slice none 0 0, .int .i64 0] 41)) = W at *
  have hal : Below W.heap.size W (W.alloc (.cells #[.int .i64 k, .int .i64 id, .slice ua xs.length uc, .int .i64 f, .int .i64 x] 31)) := (Below.refl _ _).alloc (Nat.le_refl _) _
  have BL := Lib.hid (heap_alloc_new W (.cells #[.int .i64 k, .int .i64 id, .slice ua xs.length uc, .int .i64 f, .int .i64 x] 31))
  have YL := Lib.hid (show W.heap.size < (W.alloc (.cells #[.int .i64 k, .int .i64 id, .slice ua xs.length uc, .int .i64 f, .int .i64 x] 31)).heap.size by simp [World.size_alloc])
  have p_B0_0 := (cell_of_row W _ 0 _ _ _ B0.out).trans (show _ = some (Value.slice a ss.length cap) from rfl)
  have p_B0_1 := (cell_of_row W _ 1 _ _ _ B0.out).trans (show _ = some (Value.int .i64 now) from rfl)
  have p_B1_0 := (cell_of_row W _ 0 _ _ _ B1.out).trans (show _ = some (Value.int .i64 k) from rfl)
  have p_B1_1 := (cell_of_row W _ 1 _ _ _ B1.out).trans (show _ = some (Value.int .i64 id) from rfl)
  have p_B1_2 := (cell_of_row W _ 2 _ _ _ B1.out).trans (show _ = some (Value.slice ua xs.length uc) from rfl)
  have p_B1_3 := (cell_of_row W _ 3 _ _ _ B1.out).trans (show _ = some (Value.int .i64 f) from rfl)
  have p_B1_4 := (cell_of_row W _ 4 _ _ _ B1.out).trans (show _ = some (Value.int .i64 x) from rfl)
  go_wp2_with fail
  clear p_B0_0 p_B0_1 p_B1_0 p_B1_1 p_B1_2 p_B1_3 p_B1_4
  replace B0 := Lib.hid ((hal.block w.heap.size (Array.getElem?_eq_some_iff.1 B0.out).1).trans B0.out)
  replace B1 := Lib.hid ((hal.block (w.heap.size + 1) (Array.getElem?_eq_some_iff.1 B1.out).1).trans B1.out)
  replace BZ := Lib.hid ((hal.block (w.heap.size + 2) (Array.getElem?_eq_some_iff.1 BZ.out).1).trans BZ.out)
  replace d := Lib.hid (d.out.trans (hal.mono d.out.size))
  clear hal
  generalize (W.alloc (.cells #[.int .i64 k, .int .i64 id, .slice ua xs.length uc, .int .i64 f, .int .i64 x] 31)) = W4 at *
  refine (HC.out W4 _ (slR_below tVersionS_law H.out d.out) (one_slR BL.out (slR_below tInt_law G.out d.out))).mono ?_
  rintro e w5 ⟨g0, G0, rfl, o5, q5, c5⟩
  simp only at o5
  obtain ⟨va, F5, rfl, o6, hF5⟩ := tStore_O o5
  obtain ⟨fa, fc, rfl⟩ := slO_len o6
  clear o5
  replace B0 := Lib.hid ((c5.block w.heap.size (Array.getElem?_eq_some_iff.1 B0.out).1).trans B0.out)
  replace B1 := Lib.hid ((c5.block (w.heap.size + 1) (Array.getElem?_eq_some_iff.1 B1.out).1).trans B1.out)
  replace BZ := Lib.hid ((c5.block (w.heap.size + 2) (Array.getElem?_eq_some_iff.1 BZ.out).1).trans BZ.out)
  replace d := Lib.hid (d.out.trans (c5.mono d.out.size))
  have Z_w5 := Lib.hid (show W4.heap.size ≤ w5.heap.size from c5.size)
  have PF := Lib.hid (slO_lt tVersionS_law o6)
  have QF := Lib.hid (fun q (h : F5 q ∧ q < w5.heap.size) => (show W4.heap.size ≤ q ∧ q < w5.heap.size from ⟨q5 q (hF5 q h.1), h.2⟩))
  clear o6 q5 c5 hF5
  skip
  have hal : Below w5.heap.size w5 (w5.alloc (.cells #[.slice fa s2.length fc, .int .i64 m2] 41)) := (Below.refl _ _).alloc (Nat.le_refl _) _
  have BR := Lib.hid (heap_alloc_new w5 (.cells #[.slice fa s2.length fc, .int .i64 m2] 41))
  have YR := Lib.hid (show w5.heap.size < (w5.alloc (.cells #[.slice fa s2.length fc, .int .i64 m2] 41)).heap.size by simp [World.size_alloc])
  go_upto_region 2 with fail
  replace B0 := Lib.hid ((hal.block w.heap.size (Array.getElem?_eq_some_iff.1 B0.out).1).trans B0.out)
  replace B1 := Lib.hid ((hal.block (w.heap.size + 1) (Array.getElem?_eq_some_iff.1 B1.out).1).trans B1.out)
  replace BZ := Lib.hid ((hal.block (w.heap.size + 2) (Array.getElem?_eq_some_iff.1 BZ.out).1).trans BZ.out)
  replace PF := Lib.hid (slO_fresh tVersionS_law PF.out hal)
  replace d := Lib.hid (d.out.trans (hal.mono d.out.size))
  clear hal
  generalize (w5.alloc (.cells #[.slice fa s2.length fc, .int .i64 m2] 41)) = w6 at *
  have p_BR_0 := (cell_of_row w6 _ 0 _ _ _ BR.out).trans (show _ = some (Value.slice fa s2.length fc) from rfl)
  have p_BR_1 := (cell_of_row w6 _ 1 _ _ _ BR.out).trans (show _ = some (Value.int .i64 m2) from rfl)
  have p_BZ_0 := (cell_of_row w6 _ 0 _ _ _ BZ.out).trans (show _ = some (Value.slice none 0 0) from rfl)
  have p_BZ_1 := (cell_of_row w6 _ 1 _ _ _ BZ.out).trans (show _ = some (Value.int .i64 0) from rfl)
  have f_BZ_0 := frozen_of_row w6 _ 0 _ _ BZ.out
  have f_BZ_1 := frozen_of_row w6 _ 1 _ _ BZ.out
  have tt : Turn (fun q => q = w.heap.size + 2) w6 ((w6.setCell ⟨w.heap.size + 2, 0, none⟩ (.slice fa s2.length fc)).setCell ⟨w.heap.size + 2, 1, none⟩ (.int .i64 m2)) := ((Turn.refl (fun q => q = w.heap.size + 2) _).trans (turn_set (G := fun q => q = w.heap.size + 2) (g := w.heap.size + 2) (j := 0) (u := .slice fa s2.length fc) rfl)).trans (turn_set (G := fun q => q = w.heap.size + 2) (g := w.heap.size + 2) (j := 1) (u := .int .i64 m2) rfl)
  have r := heap_setCell_same _ (w.heap.size + 2) 1 _ _ (.int .i64 m2) (heap_setCell_same w6 (w.heap.size + 2) 0 _ _ (.slice fa s2.length fc) BZ.out)
  have e0 := cell_of_row _ _ 0 _ _ _ r
  have e1 := cell_of_row _ _ 1 _ _ _ r
  simp at e0 e1
  have y0 := YW.out
  have y1 := YL.out
  have y2 := Z_w5.out
  have y3 := YR.out
  have DF := Lib.hid (below_turn d.out tt (fun q h => by omega) d.out.size)
  have PE := Lib.hid (slO_turn tVersionS_law PF.out tt (fun q h1 h2 => by have r1 := QF.out q h1; omega))
  have QE := Lib.hid (fun q h => (show w.heap.size ≤ q by have r1 := QF.out q h; omega))
  clear tt r y0 y1 y2 y3
  go_wp2
  refine bodyPost_ret (v := .tuple #[.agg #[.slice fa s2.length fc, .int .i64 m2], .bool true]) ?_ rfl ?_
  ·
   simp [results, Try.f17, go_sem, e0, e1]
  ·
   exact ⟨[.slice fa s2.length fc, .int .i64 m2], _, rfl, tStore_mkO PE.out (fun q h => h), QE.out, DF.out⟩
def fitU (n : Nat) (r : StoreD) : StoreD := if n ≤ 1048576 then r else ([], 0)
theorem fitU_yes {n : Nat} {r : StoreD} (h : n ≤ 1048576) : fitU n r = r := if_pos h
theorem empty_size : tStore.sz (([], 0) : StoreD) ≤ 1048576 := by rw [tStore_sz]; decide
theorem apps_size (ss : List (List VerD)) (now : Int) (l : List UpdD) : tStore.sz (fitU (zL tVersionS ss) (applysB (ss, now) l).1) ≤ 1048576 := by
 unfold fitU
 split
 ·
  rename_i h
  have r := applys_small (s := (ss, now)) (l := l) h (Nat.le_refl _)
  rw [applys_all] at r
  generalize (applysB (ss, now) l).1 = p at *
  obtain ⟨p1, p2⟩ := p
  rw [tStore_sz]; exact r
 ·
  exact empty_size
theorem app_size (ss : List (List VerD)) (now : Int) (u : UpdD) : tStore.sz (fitU (zL tVersionS ss) (applyB (ss, now) u).1) ≤ 1048576 := by
 have r := apps_size ss now [u]
 rw [applys_one] at r
 exact r
theorem fitSpecOne (ss : List (List VerD)) (now : Int) (k id f x : Int) (xs : List Int) (sv vv : Value) (w : World) (h : SlR tVersionS w sv ss) (g : SlR tInt w vv xs) (hz : zL tVersionS ss + zL tInt xs ≤ 1048576) :
  Calls Try.prog 15 #[.agg #[sv, .int .i64 now], .agg #[.int .i64 k, .int .i64 id, vv, .int .i64 f, .int .i64 x]] w (fun e w' => ∃ (g0 : List Value) (G0 : Nat → Prop), e = .returned (.tuple #[.agg g0.toArray, .bool (applyB (ss, now) (k, (id, xs), f, x)).2]) ∧ tStore.O w' G0 g0 (fitU (zL tVersionS ss) (applyB (ss, now) (k, (id, xs), f, x)).1) ∧ (∀ b, G0 b → w.heap.size ≤ b) ∧ Below w.heap.size w w') := by
 rw [fitU_yes (by omega)]
 have e := zL_ints xs
 exact specApplyUpdate k id f x now sv vv ss xs w h (by omega) g (by omega)
theorem fitImplOne (ss : List (List VerD)) (now : Int) (k id f x : Int) (xs : List Int) (sv vv : Value) (w : World) (h : SlR tVersionS w sv ss) (g : SlR tInt w vv xs) (hz : zL tVersionS ss + zL tInt xs ≤ 1048576) :
  Calls Try.prog 17 #[.agg #[sv, .int .i64 now], .agg #[.int .i64 k, .int .i64 id, vv, .int .i64 f, .int .i64 x]] w (fun e w' => ∃ (g0 : List Value) (G0 : Nat → Prop), e = .returned (.tuple #[.agg g0.toArray, .bool (applyB (ss, now) (k, (id, xs), f, x)).2]) ∧ tStore.O w' G0 g0 (fitU (zL tVersionS ss) (applyB (ss, now) (k, (id, xs), f, x)).1) ∧ (∀ b, G0 b → w.heap.size ≤ b) ∧ Below w.heap.size w w') := by
 rw [fitU_yes (by omega)]
 have e := zL_ints xs
 exact implApplyUpdate now k id f x sv vv ss xs w h (by omega) g (by omega)
theorem fitSpecAll (ss : List (List VerD)) (now : Int) (l : List UpdD) (sv lv : Value) (w : World) (h : SlR tVersionS w sv ss) (g : SlR tUpdate w lv l) (hz : zL tVersionS ss + zL tUpdate l ≤ 1048576) :
  Calls Try.prog 23 #[.agg #[sv, .int .i64 now], lv] w (fun e w' => ∃ (g0 : List Value) (G0 : Nat → Prop), e = .returned (.tuple #[.agg g0.toArray, .int .i64 (applysB (ss, now) l).2]) ∧ tStore.O w' G0 g0 (fitU (zL tVersionS ss) (applysB (ss, now) l).1) ∧ (∀ b, G0 b → w.heap.size ≤ b) ∧ Below w.heap.size w w') := by
 rw [fitU_yes (by omega)]
 exact specApplyUpdates now sv lv ss l w h (by omega) g (by omega)
theorem fitImplAll (ss : List (List VerD)) (now : Int) (l : List UpdD) (sv lv : Value) (w : World) (h : SlR tVersionS w sv ss) (g : SlR tUpdate w lv l) (hz : zL tVersionS ss + zL tUpdate l ≤ 1048576) :
  Calls Try.prog 25 #[.agg #[sv, .int .i64 now], lv] w (fun e w' => ∃ (g0 : List Value) (G0 : Nat → Prop), e = .returned (.tuple #[.agg g0.toArray, .int .i64 (applysB (ss, now) l).2]) ∧ tStore.O w' G0 g0 (fitU (zL tVersionS ss) (applysB (ss, now) l).1) ∧ (∀ b, G0 b → w.heap.size ≤ b) ∧ Below w.heap.size w w') := by
 rw [fitU_yes (by omega)]
 exact implApplyUpdates now sv lv ss l w h (by omega) g (by omega)
end Go.Proofs.Ythiiaiholcfhhaa
