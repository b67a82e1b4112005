/-
 Texts of the proof, merged: UpdP2, UpdP5.
-/
import Derived.Test.YthiiaiholcfhhaaUC1
import Derived.Test.YthiiaiholcfhhaaUC2
import Derived.Test.YthiiaiholcfhhaaUC8
import Derived.Test.YthiiaiholcfhhaaUC9
import Derived.Deep.Cut
namespace Go.Proofs.Ythiiaiholcfhhaa
open Go.RowKit
set_option linter.unusedVariables false
set_option linter.unusedSimpArgs false
/-- The change that an update is. -/
def changeV (u : UpdD) (vv : Value) : Value :=
 if u.1 = 1 then .iface 114 (.agg #[.int .i64 u.2.1.1, vv]) else if u.1 = 2 then .iface 116 (.agg #[.int .i64 u.2.1.1]) else .iface 118 (.agg #[.int .i64 u.2.1.1, .int .i64 u.2.2.1, .int .i64 u.2.2.2])
def FreshC (w : World) (u : UpdD) (vv : Value) (e : Ending) (w' : World) : Prop := e = .returned (.tuple #[if updB u then changeV u vv else .nilIface, .bool (updB u)]) ∧ Below w.heap.size w w'
theorem freshC_no {w w' : World} {u : UpdD} {vv : Value} (h : updB u = false) (b : Below w.heap.size w w') : FreshC w u vv (.returned (.tuple #[.nilIface, .bool false])) w' := ⟨by rw [h]; rfl, b⟩
theorem freshC_yes {w w' : World} {u : UpdD} {vv x : Value} (h : updB u = true) (hx : changeV u vv = x) (b : Below w.heap.size w w') : FreshC w u vv (.returned (.tuple #[x, .bool true])) w' := ⟨by rw [h, if_pos rfl, hx], b⟩
set_option maxHeartbeats 16000000 in
set_option maxRecDepth 100000 in
theorem changeOf_ins (id f x : Int) (vv : Value) (xs : List Int) (w : World) (h : Ints w vv xs) (hn : xs.length ≤ 1048576) :
  Calls Try.prog 45 #[.agg #[.int .i64 1, .int .i64 id, vv, .int .i64 f, .int .i64 x]] w (FreshC w (1, (id, xs), f, x) vv) := by
 obtain ⟨va, vc, rfl⟩ := ints_len h
 have H := Lib.hid h
 clear h
 have HV := Lib.hid (fun W h => insValid id (.slice va xs.length vc) xs W h hn)
 have HE := Lib.hid (fun W h => implEqualUpdate 1 id 0 0 1 id f x (.slice va xs.length vc) (.slice va xs.length vc) xs xs W h h hn hn)
 clear hn
 cases hr : rowB (id, xs) with
 | false =>
  have HN : Hid (updB (1, (id, xs), f, x) = false) := Lib.hid (upd_no (by unfold insP; simp only; rw [hr]; simp) (by unfold delP; simp only; omega) (by unfold setP; simp only; omega))
  rw [hr] at HV
  clear hr
  have na_isValid : ∀ w : World, (nilAhead (Try.prog.types.size + Made.depth) 114 (.agg #[.int .i64 id, .slice va xs.length vc]) "loop.example/g01986/impl.isValid").run Try.prog w = .ok (some false) w := fun _ => by kernel_rfl
  have me_isValid : ∀ w : World, (method (Try.prog.types.size + Made.depth) 114 (.agg #[.int .i64 id, .slice va xs.length vc]) "loop.example/g01986/impl.isValid").run Try.prog w = .ok (138, .agg #[.int .i64 id, .slice va xs.length vc]) w := fun _ => by kernel_rfl
  have d := Lib.hid ((Below.refl w.heap.size w).alloc (Nat.le_refl _) (.cells #[.int .i64 1, .int .i64 id, .slice va xs.length vc, .int .i64 f, .int .i64 x] 31))
  have B0 : Hid ((w.alloc (.cells #[.int .i64 1, .int .i64 id, .slice va xs.length vc, .int .i64 f, .int .i64 x] 31)).heap[w.heap.size]? = some (.cells #[.int .i64 1, .int .i64 id, .slice va xs.length vc, .int .i64 f, .int .i64 x] 31 (0, 0))) := Lib.hid (heap_alloc_new w _)
  go_enter Try.func45, Try.ntmps45
  go_wp2
  generalize w.alloc (.cells #[.int .i64 1, .int .i64 id, .slice va xs.length vc, .int .i64 f, .int .i64 x] 31) = W at *
  have p_B0_0 := (cell_of_row W _ 0 _ _ _ B0.out).trans (show _ = some (Value.int .i64 1) from rfl)
  have p_B0_1 := (cell_of_row W _ 1 _ _ _ B0.out).trans (show _ = some (Value.int .i64 id) from rfl)
  have p_B0_2 := (cell_of_row W _ 2 _ _ _ B0.out).trans (show _ = some (Value.slice va xs.length vc) from rfl)
  have p_B0_3 := (cell_of_row W _ 3 _ _ _ B0.out).trans (show _ = some (Value.int .i64 f) from rfl)
  have p_B0_4 := (cell_of_row W _ 4 _ _ _ B0.out).trans (show _ = some (Value.int .i64 x) from rfl)
  refine wp_region_held_drew (S := fun w' => w'.cell? ⟨w.heap.size, 0, none⟩ = some (Value.int .i64 1) ∧ w'.cell? ⟨w.heap.size, 1, none⟩ = some (Value.int .i64 id) ∧ w'.cell? ⟨w.heap.size, 2, none⟩ = some (Value.slice va xs.length vc) ∧ w'.cell? ⟨w.heap.size, 3, none⟩ = some (Value.int .i64 f) ∧ w'.cell? ⟨w.heap.size, 4, none⟩ = some (Value.int .i64 x)) (by kernel_rfl) ⟨p_B0_0, p_B0_1, p_B0_2, p_B0_3, p_B0_4⟩ (fun hHeld => ?_)
  clear p_B0_0 p_B0_1 p_B0_2 p_B0_3 p_B0_4
  have cdr : Below W.heap.size W W.drew := below_drew (Below.refl _ _)
  replace B0 := Lib.hid ((cdr.block w.heap.size (Array.getElem?_eq_some_iff.1 B0.out).1).trans B0.out)
  replace d := Lib.hid (d.out.trans (cdr.mono d.out.size))
  clear cdr
  have Z_dr := Lib.hid (show W.heap.size ≤ W.drew.heap.size from Nat.le_refl _)
  generalize W.drew = Wd at *
  refine tR (i := 0) (v := ?_) ?_ ?_; rotate_left
  ·
   intro w hSw; (try dsimp only at hSw); go_simp; try (with_reducible rfl)
  try simp only [Act.put, lA, lB, lC]
  refine wpAnyH_ready (rs := [1]) (by kernel_rfl) (by simp) ?_
  refine (AllReadyH.cons (o := _) (by simp only [hA, hB, hC]; rfl) (fun K hK => ?_) AllReadyH.nil)
  go_simp
  refine (HV.out Wd (ints_below H.out d.out)).mono ?_
  rintro e wv ⟨rfl, cv⟩
  replace B0 := Lib.hid ((cv.block w.heap.size (Array.getElem?_eq_some_iff.1 B0.out).1).trans B0.out)
  replace d := Lib.hid (d.out.trans (cv.mono d.out.size))
  have Z_wv := Lib.hid (show Wd.heap.size ≤ wv.heap.size from cv.size)
  clear cv
  have p_B0_0 := (cell_of_row wv _ 0 _ _ _ B0.out).trans (show _ = some (Value.int .i64 1) from rfl)
  have p_B0_1 := (cell_of_row wv _ 1 _ _ _ B0.out).trans (show _ = some (Value.int .i64 id) from rfl)
  have p_B0_2 := (cell_of_row wv _ 2 _ _ _ B0.out).trans (show _ = some (Value.slice va xs.length vc) from rfl)
  have p_B0_3 := (cell_of_row wv _ 3 _ _ _ B0.out).trans (show _ = some (Value.int .i64 f) from rfl)
  have p_B0_4 := (cell_of_row wv _ 4 _ _ _ B0.out).trans (show _ = some (Value.int .i64 x) from rfl)
  refine hK.out _ _ ⟨p_B0_0, p_B0_1, p_B0_2, p_B0_3, p_B0_4⟩ (fun hHeld => ?_)
  clear p_B0_0 p_B0_1 p_B0_2 p_B0_3 p_B0_4
  clear hK K
  try simp only [Act.put, lA, lB, lC]
  refine tR (i := 2) (v := ?_) ?_ ?_; rotate_left
  ·
   intro w hSw; (try dsimp only at hSw); go_simp; try (with_reducible rfl)
  try simp only [Act.put, lA, lB, lC]
  refine tR (i := 3) (v := ?_) ?_ ?_; rotate_left
  ·
   intro w hSw; (try dsimp only at hSw); go_simp; try (with_reducible rfl)
  try simp only [Act.put, lA, lB, lC]
  refine tO (i := 4) ?_
  try simp only [Act.put, lA, lB, lC]
  refine tO (i := 5) ?_
  try simp only [Act.put, lA, lB, lC]
  refine tO (i := 6) ?_
  try simp only [Act.put, lA, lB, lC]
  refine tO (i := 7) ?_
  try simp only [Act.put, lA, lB, lC]
  refine tO (i := 8) ?_
  try simp only [Act.put, lA, lB, lC]
  refine tR (i := 9) (v := ?_) ?_ ?_; rotate_left
  ·
   intro w hSw; (try dsimp only at hSw); go_simp; try (with_reducible rfl)
  try simp only [Act.put, lA, lB, lC]
  refine wpAnyH_done (by kernel_rfl) ?_ _
  clear hHeld
  go_wp2
  go_ret2
  exact freshC_no HN.out d.out
 | true =>
  rw [hr] at HV
  by_cases hq : f = 0 ∧ x = 0
  ·
   obtain ⟨rfl, rfl⟩ := hq
   have HN : Hid (updB (1, (id, xs), 0, 0) = true) := Lib.hid (upd_ins ⟨rfl, hr, rfl, rfl⟩)
   rw [decide_eq_true ⟨rfl, rfl, rfl, rfl⟩] at HE
   clear hr
   have na_isValid : ∀ w : World, (nilAhead (Try.prog.types.size + Made.depth) 114 (.agg #[.int .i64 id, .slice va xs.length vc]) "loop.example/g01986/impl.isValid").run Try.prog w = .ok (some false) w := fun _ => by kernel_rfl
   have me_isValid : ∀ w : World, (method (Try.prog.types.size + Made.depth) 114 (.agg #[.int .i64 id, .slice va xs.length vc]) "loop.example/g01986/impl.isValid").run Try.prog w = .ok (138, .agg #[.int .i64 id, .slice va xs.length vc]) w := fun _ => by kernel_rfl
   have na_update : ∀ w : World, (nilAhead (Try.prog.types.size + Made.depth) 114 (.agg #[.int .i64 id, .slice va xs.length vc]) "loop.example/g01986/impl.update").run Try.prog w = .ok (some false) w := fun _ => by kernel_rfl
   have me_update : ∀ w : World, (method (Try.prog.types.size + Made.depth) 114 (.agg #[.int .i64 id, .slice va xs.length vc]) "loop.example/g01986/impl.update").run Try.prog w = .ok (139, .agg #[.int .i64 id, .slice va xs.length vc]) w := fun _ => by kernel_rfl
   have d := Lib.hid ((Below.refl w.heap.size w).alloc (Nat.le_refl _) (.cells #[.int .i64 1, .int .i64 id, .slice va xs.length vc, .int .i64 0, .int .i64 0] 31))
   have B0 : Hid ((w.alloc (.cells #[.int .i64 1, .int .i64 id, .slice va xs.length vc, .int .i64 0, .int .i64 0] 31)).heap[w.heap.size]? = some (.cells #[.int .i64 1, .int .i64 id, .slice va xs.length vc, .int .i64 0, .int .i64 0] 31 (0, 0))) := Lib.hid (heap_alloc_new w _)
   go_enter Try.func45, Try.ntmps45
   go_wp2
   generalize w.alloc (.cells #[.int .i64 1, .int .i64 id, .slice va xs.length vc, .int .i64 0, .int .i64 0] 31) = W at *
   have p_B0_0 := (cell_of_row W _ 0 _ _ _ B0.out).trans (show _ = some (Value.int .i64 1) from rfl)
   have p_B0_1 := (cell_of_row W _ 1 _ _ _ B0.out).trans (show _ = some (Value.int .i64 id) from rfl)
   have p_B0_2 := (cell_of_row W _ 2 _ _ _ B0.out).trans (show _ = some (Value.slice va xs.length vc) from rfl)
   have p_B0_3 := (cell_of_row W _ 3 _ _ _ B0.out).trans (show _ = some (Value.int .i64 0) from rfl)
   have p_B0_4 := (cell_of_row W _ 4 _ _ _ B0.out).trans (show _ = some (Value.int .i64 0) from rfl)
   refine wp_region_held_drew (S := fun w' => w'.cell? ⟨w.heap.size, 0, none⟩ = some (Value.int .i64 1) ∧ w'.cell? ⟨w.heap.size, 1, none⟩ = some (Value.int .i64 id) ∧ w'.cell? ⟨w.heap.size, 2, none⟩ = some (Value.slice va xs.length vc) ∧ w'.cell? ⟨w.heap.size, 3, none⟩ = some (Value.int .i64 0) ∧ w'.cell? ⟨w.heap.size, 4, none⟩ = some (Value.int .i64 0)) (by kernel_rfl) ⟨p_B0_0, p_B0_1, p_B0_2, p_B0_3, p_B0_4⟩ (fun hHeld => ?_)
   clear p_B0_0 p_B0_1 p_B0_2 p_B0_3 p_B0_4
   have cdr : Below W.heap.size W W.drew := below_drew (Below.refl _ _)
   replace B0 := Lib.hid ((cdr.block w.heap.size (Array.getElem?_eq_some_iff.1 B0.out).1).trans B0.out)
   replace d := Lib.hid (d.out.trans (cdr.mono d.out.size))
   clear cdr
   have Z_dr := Lib.hid (show W.heap.size ≤ W.drew.heap.size from Nat.le_refl _)
   generalize W.drew = Wd at *
   refine tR (i := 0) (v := ?_) ?_ ?_; rotate_left
   ·
    intro w hSw; (try dsimp only at hSw); go_simp; try (with_reducible rfl)
   try simp only [Act.put, lA, lB, lC]
   refine wpAnyH_ready (rs := [1]) (by kernel_rfl) (by simp) ?_
   refine (AllReadyH.cons (o := _) (by simp only [hA, hB, hC]; rfl) (fun K hK => ?_) AllReadyH.nil)
   go_simp
   refine (HV.out Wd (ints_below H.out d.out)).mono ?_
   rintro e wv ⟨rfl, cv⟩
   replace B0 := Lib.hid ((cv.block w.heap.size (Array.getElem?_eq_some_iff.1 B0.out).1).trans B0.out)
   replace d := Lib.hid (d.out.trans (cv.mono d.out.size))
   have Z_wv := Lib.hid (show Wd.heap.size ≤ wv.heap.size from cv.size)
   clear cv
   have p_B0_0 := (cell_of_row wv _ 0 _ _ _ B0.out).trans (show _ = some (Value.int .i64 1) from rfl)
   have p_B0_1 := (cell_of_row wv _ 1 _ _ _ B0.out).trans (show _ = some (Value.int .i64 id) from rfl)
   have p_B0_2 := (cell_of_row wv _ 2 _ _ _ B0.out).trans (show _ = some (Value.slice va xs.length vc) from rfl)
   have p_B0_3 := (cell_of_row wv _ 3 _ _ _ B0.out).trans (show _ = some (Value.int .i64 0) from rfl)
   have p_B0_4 := (cell_of_row wv _ 4 _ _ _ B0.out).trans (show _ = some (Value.int .i64 0) from rfl)
   refine hK.out _ _ ⟨p_B0_0, p_B0_1, p_B0_2, p_B0_3, p_B0_4⟩ (fun hHeld => ?_)
   clear p_B0_0 p_B0_1 p_B0_2 p_B0_3 p_B0_4
   clear hK K
   try simp only [Act.put, lA, lB, lC]
   refine tR (i := 2) (v := ?_) ?_ ?_; rotate_left
   ·
    intro w hSw; (try dsimp only at hSw); go_simp; try (with_reducible rfl)
   try simp only [Act.put, lA, lB, lC]
   refine tR (i := 3) (v := ?_) ?_ ?_; rotate_left
   ·
    intro w hSw; (try dsimp only at hSw); go_simp; try (with_reducible rfl)
   try simp only [Act.put, lA, lB, lC]
   refine tR (i := 4) (v := ?_) ?_ ?_; rotate_left
   ·
    intro w hSw; (try dsimp only at hSw); go_simp; try (with_reducible rfl)
   try simp only [Act.put, lA, lB, lC]
   refine tR (i := 6) (v := ?_) ?_ ?_; rotate_left
   ·
    intro w hSw; (try dsimp only at hSw); go_simp; try (with_reducible rfl)
   try simp only [Act.put, lA, lB, lC]
   refine wpAnyH_ready (rs := [5]) (by kernel_rfl) (by simp) ?_
   refine (AllReadyH.cons (o := _) (by simp only [hA, hB, hC]; rfl) (fun K hK => ?_) AllReadyH.nil)
   go_simp
   refine (insUpdate id va xs.length vc wv).mono ?_
   rintro e wu ⟨rfl, cv⟩
   replace B0 := Lib.hid ((cv.block w.heap.size (Array.getElem?_eq_some_iff.1 B0.out).1).trans B0.out)
   replace d := Lib.hid (d.out.trans (cv.mono d.out.size))
   have Z_wu := Lib.hid (show wv.heap.size ≤ wu.heap.size from cv.size)
   clear cv
   have p_B0_0 := (cell_of_row wu _ 0 _ _ _ B0.out).trans (show _ = some (Value.int .i64 1) from rfl)
   have p_B0_1 := (cell_of_row wu _ 1 _ _ _ B0.out).trans (show _ = some (Value.int .i64 id) from rfl)
   have p_B0_2 := (cell_of_row wu _ 2 _ _ _ B0.out).trans (show _ = some (Value.slice va xs.length vc) from rfl)
   have p_B0_3 := (cell_of_row wu _ 3 _ _ _ B0.out).trans (show _ = some (Value.int .i64 0) from rfl)
   have p_B0_4 := (cell_of_row wu _ 4 _ _ _ B0.out).trans (show _ = some (Value.int .i64 0) from rfl)
   refine hK.out _ _ ⟨p_B0_0, p_B0_1, p_B0_2, p_B0_3, p_B0_4⟩ (fun hHeld => ?_)
   clear p_B0_0 p_B0_1 p_B0_2 p_B0_3 p_B0_4
   clear hK K
   try simp only [Act.put, lA, lB, lC]
   refine wpAnyH_ready (rs := [7]) (by kernel_rfl) (by simp) ?_
   refine (AllReadyH.cons (o := _) (by simp only [hA, hB, hC]; rfl) (fun K hK => ?_) AllReadyH.nil)
   go_simp
   refine (HE.out wu (ints_below H.out d.out)).mono ?_
   rintro e we ⟨rfl, cv⟩
   replace B0 := Lib.hid ((cv.block w.heap.size (Array.getElem?_eq_some_iff.1 B0.out).1).trans B0.out)
   replace d := Lib.hid (d.out.trans (cv.mono d.out.size))
   have Z_we := Lib.hid (show wu.heap.size ≤ we.heap.size from cv.size)
   clear cv
   have p_B0_0 := (cell_of_row we _ 0 _ _ _ B0.out).trans (show _ = some (Value.int .i64 1) from rfl)
   have p_B0_1 := (cell_of_row we _ 1 _ _ _ B0.out).trans (show _ = some (Value.int .i64 id) from rfl)
   have p_B0_2 := (cell_of_row we _ 2 _ _ _ B0.out).trans (show _ = some (Value.slice va xs.length vc) from rfl)
   have p_B0_3 := (cell_of_row we _ 3 _ _ _ B0.out).trans (show _ = some (Value.int .i64 0) from rfl)
   have p_B0_4 := (cell_of_row we _ 4 _ _ _ B0.out).trans (show _ = some (Value.int .i64 0) from rfl)
   refine hK.out _ _ ⟨p_B0_0, p_B0_1, p_B0_2, p_B0_3, p_B0_4⟩ (fun hHeld => ?_)
   clear p_B0_0 p_B0_1 p_B0_2 p_B0_3 p_B0_4
   clear hK K
   try simp only [Act.put, lA, lB, lC]
   refine tR (i := 8) (v := ?_) ?_ ?_; rotate_left
   ·
    intro w hSw; (try dsimp only at hSw); go_simp; try (with_reducible rfl)
   try simp only [Act.put, lA, lB, lC]
   refine tR (i := 9) (v := ?_) ?_ ?_; rotate_left
   ·
    intro w hSw; (try dsimp only at hSw); go_simp; try (with_reducible rfl)
   try simp only [Act.put, lA, lB, lC]
   refine wpAnyH_done (by kernel_rfl) ?_ _
   clear hHeld
   go_wp2
   go_ret2
   exact freshC_yes HN.out rfl d.out
  ·
   have HN : Hid (updB (1, (id, xs), f, x) = false) := Lib.hid (upd_no (by unfold insP; simp only; omega) (by unfold delP; simp only; omega) (by unfold setP; simp only; omega))
   rw [decide_eq_false (fun g => hq ⟨g.2.2.1.symm, g.2.2.2.symm⟩)] at HE
   clear hr hq
   have na_isValid : ∀ w : World, (nilAhead (Try.prog.types.size + Made.depth) 114 (.agg #[.int .i64 id, .slice va xs.length vc]) "loop.example/g01986/impl.isValid").run Try.prog w = .ok (some false) w := fun _ => by kernel_rfl
   have me_isValid : ∀ w : World, (method (Try.prog.types.size + Made.depth) 114 (.agg #[.int .i64 id, .slice va xs.length vc]) "loop.example/g01986/impl.isValid").run Try.prog w = .ok (138, .agg #[.int .i64 id, .slice va xs.length vc]) w := fun _ => by kernel_rfl
   have na_update : ∀ w : World, (nilAhead (Try.prog.types.size + Made.depth) 114 (.agg #[.int .i64 id, .slice va xs.length vc]) "loop.example/g01986/impl.update").run Try.prog w = .ok (some false) w := fun _ => by kernel_rfl
   have me_update : ∀ w : World, (method (Try.prog.types.size + Made.depth) 114 (.agg #[.int .i64 id, .slice va xs.length vc]) "loop.example/g01986/impl.update").run Try.prog w = .ok (139, .agg #[.int .i64 id, .slice va xs.length vc]) w := fun _ => by kernel_rfl
   have d := Lib.hid ((Below.refl w.heap.size w).alloc (Nat.le_refl _) (.cells #[.int .i64 1, .int .i64 id, .slice va xs.length vc, .int .i64 f, .int .i64 x] 31))
   have B0 : Hid ((w.alloc (.cells #[.int .i64 1, .int .i64 id, .slice va xs.length vc, .int .i64 f, .int .i64 x] 31)).heap[w.heap.size]? = some (.cells #[.int .i64 1, .int .i64 id, .slice va xs.length vc, .int .i64 f, .int .i64 x] 31 (0, 0))) := Lib.hid (heap_alloc_new w _)
   go_enter Try.func45, Try.ntmps45
   go_wp2
   generalize w.alloc (.cells #[.int .i64 1, .int .i64 id, .slice va xs.length vc, .int .i64 f, .int .i64 x] 31) = W at *
   have p_B0_0 := (cell_of_row W _ 0 _ _ _ B0.out).trans (show _ = some (Value.int .i64 1) from rfl)
   have p_B0_1 := (cell_of_row W _ 1 _ _ _ B0.out).trans (show _ = some (Value.int .i64 id) from rfl)
   have p_B0_2 := (cell_of_row W _ 2 _ _ _ B0.out).trans (show _ = some (Value.slice va xs.length vc) from rfl)
   have p_B0_3 := (cell_of_row W _ 3 _ _ _ B0.out).trans (show _ = some (Value.int .i64 f) from rfl)
   have p_B0_4 := (cell_of_row W _ 4 _ _ _ B0.out).trans (show _ = some (Value.int .i64 x) from rfl)
   refine wp_region_held_drew (S := fun w' => w'.cell? ⟨w.heap.size, 0, none⟩ = some (Value.int .i64 1) ∧ w'.cell? ⟨w.heap.size, 1, none⟩ = some (Value.int .i64 id) ∧ w'.cell? ⟨w.heap.size, 2, none⟩ = some (Value.slice va xs.length vc) ∧ w'.cell? ⟨w.heap.size, 3, none⟩ = some (Value.int .i64 f) ∧ w'.cell? ⟨w.heap.size, 4, none⟩ = some (Value.int .i64 x)) (by kernel_rfl) ⟨p_B0_0, p_B0_1, p_B0_2, p_B0_3, p_B0_4⟩ (fun hHeld => ?_)
   clear p_B0_0 p_B0_1 p_B0_2 p_B0_3 p_B0_4
   have cdr : Below W.heap.size W W.drew := below_drew (Below.refl _ _)
   replace B0 := Lib.hid ((cdr.block w.heap.size (Array.getElem?_eq_some_iff.1 B0.out).1).trans B0.out)
   replace d := Lib.hid (d.out.trans (cdr.mono d.out.size))
   clear cdr
   have Z_dr := Lib.hid (show W.heap.size ≤ W.drew.heap.size from Nat.le_refl _)
   generalize W.drew = Wd at *
   refine tR (i := 0) (v := ?_) ?_ ?_; rotate_left
   ·
    intro w hSw; (try dsimp only at hSw); go_simp; try (with_reducible rfl)
   try simp only [Act.put, lA, lB, lC]
   refine wpAnyH_ready (rs := [1]) (by kernel_rfl) (by simp) ?_
   refine (AllReadyH.cons (o := _) (by simp only [hA, hB, hC]; rfl) (fun K hK => ?_) AllReadyH.nil)
   go_simp
   refine (HV.out Wd (ints_below H.out d.out)).mono ?_
   rintro e wv ⟨rfl, cv⟩
   replace B0 := Lib.hid ((cv.block w.heap.size (Array.getElem?_eq_some_iff.1 B0.out).1).trans B0.out)
   replace d := Lib.hid (d.out.trans (cv.mono d.out.size))
   have Z_wv := Lib.hid (show Wd.heap.size ≤ wv.heap.size from cv.size)
   clear cv
   have p_B0_0 := (cell_of_row wv _ 0 _ _ _ B0.out).trans (show _ = some (Value.int .i64 1) from rfl)
   have p_B0_1 := (cell_of_row wv _ 1 _ _ _ B0.out).trans (show _ = some (Value.int .i64 id) from rfl)
   have p_B0_2 := (cell_of_row wv _ 2 _ _ _ B0.out).trans (show _ = some (Value.slice va xs.length vc) from rfl)
   have p_B0_3 := (cell_of_row wv _ 3 _ _ _ B0.out).trans (show _ = some (Value.int .i64 f) from rfl)
   have p_B0_4 := (cell_of_row wv _ 4 _ _ _ B0.out).trans (show _ = some (Value.int .i64 x) from rfl)
   refine hK.out _ _ ⟨p_B0_0, p_B0_1, p_B0_2, p_B0_3, p_B0_4⟩ (fun hHeld => ?_)
   clear p_B0_0 p_B0_1 p_B0_2 p_B0_3 p_B0_4
   clear hK K
   try simp only [Act.put, lA, lB, lC]
   refine tR (i := 2) (v := ?_) ?_ ?_; rotate_left
   ·
    intro w hSw; (try dsimp only at hSw); go_simp; try (with_reducible rfl)
   try simp only [Act.put, lA, lB, lC]
   refine tR (i := 3) (v := ?_) ?_ ?_; rotate_left
   ·
    intro w hSw; (try dsimp only at hSw); go_simp; try (with_reducible rfl)
   try simp only [Act.put, lA, lB, lC]
   refine tR (i := 4) (v := ?_) ?_ ?_; rotate_left
   ·
    intro w hSw; (try dsimp only at hSw); go_simp; try (with_reducible rfl)
   try simp only [Act.put, lA, lB, lC]
   refine tR (i := 6) (v := ?_) ?_ ?_; rotate_left
   ·
    intro w hSw; (try dsimp only at hSw); go_simp; try (with_reducible rfl)
   try simp only [Act.put, lA, lB, lC]
   refine wpAnyH_ready (rs := [5]) (by kernel_rfl) (by simp) ?_
   refine (AllReadyH.cons (o := _) (by simp only [hA, hB, hC]; rfl) (fun K hK => ?_) AllReadyH.nil)
   go_simp
   refine (insUpdate id va xs.length vc wv).mono ?_
   rintro e wu ⟨rfl, cv⟩
   replace B0 := Lib.hid ((cv.block w.heap.size (Array.getElem?_eq_some_iff.1 B0.out).1).trans B0.out)
   replace d := Lib.hid (d.out.trans (cv.mono d.out.size))
   have Z_wu := Lib.hid (show wv.heap.size ≤ wu.heap.size from cv.size)
   clear cv
   have p_B0_0 := (cell_of_row wu _ 0 _ _ _ B0.out).trans (show _ = some (Value.int .i64 1) from rfl)
   have p_B0_1 := (cell_of_row wu _ 1 _ _ _ B0.out).trans (show _ = some (Value.int .i64 id) from rfl)
   have p_B0_2 := (cell_of_row wu _ 2 _ _ _ B0.out).trans (show _ = some (Value.slice va xs.length vc) from rfl)
   have p_B0_3 := (cell_of_row wu _ 3 _ _ _ B0.out).trans (show _ = some (Value.int .i64 f) from rfl)
   have p_B0_4 := (cell_of_row wu _ 4 _ _ _ B0.out).trans (show _ = some (Value.int .i64 x) from rfl)
   refine hK.out _ _ ⟨p_B0_0, p_B0_1, p_B0_2, p_B0_3, p_B0_4⟩ (fun hHeld => ?_)
   clear p_B0_0 p_B0_1 p_B0_2 p_B0_3 p_B0_4
   clear hK K
   try simp only [Act.put, lA, lB, lC]
   refine wpAnyH_ready (rs := [7]) (by kernel_rfl) (by simp) ?_
   refine (AllReadyH.cons (o := _) (by simp only [hA, hB, hC]; rfl) (fun K hK => ?_) AllReadyH.nil)
   go_simp
   refine (HE.out wu (ints_below H.out d.out)).mono ?_
   rintro e we ⟨rfl, cv⟩
   replace B0 := Lib.hid ((cv.block w.heap.size (Array.getElem?_eq_some_iff.1 B0.out).1).trans B0.out)
   replace d := Lib.hid (d.out.trans (cv.mono d.out.size))
   have Z_we := Lib.hid (show wu.heap.size ≤ we.heap.size from cv.size)
   clear cv
   have p_B0_0 := (cell_of_row we _ 0 _ _ _ B0.out).trans (show _ = some (Value.int .i64 1) from rfl)
   have p_B0_1 := (cell_of_row we _ 1 _ _ _ B0.out).trans (show _ = some (Value.int .i64 id) from rfl)
   have p_B0_2 := (cell_of_row we _ 2 _ _ _ B0.out).trans (show _ = some (Value.slice va xs.length vc) from rfl)
   have p_B0_3 := (cell_of_row we _ 3 _ _ _ B0.out).trans (show _ = some (Value.int .i64 f) from rfl)
   have p_B0_4 := (cell_of_row we _ 4 _ _ _ B0.out).trans (show _ = some (Value.int .i64 x) from rfl)
   refine hK.out _ _ ⟨p_B0_0, p_B0_1, p_B0_2, p_B0_3, p_B0_4⟩ (fun hHeld => ?_)
   clear p_B0_0 p_B0_1 p_B0_2 p_B0_3 p_B0_4
   clear hK K
   try simp only [Act.put, lA, lB, lC]
   refine tR (i := 8) (v := ?_) ?_ ?_; rotate_left
   ·
    intro w hSw; (try dsimp only at hSw); go_simp; try (with_reducible rfl)
   try simp only [Act.put, lA, lB, lC]
   refine tR (i := 9) (v := ?_) ?_ ?_; rotate_left
   ·
    intro w hSw; (try dsimp only at hSw); go_simp; try (with_reducible rfl)
   try simp only [Act.put, lA, lB, lC]
   refine wpAnyH_done (by kernel_rfl) ?_ _
   clear hHeld
   go_wp2
   go_ret2
   exact freshC_no HN.out d.out
set_option maxHeartbeats 16000000 in
set_option maxRecDepth 100000 in
theorem changeOf_del (id f x : Int) (vv : Value) (xs : List Int) (w : World) (h : Ints w vv xs) (hn : xs.length ≤ 1048576) :
  Calls Try.prog 45 #[.agg #[.int .i64 2, .int .i64 id, vv, .int .i64 f, .int .i64 x]] w (FreshC w (2, (id, xs), f, x) vv) := by
 obtain ⟨va, vc, rfl⟩ := ints_len h
 have H := Lib.hid h
 clear h
 have HE := Lib.hid (fun W h => implEqualUpdate 2 id 0 0 2 id f x (.slice none 0 0) (.slice va xs.length vc) [] xs W (Or.inl ⟨rfl, _, _, rfl⟩) h (by simp) hn)
 clear hn
 by_cases hi : 0 ≤ id ∧ id ≤ 999
 rotate_left
 ·
  have HN : Hid (updB (2, (id, xs), f, x) = false) := Lib.hid (upd_no (by unfold insP; simp only; omega) (by unfold delP; simp only; omega) (by unfold setP; simp only; omega))
  have HV := Lib.hid (fun W => delValid_no id W hi)
  clear hi
  have na_isValid : ∀ w : World, (nilAhead (Try.prog.types.size + Made.depth) 116 (.agg #[.int .i64 id]) "loop.example/g01986/impl.isValid").run Try.prog w = .ok (some false) w := fun _ => by kernel_rfl
  have me_isValid : ∀ w : World, (method (Try.prog.types.size + Made.depth) 116 (.agg #[.int .i64 id]) "loop.example/g01986/impl.isValid").run Try.prog w = .ok (161, .agg #[.int .i64 id]) w := fun _ => by kernel_rfl
  have d := Lib.hid ((Below.refl w.heap.size w).alloc (Nat.le_refl _) (.cells #[.int .i64 2, .int .i64 id, .slice va xs.length vc, .int .i64 f, .int .i64 x] 31))
  have B0 : Hid ((w.alloc (.cells #[.int .i64 2, .int .i64 id, .slice va xs.length vc, .int .i64 f, .int .i64 x] 31)).heap[w.heap.size]? = some (.cells #[.int .i64 2, .int .i64 id, .slice va xs.length vc, .int .i64 f, .int .i64 x] 31 (0, 0))) := Lib.hid (heap_alloc_new w _)
  go_enter Try.func45, Try.ntmps45
  go_wp2
  generalize w.alloc (.cells #[.int .i64 2, .int .i64 id, .slice va xs.length vc, .int .i64 f, .int .i64 x] 31) = W at *
  have p_B0_0 := (cell_of_row W _ 0 _ _ _ B0.out).trans (show _ = some (Value.int .i64 2) from rfl)
  have p_B0_1 := (cell_of_row W _ 1 _ _ _ B0.out).trans (show _ = some (Value.int .i64 id) from rfl)
  have p_B0_2 := (cell_of_row W _ 2 _ _ _ B0.out).trans (show _ = some (Value.slice va xs.length vc) from rfl)
  have p_B0_3 := (cell_of_row W _ 3 _ _ _ B0.out).trans (show _ = some (Value.int .i64 f) from rfl)
  have p_B0_4 := (cell_of_row W _ 4 _ _ _ B0.out).trans (show _ = some (Value.int .i64 x) from rfl)
  refine wp_region_held_drew (S := fun w' => w'.cell? ⟨w.heap.size, 0, none⟩ = some (Value.int .i64 2) ∧ w'.cell? ⟨w.heap.size, 1, none⟩ = some (Value.int .i64 id) ∧ w'.cell? ⟨w.heap.size, 2, none⟩ = some (Value.slice va xs.length vc) ∧ w'.cell? ⟨w.heap.size, 3, none⟩ = some (Value.int .i64 f) ∧ w'.cell? ⟨w.heap.size, 4, none⟩ = some (Value.int .i64 x)) (by kernel_rfl) ⟨p_B0_0, p_B0_1, p_B0_2, p_B0_3, p_B0_4⟩ (fun hHeld => ?_)
  clear p_B0_0 p_B0_1 p_B0_2 p_B0_3 p_B0_4
  have cdr : Below W.heap.size W W.drew := below_drew (Below.refl _ _)
  replace B0 := Lib.hid ((cdr.block w.heap.size (Array.getElem?_eq_some_iff.1 B0.out).1).trans B0.out)
  replace d := Lib.hid (d.out.trans (cdr.mono d.out.size))
  clear cdr
  have Z_dr := Lib.hid (show W.heap.size ≤ W.drew.heap.size from Nat.le_refl _)
  generalize W.drew = Wd at *
  refine tR (i := 0) (v := ?_) ?_ ?_; rotate_left
  ·
   intro w hSw; (try dsimp only at hSw); go_simp; try (with_reducible rfl)
  try simp only [Act.put, lA, lB, lC]
  refine wpAnyH_ready (rs := [1]) (by kernel_rfl) (by simp) ?_
  refine (AllReadyH.cons (o := _) (by simp only [hA, hB, hC]; rfl) (fun K hK => ?_) AllReadyH.nil)
  go_simp
  refine (HV.out Wd).mono ?_
  rintro e wv ⟨rfl, cv⟩
  replace B0 := Lib.hid ((cv.block w.heap.size (Array.getElem?_eq_some_iff.1 B0.out).1).trans B0.out)
  replace d := Lib.hid (d.out.trans (cv.mono d.out.size))
  have Z_wv := Lib.hid (show Wd.heap.size ≤ wv.heap.size from cv.size)
  clear cv
  have p_B0_0 := (cell_of_row wv _ 0 _ _ _ B0.out).trans (show _ = some (Value.int .i64 2) from rfl)
  have p_B0_1 := (cell_of_row wv _ 1 _ _ _ B0.out).trans (show _ = some (Value.int .i64 id) from rfl)
  have p_B0_2 := (cell_of_row wv _ 2 _ _ _ B0.out).trans (show _ = some (Value.slice va xs.length vc) from rfl)
  have p_B0_3 := (cell_of_row wv _ 3 _ _ _ B0.out).trans (show _ = some (Value.int .i64 f) from rfl)
  have p_B0_4 := (cell_of_row wv _ 4 _ _ _ B0.out).trans (show _ = some (Value.int .i64 x) from rfl)
  refine hK.out _ _ ⟨p_B0_0, p_B0_1, p_B0_2, p_B0_3, p_B0_4⟩ (fun hHeld => ?_)
  clear p_B0_0 p_B0_1 p_B0_2 p_B0_3 p_B0_4
  clear hK K
  try simp only [Act.put, lA, lB, lC]
  refine tR (i := 2) (v := ?_) ?_ ?_; rotate_left
  ·
   intro w hSw; (try dsimp only at hSw); go_simp; try (with_reducible rfl)
  try simp only [Act.put, lA, lB, lC]
  refine tR (i := 3) (v := ?_) ?_ ?_; rotate_left
  ·
   intro w hSw; (try dsimp only at hSw); go_simp; try (with_reducible rfl)
  try simp only [Act.put, lA, lB, lC]
  refine tO (i := 4) ?_
  try simp only [Act.put, lA, lB, lC]
  refine tO (i := 5) ?_
  try simp only [Act.put, lA, lB, lC]
  refine tO (i := 6) ?_
  try simp only [Act.put, lA, lB, lC]
  refine tO (i := 7) ?_
  try simp only [Act.put, lA, lB, lC]
  refine tO (i := 8) ?_
  try simp only [Act.put, lA, lB, lC]
  refine tR (i := 9) (v := ?_) ?_ ?_; rotate_left
  ·
   intro w hSw; (try dsimp only at hSw); go_simp; try (with_reducible rfl)
  try simp only [Act.put, lA, lB, lC]
  refine wpAnyH_done (by kernel_rfl) ?_ _
  clear hHeld
  go_wp2
  go_ret2
  exact freshC_no HN.out d.out
 have HV := Lib.hid (fun W => delValid_yes id W hi.1 hi.2)
 by_cases hq : xs = [] ∧ f = 0 ∧ x = 0
 ·
  obtain ⟨rfl, rfl, rfl⟩ := hq
  have HN : Hid (updB (2, (id, []), 0, 0) = true) := Lib.hid (upd_del ⟨rfl, hi, rfl, rfl, rfl⟩)
  rw [decide_eq_true ⟨rfl, rfl, rfl, rfl⟩] at HE
  clear hi
  simp only [List.length_nil] at *
  have na_isValid : ∀ w : World, (nilAhead (Try.prog.types.size + Made.depth) 116 (.agg #[.int .i64 id]) "loop.example/g01986/impl.isValid").run Try.prog w = .ok (some false) w := fun _ => by kernel_rfl
  have me_isValid : ∀ w : World, (method (Try.prog.types.size + Made.depth) 116 (.agg #[.int .i64 id]) "loop.example/g01986/impl.isValid").run Try.prog w = .ok (161, .agg #[.int .i64 id]) w := fun _ => by kernel_rfl
  have na_update : ∀ w : World, (nilAhead (Try.prog.types.size + Made.depth) 116 (.agg #[.int .i64 id]) "loop.example/g01986/impl.update").run Try.prog w = .ok (some false) w := fun _ => by kernel_rfl
  have me_update : ∀ w : World, (method (Try.prog.types.size + Made.depth) 116 (.agg #[.int .i64 id]) "loop.example/g01986/impl.update").run Try.prog w = .ok (162, .agg #[.int .i64 id]) w := fun _ => by kernel_rfl
  have d := Lib.hid ((Below.refl w.heap.size w).alloc (Nat.le_refl _) (.cells #[.int .i64 2, .int .i64 id, .slice va 0 vc, .int .i64 0, .int .i64 0] 31))
  have B0 : Hid ((w.alloc (.cells #[.int .i64 2, .int .i64 id, .slice va 0 vc, .int .i64 0, .int .i64 0] 31)).heap[w.heap.size]? = some (.cells #[.int .i64 2, .int .i64 id, .slice va 0 vc, .int .i64 0, .int .i64 0] 31 (0, 0))) := Lib.hid (heap_alloc_new w _)
  go_enter Try.func45, Try.ntmps45
  go_wp2
  generalize w.alloc (.cells #[.int .i64 2, .int .i64 id, .slice va 0 vc, .int .i64 0, .int .i64 0] 31) = W at *
  have p_B0_0 := (cell_of_row W _ 0 _ _ _ B0.out).trans (show _ = some (Value.int .i64 2) from rfl)
  have p_B0_1 := (cell_of_row W _ 1 _ _ _ B0.out).trans (show _ = some (Value.int .i64 id) from rfl)
  have p_B0_2 := (cell_of_row W _ 2 _ _ _ B0.out).trans (show _ = some (Value.slice va 0 vc) from rfl)
  have p_B0_3 := (cell_of_row W _ 3 _ _ _ B0.out).trans (show _ = some (Value.int .i64 0) from rfl)
  have p_B0_4 := (cell_of_row W _ 4 _ _ _ B0.out).trans (show _ = some (Value.int .i64 0) from rfl)
  refine wp_region_held_drew (S := fun w' => w'.cell? ⟨w.heap.size, 0, none⟩ = some (Value.int .i64 2) ∧ w'.cell? ⟨w.heap.size, 1, none⟩ = some (Value.int .i64 id) ∧ w'.cell? ⟨w.heap.size, 2, none⟩ = some (Value.slice va 0 vc) ∧ w'.cell? ⟨w.heap.size, 3, none⟩ = some (Value.int .i64 0) ∧ w'.cell? ⟨w.heap.size, 4, none⟩ = some (Value.int .i64 0)) (by kernel_rfl) ⟨p_B0_0, p_B0_1, p_B0_2, p_B0_3, p_B0_4⟩ (fun hHeld => ?_)
  clear p_B0_0 p_B0_1 p_B0_2 p_B0_3 p_B0_4
  have cdr : Below W.heap.size W W.drew := below_drew (Below.refl _ _)
  replace B0 := Lib.hid ((cdr.block w.heap.size (Array.getElem?_eq_some_iff.1 B0.out).1).trans B0.out)
  replace d := Lib.hid (d.out.trans (cdr.mono d.out.size))
  clear cdr
  have Z_dr := Lib.hid (show W.heap.size ≤ W.drew.heap.size from Nat.le_refl _)
  generalize W.drew = Wd at *
  refine tR (i := 0) (v := ?_) ?_ ?_; rotate_left
  ·
   intro w hSw; (try dsimp only at hSw); go_simp; try (with_reducible rfl)
  try simp only [Act.put, lA, lB, lC]
  refine wpAnyH_ready (rs := [1]) (by kernel_rfl) (by simp) ?_
  refine (AllReadyH.cons (o := _) (by simp only [hA, hB, hC]; rfl) (fun K hK => ?_) AllReadyH.nil)
  go_simp
  refine (HV.out Wd).mono ?_
  rintro e wv ⟨rfl, cv⟩
  replace B0 := Lib.hid ((cv.block w.heap.size (Array.getElem?_eq_some_iff.1 B0.out).1).trans B0.out)
  replace d := Lib.hid (d.out.trans (cv.mono d.out.size))
  have Z_wv := Lib.hid (show Wd.heap.size ≤ wv.heap.size from cv.size)
  clear cv
  have p_B0_0 := (cell_of_row wv _ 0 _ _ _ B0.out).trans (show _ = some (Value.int .i64 2) from rfl)
  have p_B0_1 := (cell_of_row wv _ 1 _ _ _ B0.out).trans (show _ = some (Value.int .i64 id) from rfl)
  have p_B0_2 := (cell_of_row wv _ 2 _ _ _ B0.out).trans (show _ = some (Value.slice va 0 vc) from rfl)
  have p_B0_3 := (cell_of_row wv _ 3 _ _ _ B0.out).trans (show _ = some (Value.int .i64 0) from rfl)
  have p_B0_4 := (cell_of_row wv _ 4 _ _ _ B0.out).trans (show _ = some (Value.int .i64 0) from rfl)
  refine hK.out _ _ ⟨p_B0_0, p_B0_1, p_B0_2, p_B0_3, p_B0_4⟩ (fun hHeld => ?_)
  clear p_B0_0 p_B0_1 p_B0_2 p_B0_3 p_B0_4
  clear hK K
  try simp only [Act.put, lA, lB, lC]
  refine tR (i := 2) (v := ?_) ?_ ?_; rotate_left
  ·
   intro w hSw; (try dsimp only at hSw); go_simp; try (with_reducible rfl)
  try simp only [Act.put, lA, lB, lC]
  refine tR (i := 3) (v := ?_) ?_ ?_; rotate_left
  ·
   intro w hSw; (try dsimp only at hSw); go_simp; try (with_reducible rfl)
  try simp only [Act.put, lA, lB, lC]
  refine tR (i := 4) (v := ?_) ?_ ?_; rotate_left
  ·
   intro w hSw; (try dsimp only at hSw); go_simp; try (with_reducible rfl)
  try simp only [Act.put, lA, lB, lC]
  refine tR (i := 6) (v := ?_) ?_ ?_; rotate_left
  ·
   intro w hSw; (try dsimp only at hSw); go_simp; try (with_reducible rfl)
  try simp only [Act.put, lA, lB, lC]
  refine wpAnyH_ready (rs := [5]) (by kernel_rfl) (by simp) ?_
  refine (AllReadyH.cons (o := _) (by simp only [hA, hB, hC]; rfl) (fun K hK => ?_) AllReadyH.nil)
  go_simp
  refine (delUpdate id wv).mono ?_
  rintro e wu ⟨rfl, cv⟩
  replace B0 := Lib.hid ((cv.block w.heap.size (Array.getElem?_eq_some_iff.1 B0.out).1).trans B0.out)
  replace d := Lib.hid (d.out.trans (cv.mono d.out.size))
  have Z_wu := Lib.hid (show wv.heap.size ≤ wu.heap.size from cv.size)
  clear cv
  have p_B0_0 := (cell_of_row wu _ 0 _ _ _ B0.out).trans (show _ = some (Value.int .i64 2) from rfl)
  have p_B0_1 := (cell_of_row wu _ 1 _ _ _ B0.out).trans (show _ = some (Value.int .i64 id) from rfl)
  have p_B0_2 := (cell_of_row wu _ 2 _ _ _ B0.out).trans (show _ = some (Value.slice va 0 vc) from rfl)
  have p_B0_3 := (cell_of_row wu _ 3 _ _ _ B0.out).trans (show _ = some (Value.int .i64 0) from rfl)
  have p_B0_4 := (cell_of_row wu _ 4 _ _ _ B0.out).trans (show _ = some (Value.int .i64 0) from rfl)
  refine hK.out _ _ ⟨p_B0_0, p_B0_1, p_B0_2, p_B0_3, p_B0_4⟩ (fun hHeld => ?_)
  clear p_B0_0 p_B0_1 p_B0_2 p_B0_3 p_B0_4
  clear hK K
  try simp only [Act.put, lA, lB, lC]
  refine wpAnyH_ready (rs := [7]) (by kernel_rfl) (by simp) ?_
  refine (AllReadyH.cons (o := _) (by simp only [hA, hB, hC]; rfl) (fun K hK => ?_) AllReadyH.nil)
  go_simp
  refine (HE.out wu (ints_below H.out d.out)).mono ?_
  rintro e we ⟨rfl, cv⟩
  replace B0 := Lib.hid ((cv.block w.heap.size (Array.getElem?_eq_some_iff.1 B0.out).1).trans B0.out)
  replace d := Lib.hid (d.out.trans (cv.mono d.out.size))
  have Z_we := Lib.hid (show wu.heap.size ≤ we.heap.size from cv.size)
  clear cv
  have p_B0_0 := (cell_of_row we _ 0 _ _ _ B0.out).trans (show _ = some (Value.int .i64 2) from rfl)
  have p_B0_1 := (cell_of_row we _ 1 _ _ _ B0.out).trans (show _ = some (Value.int .i64 id) from rfl)
  have p_B0_2 := (cell_of_row we _ 2 _ _ _ B0.out).trans (show _ = some (Value.slice va 0 vc) from rfl)
  have p_B0_3 := (cell_of_row we _ 3 _ _ _ B0.out).trans (show _ = some (Value.int .i64 0) from rfl)
  have p_B0_4 := (cell_of_row we _ 4 _ _ _ B0.out).trans (show _ = some (Value.int .i64 0) from rfl)
  refine hK.out _ _ ⟨p_B0_0, p_B0_1, p_B0_2, p_B0_3, p_B0_4⟩ (fun hHeld => ?_)
  clear p_B0_0 p_B0_1 p_B0_2 p_B0_3 p_B0_4
  clear hK K
  try simp only [Act.put, lA, lB, lC]
  refine tR (i := 8) (v := ?_) ?_ ?_; rotate_left
  ·
   intro w hSw; (try dsimp only at hSw); go_simp; try (with_reducible rfl)
  try simp only [Act.put, lA, lB, lC]
  refine tR (i := 9) (v := ?_) ?_ ?_; rotate_left
  ·
   intro w hSw; (try dsimp only at hSw); go_simp; try (with_reducible rfl)
  try simp only [Act.put, lA, lB, lC]
  refine wpAnyH_done (by kernel_rfl) ?_ _
  clear hHeld
  go_wp2
  go_ret2
  exact freshC_yes HN.out rfl d.out
 ·
  have HN : Hid (updB (2, (id, xs), f, x) = false) := Lib.hid (upd_no (by unfold insP; simp only; omega) (fun g => hq ⟨List.eq_nil_of_length_eq_zero g.2.2.1, g.2.2.2.1, g.2.2.2.2⟩) (by unfold setP; simp only; omega))
  rw [decide_eq_false (fun g => hq ⟨(Prod.mk.inj g.2.1).2.symm, g.2.2.1.symm, g.2.2.2.symm⟩)] at HE
  clear hi hq
  have na_isValid : ∀ w : World, (nilAhead (Try.prog.types.size + Made.depth) 116 (.agg #[.int .i64 id]) "loop.example/g01986/impl.isValid").run Try.prog w = .ok (some false) w := fun _ => by kernel_rfl
  have me_isValid : ∀ w : World, (method (Try.prog.types.size + Made.depth) 116 (.agg #[.int .i64 id]) "loop.example/g01986/impl.isValid").run Try.prog w = .ok (161, .agg #[.int .i64 id]) w := fun _ => by kernel_rfl
  have na_update : ∀ w : World, (nilAhead (Try.prog.types.size + Made.depth) 116 (.agg #[.int .i64 id]) "loop.example/g01986/impl.update").run Try.prog w = .ok (some false) w := fun _ => by kernel_rfl
  have me_update : ∀ w : World, (method (Try.prog.types.size + Made.depth) 116 (.agg #[.int .i64 id]) "loop.example/g01986/impl.update").run Try.prog w = .ok (162, .agg #[.int .i64 id]) w := fun _ => by kernel_rfl
  have d := Lib.hid ((Below.refl w.heap.size w).alloc (Nat.le_refl _) (.cells #[.int .i64 2, .int .i64 id, .slice va xs.length vc, .int .i64 f, .int .i64 x] 31))
  have B0 : Hid ((w.alloc (.cells #[.int .i64 2, .int .i64 id, .slice va xs.length vc, .int .i64 f, .int .i64 x] 31)).heap[w.heap.size]? = some (.cells #[.int .i64 2, .int .i64 id, .slice va xs.length vc, .int .i64 f, .int .i64 x] 31 (0, 0))) := Lib.hid (heap_alloc_new w _)
  go_enter Try.func45, Try.ntmps45
  go_wp2
  generalize w.alloc (.cells #[.int .i64 2, .int .i64 id, .slice va xs.length vc, .int .i64 f, .int .i64 x] 31) = W at *
  have p_B0_0 := (cell_of_row W _ 0 _ _ _ B0.out).trans (show _ = some (Value.int .i64 2) from rfl)
  have p_B0_1 := (cell_of_row W _ 1 _ _ _ B0.out).trans (show _ = some (Value.int .i64 id) from rfl)
  have p_B0_2 := (cell_of_row W _ 2 _ _ _ B0.out).trans (show _ = some (Value.slice va xs.length vc) from rfl)
  have p_B0_3 := (cell_of_row W _ 3 _ _ _ B0.out).trans (show _ = some (Value.int .i64 f) from rfl)
  have p_B0_4 := (cell_of_row W _ 4 _ _ _ B0.out).trans (show _ = some (Value.int .i64 x) from rfl)
  refine wp_region_held_drew (S := fun w' => w'.cell? ⟨w.heap.size, 0, none⟩ = some (Value.int .i64 2) ∧ w'.cell? ⟨w.heap.size, 1, none⟩ = some (Value.int .i64 id) ∧ w'.cell? ⟨w.heap.size, 2, none⟩ = some (Value.slice va xs.length vc) ∧ w'.cell? ⟨w.heap.size, 3, none⟩ = some (Value.int .i64 f) ∧ w'.cell? ⟨w.heap.size, 4, none⟩ = some (Value.int .i64 x)) (by kernel_rfl) ⟨p_B0_0, p_B0_1, p_B0_2, p_B0_3, p_B0_4⟩ (fun hHeld => ?_)
  clear p_B0_0 p_B0_1 p_B0_2 p_B0_3 p_B0_4
  have cdr : Below W.heap.size W W.drew := below_drew (Below.refl _ _)
  replace B0 := Lib.hid ((cdr.block w.heap.size (Array.getElem?_eq_some_iff.1 B0.out).1).trans B0.out)
  replace d := Lib.hid (d.out.trans (cdr.mono d.out.size))
  clear cdr
  have Z_dr := Lib.hid (show W.heap.size ≤ W.drew.heap.size from Nat.le_refl _)
  generalize W.drew = Wd at *
  refine tR (i := 0) (v := ?_) ?_ ?_; rotate_left
  ·
   intro w hSw; (try dsimp only at hSw); go_simp; try (with_reducible rfl)
  try simp only [Act.put, lA, lB, lC]
  refine wpAnyH_ready (rs := [1]) (by kernel_rfl) (by simp) ?_
  refine (AllReadyH.cons (o := _) (by simp only [hA, hB, hC]; rfl) (fun K hK => ?_) AllReadyH.nil)
  go_simp
  refine (HV.out Wd).mono ?_
  rintro e wv ⟨rfl, cv⟩
  replace B0 := Lib.hid ((cv.block w.heap.size (Array.getElem?_eq_some_iff.1 B0.out).1).trans B0.out)
  replace d := Lib.hid (d.out.trans (cv.mono d.out.size))
  have Z_wv := Lib.hid (show Wd.heap.size ≤ wv.heap.size from cv.size)
  clear cv
  have p_B0_0 := (cell_of_row wv _ 0 _ _ _ B0.out).trans (show _ = some (Value.int .i64 2) from rfl)
  have p_B0_1 := (cell_of_row wv _ 1 _ _ _ B0.out).trans (show _ = some (Value.int .i64 id) from rfl)
  have p_B0_2 := (cell_of_row wv _ 2 _ _ _ B0.out).trans (show _ = some (Value.slice va xs.length vc) from rfl)
  have p_B0_3 := (cell_of_row wv _ 3 _ _ _ B0.out).trans (show _ = some (Value.int .i64 f) from rfl)
  have p_B0_4 := (cell_of_row wv _ 4 _ _ _ B0.out).trans (show _ = some (Value.int .i64 x) from rfl)
  refine hK.out _ _ ⟨p_B0_0, p_B0_1, p_B0_2, p_B0_3, p_B0_4⟩ (fun hHeld => ?_)
  clear p_B0_0 p_B0_1 p_B0_2 p_B0_3 p_B0_4
  clear hK K
  try simp only [Act.put, lA, lB, lC]
  refine tR (i := 2) (v := ?_) ?_ ?_; rotate_left
  ·
   intro w hSw; (try dsimp only at hSw); go_simp; try (with_reducible rfl)
  try simp only [Act.put, lA, lB, lC]
  refine tR (i := 3) (v := ?_) ?_ ?_; rotate_left
  ·
   intro w hSw; (try dsimp only at hSw); go_simp; try (with_reducible rfl)
  try simp only [Act.put, lA, lB, lC]
  refine tR (i := 4) (v := ?_) ?_ ?_; rotate_left
  ·
   intro w hSw; (try dsimp only at hSw); go_simp; try (with_reducible rfl)
  try simp only [Act.put, lA, lB, lC]
  refine tR (i := 6) (v := ?_) ?_ ?_; rotate_left
  ·
   intro w hSw; (try dsimp only at hSw); go_simp; try (with_reducible rfl)
  try simp only [Act.put, lA, lB, lC]
  refine wpAnyH_ready (rs := [5]) (by kernel_rfl) (by simp) ?_
  refine (AllReadyH.cons (o := _) (by simp only [hA, hB, hC]; rfl) (fun K hK => ?_) AllReadyH.nil)
  go_simp
  refine (delUpdate id wv).mono ?_
  rintro e wu ⟨rfl, cv⟩
  replace B0 := Lib.hid ((cv.block w.heap.size (Array.getElem?_eq_some_iff.1 B0.out).1).trans B0.out)
  replace d := Lib.hid (d.out.trans (cv.mono d.out.size))
  have Z_wu := Lib.hid (show wv.heap.size ≤ wu.heap.size from cv.size)
  clear cv
  have p_B0_0 := (cell_of_row wu _ 0 _ _ _ B0.out).trans (show _ = some (Value.int .i64 2) from rfl)
  have p_B0_1 := (cell_of_row wu _ 1 _ _ _ B0.out).trans (show _ = some (Value.int .i64 id) from rfl)
  have p_B0_2 := (cell_of_row wu _ 2 _ _ _ B0.out).trans (show _ = some (Value.slice va xs.length vc) from rfl)
  have p_B0_3 := (cell_of_row wu _ 3 _ _ _ B0.out).trans (show _ = some (Value.int .i64 f) from rfl)
  have p_B0_4 := (cell_of_row wu _ 4 _ _ _ B0.out).trans (show _ = some (Value.int .i64 x) from rfl)
  refine hK.out _ _ ⟨p_B0_0, p_B0_1, p_B0_2, p_B0_3, p_B0_4⟩ (fun hHeld => ?_)
  clear p_B0_0 p_B0_1 p_B0_2 p_B0_3 p_B0_4
  clear hK K
  try simp only [Act.put, lA, lB, lC]
  refine wpAnyH_ready (rs := [7]) (by kernel_rfl) (by simp) ?_
  refine (AllReadyH.cons (o := _) (by simp only [hA, hB, hC]; rfl) (fun K hK => ?_) AllReadyH.nil)
  go_simp
  refine (HE.out wu (ints_below H.out d.out)).mono ?_
  rintro e we ⟨rfl, cv⟩
  replace B0 := Lib.hid ((cv.block w.heap.size (Array.getElem?_eq_some_iff.1 B0.out).1).trans B0.out)
  replace d := Lib.hid (d.out.trans (cv.mono d.out.size))
  have Z_we := Lib.hid (show wu.heap.size ≤ we.heap.size from cv.size)
  clear cv
  have p_B0_0 := (cell_of_row we _ 0 _ _ _ B0.out).trans (show _ = some (Value.int .i64 2) from rfl)
  have p_B0_1 := (cell_of_row we _ 1 _ _ _ B0.out).trans (show _ = some (Value.int .i64 id) from rfl)
  have p_B0_2 := (cell_of_row we _ 2 _ _ _ B0.out).trans (show _ = some (Value.slice va xs.length vc) from rfl)
  have p_B0_3 := (cell_of_row we _ 3 _ _ _ B0.out).trans (show _ = some (Value.int .i64 f) from rfl)
  have p_B0_4 := (cell_of_row we _ 4 _ _ _ B0.out).trans (show _ = some (Value.int .i64 x) from rfl)
  refine hK.out _ _ ⟨p_B0_0, p_B0_1, p_B0_2, p_B0_3, p_B0_4⟩ (fun hHeld => ?_)
  clear p_B0_0 p_B0_1 p_B0_2 p_B0_3 p_B0_4
  clear hK K
  try simp only [Act.put, lA, lB, lC]
  refine tR (i := 8) (v := ?_) ?_ ?_; rotate_left
  ·
   intro w hSw; (try dsimp only at hSw); go_simp; try (with_reducible rfl)
  try simp only [Act.put, lA, lB, lC]
  refine tR (i := 9) (v := ?_) ?_ ?_; rotate_left
  ·
   intro w hSw; (try dsimp only at hSw); go_simp; try (with_reducible rfl)
  try simp only [Act.put, lA, lB, lC]
  refine wpAnyH_done (by kernel_rfl) ?_ _
  clear hHeld
  go_wp2
  go_ret2
  exact freshC_no HN.out d.out
set_option maxHeartbeats 16000000 in
set_option maxRecDepth 100000 in
theorem changeOf_set (id f x : Int) (vv : Value) (xs : List Int) (w : World) (h : Ints w vv xs) (hn : xs.length ≤ 1048576) :
  Calls Try.prog 45 #[.agg #[.int .i64 3, .int .i64 id, vv, .int .i64 f, .int .i64 x]] w (FreshC w (3, (id, xs), f, x) vv) := by
 obtain ⟨va, vc, rfl⟩ := ints_len h
 have H := Lib.hid h
 clear h
 have HE := Lib.hid (fun W h => implEqualUpdate 3 id f x 3 id f x (.slice none 0 0) (.slice va xs.length vc) [] xs W (Or.inl ⟨rfl, _, _, rfl⟩) h (by simp) hn)
 have HV := Lib.hid (fun W => setValid id f x W)
 clear hn
 by_cases hi : (0 ≤ id ∧ id ≤ 999) ∧ (0 ≤ f ∧ f ≤ 2) ∧ (0 ≤ x ∧ x ≤ 99)
 rotate_left
 ·
  have HN : Hid (updB (3, (id, xs), f, x) = false) := Lib.hid (upd_no (by unfold insP; simp only; omega) (by unfold delP; simp only; omega) (by unfold setP; simp only; omega))
  rw [decide_eq_false hi] at HV
  clear hi
  have na_isValid : ∀ w : World, (nilAhead (Try.prog.types.size + Made.depth) 118 (.agg #[.int .i64 id, .int .i64 f, .int .i64 x]) "loop.example/g01986/impl.isValid").run Try.prog w = .ok (some false) w := fun _ => by kernel_rfl
  have me_isValid : ∀ w : World, (method (Try.prog.types.size + Made.depth) 118 (.agg #[.int .i64 id, .int .i64 f, .int .i64 x]) "loop.example/g01986/impl.isValid").run Try.prog w = .ok (165, .agg #[.int .i64 id, .int .i64 f, .int .i64 x]) w := fun _ => by kernel_rfl
  have d := Lib.hid ((Below.refl w.heap.size w).alloc (Nat.le_refl _) (.cells #[.int .i64 3, .int .i64 id, .slice va xs.length vc, .int .i64 f, .int .i64 x] 31))
  have B0 : Hid ((w.alloc (.cells #[.int .i64 3, .int .i64 id, .slice va xs.length vc, .int .i64 f, .int .i64 x] 31)).heap[w.heap.size]? = some (.cells #[.int .i64 3, .int .i64 id, .slice va xs.length vc, .int .i64 f, .int .i64 x] 31 (0, 0))) := Lib.hid (heap_alloc_new w _)
  go_enter Try.func45, Try.ntmps45
  go_wp2
  generalize w.alloc (.cells #[.int .i64 3, .int .i64 id, .slice va xs.length vc, .int .i64 f, .int .i64 x] 31) = W at *
  have p_B0_0 := (cell_of_row W _ 0 _ _ _ B0.out).trans (show _ = some (Value.int .i64 3) from rfl)
  have p_B0_1 := (cell_of_row W _ 1 _ _ _ B0.out).trans (show _ = some (Value.int .i64 id) from rfl)
  have p_B0_2 := (cell_of_row W _ 2 _ _ _ B0.out).trans (show _ = some (Value.slice va xs.length vc) from rfl)
  have p_B0_3 := (cell_of_row W _ 3 _ _ _ B0.out).trans (show _ = some (Value.int .i64 f) from rfl)
  have p_B0_4 := (cell_of_row W _ 4 _ _ _ B0.out).trans (show _ = some (Value.int .i64 x) from rfl)
  refine wp_region_held_drew (S := fun w' => w'.cell? ⟨w.heap.size, 0, none⟩ = some (Value.int .i64 3) ∧ w'.cell? ⟨w.heap.size, 1, none⟩ = some (Value.int .i64 id) ∧ w'.cell? ⟨w.heap.size, 2, none⟩ = some (Value.slice va xs.length vc) ∧ w'.cell? ⟨w.heap.size, 3, none⟩ = some (Value.int .i64 f) ∧ w'.cell? ⟨w.heap.size, 4, none⟩ = some (Value.int .i64 x)) (by kernel_rfl) ⟨p_B0_0, p_B0_1, p_B0_2, p_B0_3, p_B0_4⟩ (fun hHeld => ?_)
  clear p_B0_0 p_B0_1 p_B0_2 p_B0_3 p_B0_4
  have cdr : Below W.heap.size W W.drew := below_drew (Below.refl _ _)
  replace B0 := Lib.hid ((cdr.block w.heap.size (Array.getElem?_eq_some_iff.1 B0.out).1).trans B0.out)
  replace d := Lib.hid (d.out.trans (cdr.mono d.out.size))
  clear cdr
  have Z_dr := Lib.hid (show W.heap.size ≤ W.drew.heap.size from Nat.le_refl _)
  generalize W.drew = Wd at *
  refine tR (i := 0) (v := ?_) ?_ ?_; rotate_left
  ·
   intro w hSw; (try dsimp only at hSw); go_simp; try (with_reducible rfl)
  try simp only [Act.put, lA, lB, lC]
  refine wpAnyH_ready (rs := [1]) (by kernel_rfl) (by simp) ?_
  refine (AllReadyH.cons (o := _) (by simp only [hA, hB, hC]; rfl) (fun K hK => ?_) AllReadyH.nil)
  go_simp
  refine (HV.out Wd).mono ?_
  rintro e wv ⟨rfl, cv⟩
  replace B0 := Lib.hid ((cv.block w.heap.size (Array.getElem?_eq_some_iff.1 B0.out).1).trans B0.out)
  replace d := Lib.hid (d.out.trans (cv.mono d.out.size))
  have Z_wv := Lib.hid (show Wd.heap.size ≤ wv.heap.size from cv.size)
  clear cv
  have p_B0_0 := (cell_of_row wv _ 0 _ _ _ B0.out).trans (show _ = some (Value.int .i64 3) from rfl)
  have p_B0_1 := (cell_of_row wv _ 1 _ _ _ B0.out).trans (show _ = some (Value.int .i64 id) from rfl)
  have p_B0_2 := (cell_of_row wv _ 2 _ _ _ B0.out).trans (show _ = some (Value.slice va xs.length vc) from rfl)
  have p_B0_3 := (cell_of_row wv _ 3 _ _ _ B0.out).trans (show _ = some (Value.int .i64 f) from rfl)
  have p_B0_4 := (cell_of_row wv _ 4 _ _ _ B0.out).trans (show _ = some (Value.int .i64 x) from rfl)
  refine hK.out _ _ ⟨p_B0_0, p_B0_1, p_B0_2, p_B0_3, p_B0_4⟩ (fun hHeld => ?_)
  clear p_B0_0 p_B0_1 p_B0_2 p_B0_3 p_B0_4
  clear hK K
  try simp only [Act.put, lA, lB, lC]
  refine tR (i := 2) (v := ?_) ?_ ?_; rotate_left
  ·
   intro w hSw; (try dsimp only at hSw); go_simp; try (with_reducible rfl)
  try simp only [Act.put, lA, lB, lC]
  refine tR (i := 3) (v := ?_) ?_ ?_; rotate_left
  ·
   intro w hSw; (try dsimp only at hSw); go_simp; try (with_reducible rfl)
  try simp only [Act.put, lA, lB, lC]
  refine tO (i := 4) ?_
  try simp only [Act.put, lA, lB, lC]
  refine tO (i := 5) ?_
  try simp only [Act.put, lA, lB, lC]
  refine tO (i := 6) ?_
  try simp only [Act.put, lA, lB, lC]
  refine tO (i := 7) ?_
  try simp only [Act.put, lA, lB, lC]
  refine tO (i := 8) ?_
  try simp only [Act.put, lA, lB, lC]
  refine tR (i := 9) (v := ?_) ?_ ?_; rotate_left
  ·
   intro w hSw; (try dsimp only at hSw); go_simp; try (with_reducible rfl)
  try simp only [Act.put, lA, lB, lC]
  refine wpAnyH_done (by kernel_rfl) ?_ _
  clear hHeld
  go_wp2
  go_ret2
  exact freshC_no HN.out d.out
 rw [decide_eq_true hi] at HV
 by_cases hq : xs = []
 ·
  obtain rfl := hq
  have HN : Hid (updB (3, (id, []), f, x) = true) := Lib.hid (upd_set ⟨rfl, hi.1, rfl, hi.2.1, hi.2.2⟩)
  rw [decide_eq_true ⟨rfl, rfl, rfl, rfl⟩] at HE
  clear hi
  simp only [List.length_nil] at *
  have na_isValid : ∀ w : World, (nilAhead (Try.prog.types.size + Made.depth) 118 (.agg #[.int .i64 id, .int .i64 f, .int .i64 x]) "loop.example/g01986/impl.isValid").run Try.prog w = .ok (some false) w := fun _ => by kernel_rfl
  have me_isValid : ∀ w : World, (method (Try.prog.types.size + Made.depth) 118 (.agg #[.int .i64 id, .int .i64 f, .int .i64 x]) "loop.example/g01986/impl.isValid").run Try.prog w = .ok (165, .agg #[.int .i64 id, .int .i64 f, .int .i64 x]) w := fun _ => by kernel_rfl
  have na_update : ∀ w : World, (nilAhead (Try.prog.types.size + Made.depth) 118 (.agg #[.int .i64 id, .int .i64 f, .int .i64 x]) "loop.example/g01986/impl.update").run Try.prog w = .ok (some false) w := fun _ => by kernel_rfl
  have me_update : ∀ w : World, (method (Try.prog.types.size + Made.depth) 118 (.agg #[.int .i64 id, .int .i64 f, .int .i64 x]) "loop.example/g01986/impl.update").run Try.prog w = .ok (166, .agg #[.int .i64 id, .int .i64 f, .int .i64 x]) w := fun _ => by kernel_rfl
  have d := Lib.hid ((Below.refl w.heap.size w).alloc (Nat.le_refl _) (.cells #[.int .i64 3, .int .i64 id, .slice va 0 vc, .int .i64 f, .int .i64 x] 31))
  have B0 : Hid ((w.alloc (.cells #[.int .i64 3, .int .i64 id, .slice va 0 vc, .int .i64 f, .int .i64 x] 31)).heap[w.heap.size]? = some (.cells #[.int .i64 3, .int .i64 id, .slice va 0 vc, .int .i64 f, .int .i64 x] 31 (0, 0))) := Lib.hid (heap_alloc_new w _)
  go_enter Try.func45, Try.ntmps45
  go_wp2
  generalize w.alloc (.cells #[.int .i64 3, .int .i64 id, .slice va 0 vc, .int .i64 f, .int .i64 x] 31) = W at *
  have p_B0_0 := (cell_of_row W _ 0 _ _ _ B0.out).trans (show _ = some (Value.int .i64 3) from rfl)
  have p_B0_1 := (cell_of_row W _ 1 _ _ _ B0.out).trans (show _ = some (Value.int .i64 id) from rfl)
  have p_B0_2 := (cell_of_row W _ 2 _ _ _ B0.out).trans (show _ = some (Value.slice va 0 vc) from rfl)
  have p_B0_3 := (cell_of_row W _ 3 _ _ _ B0.out).trans (show _ = some (Value.int .i64 f) from rfl)
  have p_B0_4 := (cell_of_row W _ 4 _ _ _ B0.out).trans (show _ = some (Value.int .i64 x) from rfl)
  refine wp_region_held_drew (S := fun w' => w'.cell? ⟨w.heap.size, 0, none⟩ = some (Value.int .i64 3) ∧ w'.cell? ⟨w.heap.size, 1, none⟩ = some (Value.int .i64 id) ∧ w'.cell? ⟨w.heap.size, 2, none⟩ = some (Value.slice va 0 vc) ∧ w'.cell? ⟨w.heap.size, 3, none⟩ = some (Value.int .i64 f) ∧ w'.cell? ⟨w.heap.size, 4, none⟩ = some (Value.int .i64 x)) (by kernel_rfl) ⟨p_B0_0, p_B0_1, p_B0_2, p_B0_3, p_B0_4⟩ (fun hHeld => ?_)
  clear p_B0_0 p_B0_1 p_B0_2 p_B0_3 p_B0_4
  have cdr : Below W.heap.size W W.drew := below_drew (Below.refl _ _)
  replace B0 := Lib.hid ((cdr.block w.heap.size (Array.getElem?_eq_some_iff.1 B0.out).1).trans B0.out)
  replace d := Lib.hid (d.out.trans (cdr.mono d.out.size))
  clear cdr
  have Z_dr := Lib.hid (show W.heap.size ≤ W.drew.heap.size from Nat.le_refl _)
  generalize W.drew = Wd at *
  refine tR (i := 0) (v := ?_) ?_ ?_; rotate_left
  ·
   intro w hSw; (try dsimp only at hSw); go_simp; try (with_reducible rfl)
  try simp only [Act.put, lA, lB, lC]
  refine wpAnyH_ready (rs := [1]) (by kernel_rfl) (by simp) ?_
  refine (AllReadyH.cons (o := _) (by simp only [hA, hB, hC]; rfl) (fun K hK => ?_) AllReadyH.nil)
  go_simp
  refine (HV.out Wd).mono ?_
  rintro e wv ⟨rfl, cv⟩
  replace B0 := Lib.hid ((cv.block w.heap.size (Array.getElem?_eq_some_iff.1 B0.out).1).trans B0.out)
  replace d := Lib.hid (d.out.trans (cv.mono d.out.size))
  have Z_wv := Lib.hid (show Wd.heap.size ≤ wv.heap.size from cv.size)
  clear cv
  have p_B0_0 := (cell_of_row wv _ 0 _ _ _ B0.out).trans (show _ = some (Value.int .i64 3) from rfl)
  have p_B0_1 := (cell_of_row wv _ 1 _ _ _ B0.out).trans (show _ = some (Value.int .i64 id) from rfl)
  have p_B0_2 := (cell_of_row wv _ 2 _ _ _ B0.out).trans (show _ = some (Value.slice va 0 vc) from rfl)
  have p_B0_3 := (cell_of_row wv _ 3 _ _ _ B0.out).trans (show _ = some (Value.int .i64 f) from rfl)
  have p_B0_4 := (cell_of_row wv _ 4 _ _ _ B0.out).trans (show _ = some (Value.int .i64 x) from rfl)
  refine hK.out _ _ ⟨p_B0_0, p_B0_1, p_B0_2, p_B0_3, p_B0_4⟩ (fun hHeld => ?_)
  clear p_B0_0 p_B0_1 p_B0_2 p_B0_3 p_B0_4
  clear hK K
  try simp only [Act.put, lA, lB, lC]
  refine tR (i := 2) (v := ?_) ?_ ?_; rotate_left
  ·
   intro w hSw; (try dsimp only at hSw); go_simp; try (with_reducible rfl)
  try simp only [Act.put, lA, lB, lC]
  refine tR (i := 3) (v := ?_) ?_ ?_; rotate_left
  ·
   intro w hSw; (try dsimp only at hSw); go_simp; try (with_reducible rfl)
  try simp only [Act.put, lA, lB, lC]
  refine tR (i := 4) (v := ?_) ?_ ?_; rotate_left
  ·
   intro w hSw; (try dsimp only at hSw); go_simp; try (with_reducible rfl)
  try simp only [Act.put, lA, lB, lC]
  refine tR (i := 6) (v := ?_) ?_ ?_; rotate_left
  ·
   intro w hSw; (try dsimp only at hSw); go_simp; try (with_reducible rfl)
  try simp only [Act.put, lA, lB, lC]
  refine wpAnyH_ready (rs := [5]) (by kernel_rfl) (by simp) ?_
  refine (AllReadyH.cons (o := _) (by simp only [hA, hB, hC]; rfl) (fun K hK => ?_) AllReadyH.nil)
  go_simp
  refine (setUpdate id f x wv).mono ?_
  rintro e wu ⟨rfl, cv⟩
  replace B0 := Lib.hid ((cv.block w.heap.size (Array.getElem?_eq_some_iff.1 B0.out).1).trans B0.out)
  replace d := Lib.hid (d.out.trans (cv.mono d.out.size))
  have Z_wu := Lib.hid (show wv.heap.size ≤ wu.heap.size from cv.size)
  clear cv
  have p_B0_0 := (cell_of_row wu _ 0 _ _ _ B0.out).trans (show _ = some (Value.int .i64 3) from rfl)
  have p_B0_1 := (cell_of_row wu _ 1 _ _ _ B0.out).trans (show _ = some (Value.int .i64 id) from rfl)
  have p_B0_2 := (cell_of_row wu _ 2 _ _ _ B0.out).trans (show _ = some (Value.slice va 0 vc) from rfl)
  have p_B0_3 := (cell_of_row wu _ 3 _ _ _ B0.out).trans (show _ = some (Value.int .i64 f) from rfl)
  have p_B0_4 := (cell_of_row wu _ 4 _ _ _ B0.out).trans (show _ = some (Value.int .i64 x) from rfl)
  refine hK.out _ _ ⟨p_B0_0, p_B0_1, p_B0_2, p_B0_3, p_B0_4⟩ (fun hHeld => ?_)
  clear p_B0_0 p_B0_1 p_B0_2 p_B0_3 p_B0_4
  clear hK K
  try simp only [Act.put, lA, lB, lC]
  refine wpAnyH_ready (rs := [7]) (by kernel_rfl) (by simp) ?_
  refine (AllReadyH.cons (o := _) (by simp only [hA, hB, hC]; rfl) (fun K hK => ?_) AllReadyH.nil)
  go_simp
  refine (HE.out wu (ints_below H.out d.out)).mono ?_
  rintro e we ⟨rfl, cv⟩
  replace B0 := Lib.hid ((cv.block w.heap.size (Array.getElem?_eq_some_iff.1 B0.out).1).trans B0.out)
  replace d := Lib.hid (d.out.trans (cv.mono d.out.size))
  have Z_we := Lib.hid (show wu.heap.size ≤ we.heap.size from cv.size)
  clear cv
  have p_B0_0 := (cell_of_row we _ 0 _ _ _ B0.out).trans (show _ = some (Value.int .i64 3) from rfl)
  have p_B0_1 := (cell_of_row we _ 1 _ _ _ B0.out).trans (show _ = some (Value.int .i64 id) from rfl)
  have p_B0_2 := (cell_of_row we _ 2 _ _ _ B0.out).trans (show _ = some (Value.slice va 0 vc) from rfl)
  have p_B0_3 := (cell_of_row we _ 3 _ _ _ B0.out).trans (show _ = some (Value.int .i64 f) from rfl)
  have p_B0_4 := (cell_of_row we _ 4 _ _ _ B0.out).trans (show _ = some (Value.int .i64 x) from rfl)
  refine hK.out _ _ ⟨p_B0_0, p_B0_1, p_B0_2, p_B0_3, p_B0_4⟩ (fun hHeld => ?_)
  clear p_B0_0 p_B0_1 p_B0_2 p_B0_3 p_B0_4
  clear hK K
  try simp only [Act.put, lA, lB, lC]
  refine tR (i := 8) (v := ?_) ?_ ?_; rotate_left
  ·
   intro w hSw; (try dsimp only at hSw); go_simp; try (with_reducible rfl)
  try simp only [Act.put, lA, lB, lC]
  refine tR (i := 9) (v := ?_) ?_ ?_; rotate_left
  ·
   intro w hSw; (try dsimp only at hSw); go_simp; try (with_reducible rfl)
  try simp only [Act.put, lA, lB, lC]
  refine wpAnyH_done (by kernel_rfl) ?_ _
  clear hHeld
  go_wp2
  go_ret2
  exact freshC_yes HN.out rfl d.out
 ·
  have HN : Hid (updB (3, (id, xs), f, x) = false) := Lib.hid (upd_no (by unfold insP; simp only; omega) (by unfold delP; simp only; omega) (fun g => hq (List.eq_nil_of_length_eq_zero g.2.2.1)))
  rw [decide_eq_false (fun g => hq (Prod.mk.inj g.2.1).2.symm)] at HE
  clear hi hq
  have na_isValid : ∀ w : World, (nilAhead (Try.prog.types.size + Made.depth) 118 (.agg #[.int .i64 id, .int .i64 f, .int .i64 x]) "loop.example/g01986/impl.isValid").run Try.prog w = .ok (some false) w := fun _ => by kernel_rfl
  have me_isValid : ∀ w : World, (method (Try.prog.types.size + Made.depth) 118 (.agg #[.int .i64 id, .int .i64 f, .int .i64 x]) "loop.example/g01986/impl.isValid").run Try.prog w = .ok (165, .agg #[.int .i64 id, .int .i64 f, .int .i64 x]) w := fun _ => by kernel_rfl
  have na_update : ∀ w : World, (nilAhead (Try.prog.types.size + Made.depth) 118 (.agg #[.int .i64 id, .int .i64 f, .int .i64 x]) "loop.example/g01986/impl.update").run Try.prog w = .ok (some false) w := fun _ => by kernel_rfl
  have me_update : ∀ w : World, (method (Try.prog.types.size + Made.depth) 118 (.agg #[.int .i64 id, .int .i64 f, .int .i64 x]) "loop.example/g01986/impl.update").run Try.prog w = .ok (166, .agg #[.int .i64 id, .int .i64 f, .int .i64 x]) w := fun _ => by kernel_rfl
  have d := Lib.hid ((Below.refl w.heap.size w).alloc (Nat.le_refl _) (.cells #[.int .i64 3, .int .i64 id, .slice va xs.length vc, .int .i64 f, .int .i64 x] 31))
  have B0 : Hid ((w.alloc (.cells #[.int .i64 3, .int .i64 id, .slice va xs.length vc, .int .i64 f, .int .i64 x] 31)).heap[w.heap.size]? = some (.cells #[.int .i64 3, .int .i64 id, .slice va xs.length vc, .int .i64 f, .int .i64 x] 31 (0, 0))) := Lib.hid (heap_alloc_new w _)
  go_enter Try.func45, Try.ntmps45
  go_wp2
  generalize w.alloc (.cells #[.int .i64 3, .int .i64 id, .slice va xs.length vc, .int .i64 f, .int .i64 x] 31) = W at *
  have p_B0_0 := (cell_of_row W _ 0 _ _ _ B0.out).trans (show _ = some (Value.int .i64 3) from rfl)
  have p_B0_1 := (cell_of_row W _ 1 _ _ _ B0.out).trans (show _ = some (Value.int .i64 id) from rfl)
  have p_B0_2 := (cell_of_row W _ 2 _ _ _ B0.out).trans (show _ = some (Value.slice va xs.length vc) from rfl)
  have p_B0_3 := (cell_of_row W _ 3 _ _ _ B0.out).trans (show _ = some (Value.int .i64 f) from rfl)
  have p_B0_4 := (cell_of_row W _ 4 _ _ _ B0.out).trans (show _ = some (Value.int .i64 x) from rfl)
  refine wp_region_held_drew (S := fun w' => w'.cell? ⟨w.heap.size, 0, none⟩ = some (Value.int .i64 3) ∧ w'.cell? ⟨w.heap.size, 1, none⟩ = some (Value.int .i64 id) ∧ w'.cell? ⟨w.heap.size, 2, none⟩ = some (Value.slice va xs.length vc) ∧ w'.cell? ⟨w.heap.size, 3, none⟩ = some (Value.int .i64 f) ∧ w'.cell? ⟨w.heap.size, 4, none⟩ = some (Value.int .i64 x)) (by kernel_rfl) ⟨p_B0_0, p_B0_1, p_B0_2, p_B0_3, p_B0_4⟩ (fun hHeld => ?_)
  clear p_B0_0 p_B0_1 p_B0_2 p_B0_3 p_B0_4
  have cdr : Below W.heap.size W W.drew := below_drew (Below.refl _ _)
  replace B0 := Lib.hid ((cdr.block w.heap.size (Array.getElem?_eq_some_iff.1 B0.out).1).trans B0.out)
  replace d := Lib.hid (d.out.trans (cdr.mono d.out.size))
  clear cdr
  have Z_dr := Lib.hid (show W.heap.size ≤ W.drew.heap.size from Nat.le_refl _)
  generalize W.drew = Wd at *
  refine tR (i := 0) (v := ?_) ?_ ?_; rotate_left
  ·
   intro w hSw; (try dsimp only at hSw); go_simp; try (with_reducible rfl)
  try simp only [Act.put, lA, lB, lC]
  refine wpAnyH_ready (rs := [1]) (by kernel_rfl) (by simp) ?_
  refine (AllReadyH.cons (o := _) (by simp only [hA, hB, hC]; rfl) (fun K hK => ?_) AllReadyH.nil)
  go_simp
  refine (HV.out Wd).mono ?_
  rintro e wv ⟨rfl, cv⟩
  replace B0 := Lib.hid ((cv.block w.heap.size (Array.getElem?_eq_some_iff.1 B0.out).1).trans B0.out)
  replace d := Lib.hid (d.out.trans (cv.mono d.out.size))
  have Z_wv := Lib.hid (show Wd.heap.size ≤ wv.heap.size from cv.size)
  clear cv
  have p_B0_0 := (cell_of_row wv _ 0 _ _ _ B0.out).trans (show _ = some (Value.int .i64 3) from rfl)
  have p_B0_1 := (cell_of_row wv _ 1 _ _ _ B0.out).trans (show _ = some (Value.int .i64 id) from rfl)
  have p_B0_2 := (cell_of_row wv _ 2 _ _ _ B0.out).trans (show _ = some (Value.slice va xs.length vc) from rfl)
  have p_B0_3 := (cell_of_row wv _ 3 _ _ _ B0.out).trans (show _ = some (Value.int .i64 f) from rfl)
  have p_B0_4 := (cell_of_row wv _ 4 _ _ _ B0.out).trans (show _ = some (Value.int .i64 x) from rfl)
  refine hK.out _ _ ⟨p_B0_0, p_B0_1, p_B0_2, p_B0_3, p_B0_4⟩ (fun hHeld => ?_)
  clear p_B0_0 p_B0_1 p_B0_2 p_B0_3 p_B0_4
  clear hK K
  try simp only [Act.put, lA, lB, lC]
  refine tR (i := 2) (v := ?_) ?_ ?_; rotate_left
  ·
   intro w hSw; (try dsimp only at hSw); go_simp; try (with_reducible rfl)
  try simp only [Act.put, lA, lB, lC]
  refine tR (i := 3) (v := ?_) ?_ ?_; rotate_left
  ·
   intro w hSw; (try dsimp only at hSw); go_simp; try (with_reducible rfl)
  try simp only [Act.put, lA, lB, lC]
  refine tR (i := 4) (v := ?_) ?_ ?_; rotate_left
  ·
   intro w hSw; (try dsimp only at hSw); go_simp; try (with_reducible rfl)
  try simp only [Act.put, lA, lB, lC]
  refine tR (i := 6) (v := ?_) ?_ ?_; rotate_left
  ·
   intro w hSw; (try dsimp only at hSw); go_simp; try (with_reducible rfl)
  try simp only [Act.put, lA, lB, lC]
  refine wpAnyH_ready (rs := [5]) (by kernel_rfl) (by simp) ?_
  refine (AllReadyH.cons (o := _) (by simp only [hA, hB, hC]; rfl) (fun K hK => ?_) AllReadyH.nil)
  go_simp
  refine (setUpdate id f x wv).mono ?_
  rintro e wu ⟨rfl, cv⟩
  replace B0 := Lib.hid ((cv.block w.heap.size (Array.getElem?_eq_some_iff.1 B0.out).1).trans B0.out)
  replace d := Lib.hid (d.out.trans (cv.mono d.out.size))
  have Z_wu := Lib.hid (show wv.heap.size ≤ wu.heap.size from cv.size)
  clear cv
  have p_B0_0 := (cell_of_row wu _ 0 _ _ _ B0.out).trans (show _ = some (Value.int .i64 3) from rfl)
  have p_B0_1 := (cell_of_row wu _ 1 _ _ _ B0.out).trans (show _ = some (Value.int .i64 id) from rfl)
  have p_B0_2 := (cell_of_row wu _ 2 _ _ _ B0.out).trans (show _ = some (Value.slice va xs.length vc) from rfl)
  have p_B0_3 := (cell_of_row wu _ 3 _ _ _ B0.out).trans (show _ = some (Value.int .i64 f) from rfl)
  have p_B0_4 := (cell_of_row wu _ 4 _ _ _ B0.out).trans (show _ = some (Value.int .i64 x) from rfl)
  refine hK.out _ _ ⟨p_B0_0, p_B0_1, p_B0_2, p_B0_3, p_B0_4⟩ (fun hHeld => ?_)
  clear p_B0_0 p_B0_1 p_B0_2 p_B0_3 p_B0_4
  clear hK K
  try simp only [Act.put, lA, lB, lC]
  refine wpAnyH_ready (rs := [7]) (by kernel_rfl) (by simp) ?_
  refine (AllReadyH.cons (o := _) (by simp only [hA, hB, hC]; rfl) (fun K hK => ?_) AllReadyH.nil)
  go_simp
  refine (HE.out wu (ints_below H.out d.out)).mono ?_
  rintro e we ⟨rfl, cv⟩
  replace B0 := Lib.hid ((cv.block w.heap.size (Array.getElem?_eq_some_iff.1 B0.out).1).trans B0.out)
  replace d := Lib.hid (d.out.trans (cv.mono d.out.size))
  have Z_we := Lib.hid (show wu.heap.size ≤ we.heap.size from cv.size)
  clear cv
  have p_B0_0 := (cell_of_row we _ 0 _ _ _ B0.out).trans (show _ = some (Value.int .i64 3) from rfl)
  have p_B0_1 := (cell_of_row we _ 1 _ _ _ B0.out).trans (show _ = some (Value.int .i64 id) from rfl)
  have p_B0_2 := (cell_of_row we _ 2 _ _ _ B0.out).trans (show _ = some (Value.slice va xs.length vc) from rfl)
  have p_B0_3 := (cell_of_row we _ 3 _ _ _ B0.out).trans (show _ = some (Value.int .i64 f) from rfl)
  have p_B0_4 := (cell_of_row we _ 4 _ _ _ B0.out).trans (show _ = some (Value.int .i64 x) from rfl)
  refine hK.out _ _ ⟨p_B0_0, p_B0_1, p_B0_2, p_B0_3, p_B0_4⟩ (fun hHeld => ?_)
  clear p_B0_0 p_B0_1 p_B0_2 p_B0_3 p_B0_4
  clear hK K
  try simp only [Act.put, lA, lB, lC]
  refine tR (i := 8) (v := ?_) ?_ ?_; rotate_left
  ·
   intro w hSw; (try dsimp only at hSw); go_simp; try (with_reducible rfl)
  try simp only [Act.put, lA, lB, lC]
  refine tR (i := 9) (v := ?_) ?_ ?_; rotate_left
  ·
   intro w hSw; (try dsimp only at hSw); go_simp; try (with_reducible rfl)
  try simp only [Act.put, lA, lB, lC]
  refine wpAnyH_done (by kernel_rfl) ?_ _
  clear hHeld
  go_wp2
  go_ret2
  exact freshC_no HN.out d.out
set_option maxHeartbeats 16000000 in
set_option maxRecDepth 100000 in
theorem changeOf_none (k id f x : Int) (vv : Value) (xs : List Int) (w : World) (h : Ints w vv xs) (hk : ¬ k = 1 ∧ ¬ k = 2 ∧ ¬ k = 3) :
  Calls Try.prog 45 #[.agg #[.int .i64 k, .int .i64 id, vv, .int .i64 f, .int .i64 x]] w (FreshC w (k, (id, xs), f, x) vv) := by
 obtain ⟨va, vc, rfl⟩ := ints_len h
 have HN : Hid (updB (k, (id, xs), f, x) = false) := Lib.hid (upd_no (by unfold insP; simp only; omega) (by unfold delP; simp only; omega) (by unfold setP; simp only; omega))
 have e1 : (k == 1) = false := by simp [hk.1]
 have e2 : (k == 2) = false := by simp [hk.2.1]
 have e3 : (k == 3) = false := by simp [hk.2.2]
 clear hk h
 go_enter Try.func45, Try.ntmps45
 go_wp2
 go_ret2
 exact freshC_no HN.out ((Below.refl _ _).alloc (Nat.le_refl _) _)
theorem changeOf_any (k id f x : Int) (vv : Value) (xs : List Int) (w : World) (h : Ints w vv xs) (hn : xs.length ≤ 1048576) :
  Calls Try.prog 45 #[.agg #[.int .i64 k, .int .i64 id, vv, .int .i64 f, .int .i64 x]] w (FreshC w (k, (id, xs), f, x) vv) := by
 by_cases h1 : k = 1
 ·
  subst h1; exact changeOf_ins id f x vv xs w h hn
 ·
  by_cases h2 : k = 2
  ·
   subst h2; exact changeOf_del id f x vv xs w h hn
  ·
   by_cases h3 : k = 3
   ·
    subst h3; exact changeOf_set id f x vv xs w h hn
   ·
    exact changeOf_none k id f x vv xs w h ⟨h1, h2, h3⟩
theorem short_segs {ss : List (List VerD)} {now : Int} (h : storeB ss now = true) : ss.length ≤ 1048576 ∧ ∀ j, j < ss.length → (ss.getD j []).length ≤ 1048576 := by
 obtain ⟨⟨h1, _⟩, h2, _⟩ := store_iff h
 exact ⟨by omega, fun j hj => by have := h2 j hj; omega⟩
theorem ins_any (va : Option Addr) (vc : Nat) (xs : List Int) (g n : Nat) (F : Nat → Prop) (ss : List (List VerD)) (id f x now : Int) (w : World) (h : SlO 102 tSegP w F (.slice (some ⟨g, 0, none⟩) n n) ss) (hn : n = ss.length) (hst : storeB ss now = true) (hF : ∀ q, w.heap.size ≤ q → F q) (h3 : now < 100000) (hu : updB (1, (id, xs), f, x) = true) (gx : SlR tInt w (.slice va xs.length vc) xs) :
  Calls Try.prog 137 #[.agg #[.int .i64 id, .slice va xs.length vc], .slice (some ⟨g, 0, none⟩) n n, .int .i64 (now + 1)] w (Applied w F (.slice (some ⟨g, 0, none⟩) n n) (applyB (ss, now) (1, (id, xs), f, x)).1.1 (applyB (ss, now) (1, (id, xs), f, x)).2) := by
 obtain ⟨k1, k2⟩ := short_segs hst
 have h8 : n ≤ 1048576 := by omega
 have hs : ∀ j, j < n → (ss.getD j []).length ≤ 1048576 := fun j hj => k2 j (by omega)
 have hx : xs.length = 3 := by
  rcases upd_cases hu with q | q | q
  ·
   exact rowB_len3 q.2.1
  ·
   exact absurd q.1 (show ¬ (1 : Int) = 2 by decide)
  ·
   exact absurd q.1 (show ¬ (1 : Int) = 3 by decide)
 by_cases hsg : segI ss id < n
 ·
  rw [apply_no (fun q => (q.2.2.2.1.1 rfl) (by rw [← hn]; exact hsg))]
  by_cases hrm : roomI ss < n
  ·
   exact insApply_there g n F ss id (now + 1) va vc xs w h hn h8 hs hF hrm hsg
  ·
   exact insApply_full g n F ss id (now + 1) va vc xs w h hn h8 hs hF hrm
 ·
  by_cases hrm : roomI ss < n
  ·
   have hok : okP ss now (1, (id, xs), f, x) := ⟨hst, hu, h3, ⟨fun _ => by rw [← hn]; exact hsg, fun _ => rfl⟩, fun _ => by rw [← hn]; exact hrm⟩
   have HDN : doneL ss (now + 1) (1, (id, xs), f, x) = addL ss (roomI ss) (id, xs, now + 1, -1) := by unfold doneL; rw [if_pos rfl]
   rw [apply_yes hok, HDN]
   exact insApply g n F ss id (now + 1) va vc xs w h hn h8 hs hF hrm hsg gx (by omega)
  ·
   rw [apply_no (fun q => hrm (by rw [hn]; exact q.2.2.2.2 (show (1 : Int) ≠ 2 by decide)))]
   exact insApply_full g n F ss id (now + 1) va vc xs w h hn h8 hs hF hrm
theorem del_any (xs : List Int) (g n : Nat) (F : Nat → Prop) (ss : List (List VerD)) (id f x now : Int) (w : World) (h : SlO 102 tSegP w F (.slice (some ⟨g, 0, none⟩) n n) ss) (hn : n = ss.length) (hst : storeB ss now = true) (hF : ∀ q, w.heap.size ≤ q → F q) (h3 : now < 100000) (hu : updB (2, (id, xs), f, x) = true) :
  Calls Try.prog 160 #[.agg #[.int .i64 id], .slice (some ⟨g, 0, none⟩) n n, .int .i64 (now + 1)] w (Applied w F (.slice (some ⟨g, 0, none⟩) n n) (applyB (ss, now) (2, (id, xs), f, x)).1.1 (applyB (ss, now) (2, (id, xs), f, x)).2) := by
 obtain ⟨k1, k2⟩ := short_segs hst
 have h8 : n ≤ 1048576 := by omega
 have hs : ∀ j, j < n → (ss.getD j []).length ≤ 1048576 := fun j hj => k2 j (by omega)
 by_cases hsg : segI ss id < n
 ·
  have hsg2 : segI ss id < ss.length := by omega
  have hok : okP ss now (2, (id, xs), f, x) := ⟨hst, hu, h3, ⟨fun q => absurd q (show ¬ (2 : Int) = 1 by decide), fun q => absurd hsg2 q⟩, fun q => absurd rfl q⟩
  have HDN : doneL ss (now + 1) (2, (id, xs), f, x) = dieL ss (segI ss id) (verI (ss.getD (segI ss id) []) id) (now + 1) := by unfold doneL kill1; rw [if_neg (show ¬ (2 : Int) = 1 by decide), if_pos rfl]
  rw [apply_yes hok, HDN]
  exact delApply g n F ss id (now + 1) w h hn h8 hs hF hsg
 ·
  rw [apply_no (fun q => absurd (q.2.2.2.1.2 (by rw [← hn]; exact hsg)) (show ¬ (2 : Int) = 1 by decide))]
  exact delApply_none g n F ss id (now + 1) w h hn h8 hs hF hsg
theorem set_any (xs : List Int) (g n : Nat) (F : Nat → Prop) (ss : List (List VerD)) (id f x now : Int) (w : World) (h : SlO 102 tSegP w F (.slice (some ⟨g, 0, none⟩) n n) ss) (hn : n = ss.length) (hst : storeB ss now = true) (hF : ∀ q, w.heap.size ≤ q → F q) (h3 : now < 100000) (hu : updB (3, (id, xs), f, x) = true) :
  Calls Try.prog 164 #[.agg #[.int .i64 id, .int .i64 f, .int .i64 x], .slice (some ⟨g, 0, none⟩) n n, .int .i64 (now + 1)] w (Applied w F (.slice (some ⟨g, 0, none⟩) n n) (applyB (ss, now) (3, (id, xs), f, x)).1.1 (applyB (ss, now) (3, (id, xs), f, x)).2) := by
 obtain ⟨k1, k2⟩ := short_segs hst
 have h8 : n ≤ 1048576 := by omega
 have hs : ∀ j, j < n → (ss.getD j []).length ≤ 1048576 := fun j hj => k2 j (by omega)
 have hf : 0 ≤ f ∧ f ≤ 2 := by
  rcases upd_cases hu with q | q | q
  ·
   exact absurd q.1 (show ¬ (3 : Int) = 1 by decide)
  ·
   exact absurd q.1 (show ¬ (3 : Int) = 2 by decide)
  ·
   exact q.2.2.2.1
 by_cases hsg : segI ss id < n
 ·
  have hsg2 : segI ss id < ss.length := by omega
  by_cases hrm : roomI ss < n
  ·
   have hok : okP ss now (3, (id, xs), f, x) := ⟨hst, hu, h3, ⟨fun q => absurd q (show ¬ (3 : Int) = 1 by decide), fun q => absurd hsg2 q⟩, fun _ => by rw [← hn]; exact hrm⟩
   have HDN : doneL ss (now + 1) (3, (id, xs), f, x) = addL (dieL ss (segI ss id) (verI (ss.getD (segI ss id) []) id) (now + 1)) (roomI ss) (id, (oldV ss id).2.1.set f.toNat x, now + 1, -1) := by unfold doneL kill1; rw [if_neg (show ¬ (3 : Int) = 1 by decide), if_neg (show ¬ (3 : Int) = 2 by decide)]
   rw [apply_yes hok, HDN]
   have h3v : (oldV ss id).2.1.length = 3 := old_three hst hsg2
   obtain ⟨fn, rfl⟩ := Int.eq_ofNat_of_zero_le hf.1
   rw [Int.toNat_natCast]
   exact setApply g n F ss id x (now + 1) fn w h hn h8 hs hF hsg hrm (by omega) (by omega)
  ·
   rw [apply_no (fun q => hrm (by rw [hn]; exact q.2.2.2.2 (show (3 : Int) ≠ 2 by decide)))]
   exact setApply_full g n F ss id f x (now + 1) w h hn h8 hs hF hsg hrm
 ·
  rw [apply_no (fun q => absurd (q.2.2.2.1.2 (by rw [← hn]; exact hsg)) (show ¬ (3 : Int) = 1 by decide))]
  exact setApply_none g n F ss id f x (now + 1) w h hn h8 hs hF hsg
theorem apply_len (s : StoreD) (u : UpdD) : (applyB s u).1.1.length = s.1.length := by
 by_cases h : okP s.1 s.2 u
 ·
  rw [apply_yes h]
  show (doneL s.1 (s.2 + 1) u).length = _
  unfold doneL kill1
  split
  ·
   rw [add_len]
  ·
   split
   ·
    rw [die_len]
   ·
    rw [add_len, die_len]
 ·
  rw [apply_no h]
theorem apply_now (s : StoreD) (u : UpdD) : (applyB s u).1.2 = if (applyB s u).2 then s.2 + 1 else s.2 := by
 by_cases h : okP s.1 s.2 u
 ·
  rw [apply_yes h]; rfl
 ·
  rw [apply_no h]; rfl
set_option maxHeartbeats 16000000 in
set_option maxRecDepth 100000 in
theorem implApplyUpdatesL (now : Int) (sv lv : Value) (ss : List (List VerD)) (l : List UpdD) (w : World) (h : SlR tVersionS w sv ss) (hs : zL tVersionS ss ≤ 1048576) (g : SlR tUpdate w lv l) (hlen : l.length ≤ 1048576) (hsm : ∀ j, j < l.length → (l.getD j u0D).2.1.2.length ≤ 1048576) :
  Calls Try.prog 25 #[.agg #[sv, .int .i64 now], lv] w (FreshNI w (applysB (ss, now) l)) := by
 obtain ⟨a, cap, rfl⟩ := slR_len h
 have HSL := Lib.hid (zL_len hs)
 have HZS := Lib.hid hs
 have HT := Lib.hid hsm
 have H := Lib.hid h
 have G := Lib.hid g
 have HC := Lib.hid (fun W h => copyStore_X now (.slice a ss.length cap) ss W h hs)
 obtain ⟨la, lc, rfl⟩ := slR_len g
 clear h g hs hsm
 cases hst : storeB ss now with
 | false =>
  have HE : Hid (applysB (ss, now) l = ((ss, now), 0)) := Lib.hid (by rw [← applys_all]; exact applys_bad hst (Nat.le_refl _))
  have HST := Lib.hid hst
  clear hst
  have d := Lib.hid (show Below w.heap.size w ((w.alloc (.cells #[.slice a ss.length cap, .int .i64 now] 41)).alloc (.cells #[.slice none 0 0, .int .i64 0] 41)) from ((Below.refl _ _).alloc (Nat.le_refl _) _).alloc (by simp <;> omega) _)
  have BZ : Hid (((w.alloc (.cells #[.slice a ss.length cap, .int .i64 now] 41)).alloc (.cells #[.slice none 0 0, .int .i64 0] 41)).heap[(w.heap.size + 1)]? = some (.cells #[.slice none 0 0, .int .i64 0] 41 (0, 0))) := Lib.hid (by
   have := heap_alloc_new (w.alloc (.cells #[.slice a ss.length cap, .int .i64 now] 41)) (.cells #[.slice none 0 0, .int .i64 0] 41)
   simpa only [World.size_alloc] using this)
  have YW : Hid (w.heap.size + 1 < ((w.alloc (.cells #[.slice a ss.length cap, .int .i64 now] 41)).alloc (.cells #[.slice none 0 0, .int .i64 0] 41)).heap.size) := Lib.hid (by simp)
  go_enter Try.func25, Try.ntmps25
  go_wp2_with fail
  generalize ((w.alloc (.cells #[.slice a ss.length cap, .int .i64 now] 41)).alloc (.cells #[.slice none 0 0, .int .i64 0] 41)) = W at *
  refine (HC.out W (slR_below tVersionS_law H.out d.out)).mono ?_
  rintro e w4 ⟨fa, fc, rfl, of, c4⟩
  have PF := Lib.hid (slO_lt tX_law of)
  replace BZ := Lib.hid ((c4.block (w.heap.size + 1) (Array.getElem?_eq_some_iff.1 BZ.out).1).trans BZ.out)
  replace d := Lib.hid (d.out.trans (c4.mono d.out.size))
  have Z_w4 := Lib.hid (show W.heap.size ≤ w4.heap.size from c4.size)
  have QF := Lib.hid (fun q (h : since W q ∧ q < w4.heap.size) => (show W.heap.size ≤ q ∧ q < w4.heap.size from h))
  clear of c4
  have hal : Below w4.heap.size w4 (w4.alloc (.cells #[.slice fa ss.length fc, .int .i64 now] 41)) := (Below.refl _ _).alloc (Nat.le_refl _) _
  have BX := Lib.hid (heap_alloc_new w4 (.cells #[.slice fa ss.length fc, .int .i64 now] 41))
  have Y_X := Lib.hid (show w4.heap.size < (w4.alloc (.cells #[.slice fa ss.length fc, .int .i64 now] 41)).heap.size by simp [World.size_alloc])
  replace BZ := Lib.hid ((hal.block (w.heap.size + 1) (Array.getElem?_eq_some_iff.1 BZ.out).1).trans BZ.out)
  replace PF := Lib.hid (slO_fresh tX_law PF.out hal)
  replace d := Lib.hid (d.out.trans (hal.mono d.out.size))
  clear hal
  have p_BX_0 := (cell_of_row (w4.alloc (.cells #[.slice fa ss.length fc, .int .i64 now] 41)) _ 0 _ _ _ BX.out).trans (show _ = some (Value.slice fa ss.length fc) from rfl)
  have p_BX_1 := (cell_of_row (w4.alloc (.cells #[.slice fa ss.length fc, .int .i64 now] 41)) _ 1 _ _ _ BX.out).trans (show _ = some (Value.int .i64 now) from rfl)
  go_wp2_with fail
  clear p_BX_0 p_BX_1
  generalize w4.alloc (.cells #[.slice fa ss.length fc, .int .i64 now] 41) = w5 at *
  refine (checkStore_no (.slice fa ss.length fc) ss now w5 (slO_reads tVersionS_law (slO_X PF.out)) HZS.out HST.out).mono ?_
  rintro e w6 ⟨rfl, c6⟩
  replace BZ := Lib.hid ((c6.block (w.heap.size + 1) (Array.getElem?_eq_some_iff.1 BZ.out).1).trans BZ.out)
  replace BX := Lib.hid ((c6.block w4.heap.size (Array.getElem?_eq_some_iff.1 BX.out).1).trans BX.out)
  replace PF := Lib.hid (slO_fresh tX_law PF.out c6)
  replace d := Lib.hid (d.out.trans (c6.mono d.out.size))
  have Z_w6 := Lib.hid (show w5.heap.size ≤ w6.heap.size from c6.size)
  clear c6
  have p_BX_0 := (cell_of_row w6 _ 0 _ _ _ BX.out).trans (show _ = some (Value.slice fa ss.length fc) from rfl)
  have p_BX_1 := (cell_of_row w6 _ 1 _ _ _ BX.out).trans (show _ = some (Value.int .i64 now) from rfl)
  have p_BZ_0 := (cell_of_row w6 _ 0 _ _ _ BZ.out).trans (show _ = some (Value.slice none 0 0) from rfl)
  have p_BZ_1 := (cell_of_row w6 _ 1 _ _ _ BZ.out).trans (show _ = some (Value.int .i64 0) from rfl)
  have f_BZ_0 := frozen_of_row w6 _ 0 _ _ BZ.out
  have f_BZ_1 := frozen_of_row w6 _ 1 _ _ BZ.out
  have tt : Turn (fun q => q = w.heap.size + 1) w6 ((w6.setCell ⟨w.heap.size + 1, 0, none⟩ (.slice fa ss.length fc)).setCell ⟨w.heap.size + 1, 1, none⟩ (.int .i64 now)) := ((Turn.refl (fun q => q = w.heap.size + 1) _).trans (turn_set (G := fun q => q = w.heap.size + 1) (g := w.heap.size + 1) (j := 0) (u := .slice fa ss.length fc) rfl)).trans (turn_set (G := fun q => q = w.heap.size + 1) (g := w.heap.size + 1) (j := 1) (u := .int .i64 now) rfl)
  have r := heap_setCell_same _ (w.heap.size + 1) 1 _ _ (.int .i64 now) (heap_setCell_same w6 (w.heap.size + 1) 0 _ _ (.slice fa ss.length fc) BZ.out)
  have e0 := cell_of_row _ _ 0 _ _ _ r
  have e1 := cell_of_row _ _ 1 _ _ _ r
  simp at e0 e1
  have y0 := YW.out
  have y1 := Z_w4.out
  have y2 := Y_X.out
  have y3 := Z_w6.out
  have DF := Lib.hid (below_turn d.out tt (fun q h => by omega) d.out.size)
  have PE := Lib.hid (slO_turn tX_law PF.out tt (fun q h1 h2 => by have r1 := QF.out q h1; omega))
  have QE := Lib.hid (fun q h => (show w.heap.size ≤ q by have r1 := QF.out q h; omega))
  clear tt r y0 y1 y2 y3
  go_wp2
  refine bodyPost_ret (v := .tuple #[.agg #[.slice fa ss.length fc, .int .i64 now], .int .i64 0]) ?_ rfl ?_
  ·
   simp [results, Try.f25, go_sem, e0, e1]
  ·
   show FreshNI _ _ _ _; rw [HE.out]; exact ⟨[.slice fa ss.length fc, .int .i64 now], _, rfl, tStore_mkO (slO_X PE.out) (fun q h => h), QE.out, DF.out⟩
 | true =>
  have HST := Lib.hid hst
  have HNN := Lib.hid (store_iff hst).1.2
  clear hst
  have d := Lib.hid (show Below w.heap.size w ((w.alloc (.cells #[.slice a ss.length cap, .int .i64 now] 41)).alloc (.cells #[.slice none 0 0, .int .i64 0] 41)) from ((Below.refl _ _).alloc (Nat.le_refl _) _).alloc (by simp <;> omega) _)
  have BZ : Hid (((w.alloc (.cells #[.slice a ss.length cap, .int .i64 now] 41)).alloc (.cells #[.slice none 0 0, .int .i64 0] 41)).heap[(w.heap.size + 1)]? = some (.cells #[.slice none 0 0, .int .i64 0] 41 (0, 0))) := Lib.hid (by
   have := heap_alloc_new (w.alloc (.cells #[.slice a ss.length cap, .int .i64 now] 41)) (.cells #[.slice none 0 0, .int .i64 0] 41)
   simpa only [World.size_alloc] using this)
  have YW : Hid (w.heap.size + 1 < ((w.alloc (.cells #[.slice a ss.length cap, .int .i64 now] 41)).alloc (.cells #[.slice none 0 0, .int .i64 0] 41)).heap.size) := Lib.hid (by simp)
  go_enter Try.func25, Try.ntmps25
  go_wp2_with fail
  generalize ((w.alloc (.cells #[.slice a ss.length cap, .int .i64 now] 41)).alloc (.cells #[.slice none 0 0, .int .i64 0] 41)) = W at *
  refine (HC.out W (slR_below tVersionS_law H.out d.out)).mono ?_
  rintro e w4 ⟨fa, fc, rfl, of, c4⟩
  have PF := Lib.hid (slO_lt tX_law of)
  replace BZ := Lib.hid ((c4.block (w.heap.size + 1) (Array.getElem?_eq_some_iff.1 BZ.out).1).trans BZ.out)
  replace d := Lib.hid (d.out.trans (c4.mono d.out.size))
  have Z_w4 := Lib.hid (show W.heap.size ≤ w4.heap.size from c4.size)
  have QF := Lib.hid (fun q (h : since W q ∧ q < w4.heap.size) => (show W.heap.size ≤ q ∧ q < w4.heap.size from h))
  clear of c4
  have hal : Below w4.heap.size w4 (w4.alloc (.cells #[.slice fa ss.length fc, .int .i64 now] 41)) := (Below.refl _ _).alloc (Nat.le_refl _) _
  have BX := Lib.hid (heap_alloc_new w4 (.cells #[.slice fa ss.length fc, .int .i64 now] 41))
  have Y_X := Lib.hid (show w4.heap.size < (w4.alloc (.cells #[.slice fa ss.length fc, .int .i64 now] 41)).heap.size by simp [World.size_alloc])
  replace BZ := Lib.hid ((hal.block (w.heap.size + 1) (Array.getElem?_eq_some_iff.1 BZ.out).1).trans BZ.out)
  replace PF := Lib.hid (slO_fresh tX_law PF.out hal)
  replace d := Lib.hid (d.out.trans (hal.mono d.out.size))
  clear hal
  have p_BX_0 := (cell_of_row (w4.alloc (.cells #[.slice fa ss.length fc, .int .i64 now] 41)) _ 0 _ _ _ BX.out).trans (show _ = some (Value.slice fa ss.length fc) from rfl)
  have p_BX_1 := (cell_of_row (w4.alloc (.cells #[.slice fa ss.length fc, .int .i64 now] 41)) _ 1 _ _ _ BX.out).trans (show _ = some (Value.int .i64 now) from rfl)
  go_wp2_with fail
  clear p_BX_0 p_BX_1
  generalize w4.alloc (.cells #[.slice fa ss.length fc, .int .i64 now] 41) = w5 at *
  obtain ⟨us, Fs, hls, hsr, hX, hdj⟩ := ls_X PF.out
  have HUL := Lib.hid hsr.1
  refine (checkStore_own (.slice fa ss.length fc) ss now us w5 (slO_reads tVersionS_law (slO_X PF.out)) HZS.out HST.out hls hsr).mono ?_
  rintro e w6 ⟨tg, tbs, rfl, ho, htb, c6⟩
  have PT0 := tab_of ho htb HUL.out hX hdj c6 (Nat.le_refl _)
  rw [HUL.out]
  have y0 := YW.out
  have y1 := Z_w4.out
  have y2 := Y_X.out
  have PT := Lib.hid (slO_mono PT0 (F' := fun q => w.heap.size + 1 < q ∧ q ≠ w4.heap.size) (fun q h => by
   rcases h with h | h
   ·
    have r := QF.out q h.1; exact ⟨by omega, by omega⟩
   ·
    exact ⟨by omega, by omega⟩))
  replace BZ := Lib.hid ((c6.block (w.heap.size + 1) (Array.getElem?_eq_some_iff.1 BZ.out).1).trans BZ.out)
  replace BX := Lib.hid ((c6.block w4.heap.size (Array.getElem?_eq_some_iff.1 BX.out).1).trans BX.out)
  replace d := Lib.hid (d.out.trans (c6.mono d.out.size))
  have Z_w6 := Lib.hid (show w5.heap.size ≤ w6.heap.size from c6.size)
  have zz : w.heap.size + 1 < w4.heap.size ∧ w4.heap.size < w6.heap.size := ⟨by omega, by have := c6.size; omega⟩
  have ZZ := Lib.hid zz
  clear PF QF PT0 hls hsr hX hdj ho htb c6 zz HUL YW Z_w4 Y_X Z_w6 y0 y1 y2
  generalize w4.heap.size = R at *
  go_wp2
  go_loopw [9, 27] (fun c i wr => ∃ (k : Nat) (sk : List (List VerD)) (nk cnt : Int), k ≤ l.length ∧ i = .int .i64 k ∧ c = .int .i64 cnt ∧ Hid (applysTo (ss, now) l k = ((sk, nk), cnt)) ∧ wr.heap[w.heap.size + 1]? = some (.cells #[.slice none 0 0, .int .i64 0] 41 (0, 0)) ∧ wr.heap[R]? = some (.cells #[.slice fa ss.length fc, .int .i64 nk] 41 (0, 0)) ∧ SlO 102 tSegP wr (fun q => w.heap.size + 1 < q ∧ q ≠ R) (.slice (some ⟨tg, 0, none⟩) ss.length ss.length) sk ∧ Below w.heap.size w wr ∧ R < wr.heap.size ∧ Hid (sk.length = ss.length)) (fun _ i _ => l.length - (intOf i).toNat)
  case atStart => exact ⟨0, _, _, 0, Nat.zero_le _, rfl, rfl, Lib.hid (applys_zero (ss, now) l), BZ.out, BX.out, PT.out, d.out, ZZ.out.2, Lib.hid rfl⟩
  case round =>
   obtain ⟨k, sk, nk, cnt, hk, rfl, rfl, HAP, r1, r2, hown, hbel, hsz, HKL⟩ := hrel
   have hcn := applys_count (s := (ss, now)) (l := l) hk
   have hsk := applys_store (s := (ss, now)) (l := l) HST.out hk
   rw [HAP.out] at hcn hsk
   have n1 : 0 ≤ cnt := hcn.1
   have n2 : cnt ≤ 1048576 := by have h2 : cnt ≤ (k : Int) := hcn.2; omega
   have hnk := (store_iff hsk).1.2
   have n3 : 0 ≤ nk := hnk.1
   have n4 : nk ≤ 100000 := hnk.2
   have HSK := Lib.hid hsk
   clear BZ BX PT d hcn hsk hnk
   by_cases hlt : k < l.length
   ·
    have i1 : (0 : Int) ≤ (k : Int) := by omega
    have i2 : (k : Int) < (l.length : Int) := by omega
    obtain ⟨b, off, cap', ua, uc, hv, hbl, c0, c1, c2, c3, c4, hx⟩ := updR_at G.out hlt
    simp only [Value.slice.injEq] at hv
    obtain ⟨rfl, _, rfl⟩ := hv
    have hul := HT.out k hlt
    have HNX := applys_step (s := (ss, now)) hlt
    have HAN := apply_now (sk, nk) (l.getD k u0D)
    have HAL := Lib.hid (apply_len (sk, nk) (l.getD k u0D))
    rw [HAP.out] at HNX
    replace HNX := Lib.hid HNX
    replace HAN := Lib.hid HAN
    generalize l.getD k u0D = u at *
    obtain ⟨uk, ⟨uid, uxs⟩, uf, ux⟩ := u
    simp only at c0 c1 c2 c3 c4 hul
    change SlR tInt w (.slice ua uxs.length uc) uxs at hx
    change Hid (applysTo (ss, now) l (k + 1) = ((applyB (sk, nk) (uk, (uid, uxs), uf, ux)).1, if (applyB (sk, nk) (uk, (uid, uxs), uf, ux)).2 = true then cnt + 1 else cnt)) at HNX
    have HUL := Lib.hid hul
    have e0 := (hbel.cell (p := ⟨b, off + k * 5, none⟩) hbl).trans c0
    have e1 := (hbel.cell (p := ⟨b, off + k * 5 + 1, none⟩) hbl).trans c1
    have e2 := (hbel.cell (p := ⟨b, off + k * 5 + 2, none⟩) hbl).trans c2
    have e3 := (hbel.cell (p := ⟨b, off + k * 5 + 3, none⟩) hbl).trans c3
    have e4 := (hbel.cell (p := ⟨b, off + k * 5 + 4, none⟩) hbl).trans c4
    have GX := Lib.hid hx
    have BZ := Lib.hid r1
    have BX := Lib.hid r2
    have PT := Lib.hid (slO_lt tSegP_law hown)
    have QT := Lib.hid (fun q (h : (w.heap.size + 1 < q ∧ q ≠ R) ∧ q < wr.heap.size) => h)
    have d := Lib.hid hbel
    have ZR := Lib.hid hsz
    have ZR2 := Lib.hid ZZ.out.1
    clear c0 c1 c2 c3 c4 hbl hx r1 r2 hown hbel hsz hul HAP
    have hal : Below wr.heap.size wr (wr.alloc (.cells #[.int .i64 uk, .int .i64 uid, .slice ua uxs.length uc, .int .i64 uf, .int .i64 ux] 31)) := (Below.refl _ _).alloc (Nat.le_refl _) _
    have YU := Lib.hid (show wr.heap.size < (wr.alloc (.cells #[.int .i64 uk, .int .i64 uid, .slice ua uxs.length uc, .int .i64 uf, .int .i64 ux] 31)).heap.size by simp [World.size_alloc])
    replace BZ := Lib.hid ((hal.block (w.heap.size + 1) (Array.getElem?_eq_some_iff.1 BZ.out).1).trans BZ.out)
    replace BX := Lib.hid ((hal.block R (Array.getElem?_eq_some_iff.1 BX.out).1).trans BX.out)
    replace PT := Lib.hid (slO_fresh tSegP_law PT.out hal)
    replace d := Lib.hid (d.out.trans (hal.mono d.out.size))
    clear hal
    have p_BX_0 := (cell_of_row (wr.alloc (.cells #[.int .i64 uk, .int .i64 uid, .slice ua uxs.length uc, .int .i64 uf, .int .i64 ux] 31)) _ 0 _ _ _ BX.out).trans (show _ = some (Value.slice fa ss.length fc) from rfl)
    have p_BX_1 := (cell_of_row (wr.alloc (.cells #[.int .i64 uk, .int .i64 uid, .slice ua uxs.length uc, .int .i64 uf, .int .i64 ux] 31)) _ 1 _ _ _ BX.out).trans (show _ = some (Value.int .i64 nk) from rfl)
    go_wp2_with fail
    clear p_BX_0 p_BX_1 e0 e1 e2 e3 e4
    generalize wr.alloc (.cells #[.int .i64 uk, .int .i64 uid, .slice ua uxs.length uc, .int .i64 uf, .int .i64 ux] 31) = w2 at *
    refine (changeOf_any uk uid uf ux (.slice ua uxs.length uc) uxs w2 (slR_ints (slR_below tInt_law GX.out d.out)) HUL.out).mono ?_
    rintro e w3 ⟨rfl, c3⟩
    replace BZ := Lib.hid ((c3.block (w.heap.size + 1) (Array.getElem?_eq_some_iff.1 BZ.out).1).trans BZ.out)
    replace BX := Lib.hid ((c3.block R (Array.getElem?_eq_some_iff.1 BX.out).1).trans BX.out)
    replace PT := Lib.hid (slO_fresh tSegP_law PT.out c3)
    replace d := Lib.hid (d.out.trans (c3.mono d.out.size))
    have Z_w3 := Lib.hid (show w2.heap.size ≤ w3.heap.size from c3.size)
    clear c3
    by_cases hu : updB (uk, (uid, uxs), uf, ux) = true
    rotate_left
    ·
     have hap : applyB (sk, nk) (uk, (uid, uxs), uf, ux) = ((sk, nk), false) := apply_no (fun q => hu q.2.1)
     rw [hap] at HNX
     have HN2 : Hid (applysTo (ss, now) l (k + 1) = ((sk, nk), cnt)) := HNX
     have hu2 : updB (uk, (uid, uxs), uf, ux) = false := by simpa using hu
     rw [hu2]
     clear hu hu2 hap HNX HAN HAL
     have y0 := ZR.out
     have y1 := ZR2.out
     have y2 := YU.out
     have y3 := Z_w3.out
     have PW := Lib.hid (slO_mono PT.out (F' := (fun q => w.heap.size + 1 < q ∧ q ≠ R)) (fun q h => h.1))
     have zw : R < w3.heap.size := by omega
     have ZW := Lib.hid zw
     have HK2 := HKL
     clear zw y0 y1 y2 y3
     go_wp2
     go_roundw
     case rel => exact ⟨k + 1, sk, nk, cnt, by omega, by go_num, rfl, HN2, BZ.out, BX.out, PW.out, d.out, ZW.out, HK2⟩
     case measure => simp [intOf]; omega
    by_cases hnk : nk < 100000
    rotate_left
    ·
     have hap : applyB (sk, nk) (uk, (uid, uxs), uf, ux) = ((sk, nk), false) := apply_no (fun q => hnk q.2.2.1)
     rw [hap] at HNX
     have HN2 : Hid (applysTo (ss, now) l (k + 1) = ((sk, nk), cnt)) := HNX
     have HTM := Lib.hid (isTime_any (nk + 1))
     rw [decide_eq_false (by omega : ¬ (0 ≤ nk + 1 ∧ nk + 1 ≤ 100000))] at HTM
     rw [hu]
     rw [if_pos rfl]
     generalize changeV (uk, (uid, uxs), uf, ux) (.slice ua uxs.length uc) = cv at *
     clear hu hap HNX HAN HAL hnk
     go_wp2_with fail
     refine (HTM.out _).mono ?_
     rintro e wx ⟨rfl, rfl⟩
     have y0 := ZR.out
     have y1 := ZR2.out
     have y2 := YU.out
     have y3 := Z_w3.out
     have PW := Lib.hid (slO_mono PT.out (F' := (fun q => w.heap.size + 1 < q ∧ q ≠ R)) (fun q h => h.1))
     have zw : R < wx.heap.size := by omega
     have ZW := Lib.hid zw
     have HK2 := HKL
     clear zw y0 y1 y2 y3
     go_wp2
     go_roundw
     case rel => exact ⟨k + 1, sk, nk, cnt, by omega, by go_num, rfl, HN2, BZ.out, BX.out, PW.out, d.out, ZW.out, HK2⟩
     case measure => simp [intOf]; omega
    have HTM := Lib.hid (isTime_any (nk + 1))
    rw [decide_eq_true (by omega : 0 ≤ nk + 1 ∧ nk + 1 ≤ 100000)] at HTM
    have HUV := Lib.hid hu
    have HNK := Lib.hid hnk
    have hkind : uk = 1 ∨ uk = 2 ∨ uk = 3 := by
     rcases upd_cases hu with q | q | q
     ·
      exact Or.inl q.1
     ·
      exact Or.inr (Or.inl q.1)
     ·
      exact Or.inr (Or.inr q.1)
    rw [hu]
    rw [if_pos rfl]
    clear hu hnk
    rcases hkind with rfl | rfl | rfl
    ·
     have hcv : changeV (1, (uid, uxs), uf, ux) (.slice ua uxs.length uc) = .iface 114 (.agg #[.int .i64 uid, .slice ua uxs.length uc]) := rfl
     rw [hcv]
     clear hcv
     have na_applyTo : ∀ w : World, (nilAhead (Try.prog.types.size + Made.depth) 114 (.agg #[.int .i64 uid, .slice ua uxs.length uc]) "loop.example/g01986/impl.applyTo").run Try.prog w = .ok (some false) w := fun _ => by kernel_rfl
     have me_applyTo : ∀ w : World, (method (Try.prog.types.size + Made.depth) 114 (.agg #[.int .i64 uid, .slice ua uxs.length uc]) "loop.example/g01986/impl.applyTo").run Try.prog w = .ok (137, .agg #[.int .i64 uid, .slice ua uxs.length uc]) w := fun _ => by kernel_rfl
     have y0 := ZR.out
     have y1 := ZR2.out
     have y2 := YU.out
     have y3 := Z_w3.out
     have HF : Hid (∀ q, w3.heap.size ≤ q → (fun q => w.heap.size + 1 < q ∧ q ≠ R) q) := Lib.hid (fun q h => ⟨by omega, by omega⟩)
     clear y0 y1 y2 y3
     go_wp2_with fail
     refine (HTM.out _).mono ?_
     rintro e wx ⟨rfl, rfl⟩
     obtain ⟨⟨⟨s2, m2⟩, is⟩, hap⟩ : ∃ p, p = applyB (sk, nk) (1, (uid, uxs), uf, ux) := ⟨_, rfl⟩
     have HCA := Lib.hid (ins_any ua uc uxs tg ss.length (fun q => w.heap.size + 1 < q ∧ q ≠ R) sk uid uf ux nk wx (slO_mono PT.out (fun q h => h.1)) HKL.out.symm HSK.out HF.out HNK.out HUV.out (slR_below tInt_law GX.out d.out))
     rw [← hap] at HNX HAN HAL HCA
     clear hap
     cases is with
     | false =>
      have HN1 : Hid (applysTo (ss, now) l (k + 1) = ((s2, m2), cnt)) := HNX
      have hm2 : m2 = nk := HAN.out
      have HN2 : Hid (applysTo (ss, now) l (k + 1) = ((s2, nk), cnt)) := Lib.hid (by rw [← hm2]; exact HN1.out)
      clear hm2 HN1 HNX HAN
      go_wp2_with fail
      refine HCA.out.mono ?_
      rintro e w8 ⟨rfl, o8, t8⟩
      have y0 := ZR.out
      have y1 := ZR2.out
      have y2 := YU.out
      have y3 := Z_w3.out
      have HK2 : Hid (s2.length = ss.length) := Lib.hid (HAL.out.trans HKL.out)
      have PW := Lib.hid o8
      have zw : R < w8.heap.size := Nat.lt_of_lt_of_le (by omega) t8.size
      replace BZ := Lib.hid ((t8.block (w.heap.size + 1) (Array.getElem?_eq_some_iff.1 BZ.out).1 (fun h => by have r2 := h.1; omega)).trans BZ.out)
      replace BX := Lib.hid ((t8.block R (Array.getElem?_eq_some_iff.1 BX.out).1 (fun h => h.2 rfl)).trans BX.out)
      replace d := Lib.hid (below_turn d.out t8 (fun q h => by have r2 := h.1; omega) d.out.size)
      have ZW := Lib.hid zw
      clear o8 t8 zw HCA PT y0 y1 y2 y3
      go_wp2
      go_roundw
      case rel => exact ⟨k + 1, s2, nk, cnt, by omega, by go_num, rfl, HN2, BZ.out, BX.out, PW.out, d.out, ZW.out, HK2⟩
      case measure => simp [intOf]; omega
     | true =>
      have HN1 : Hid (applysTo (ss, now) l (k + 1) = ((s2, m2), cnt + 1)) := HNX
      have hm2 : m2 = nk + 1 := HAN.out
      have HN2 : Hid (applysTo (ss, now) l (k + 1) = ((s2, nk + 1), cnt + 1)) := Lib.hid (by rw [← hm2]; exact HN1.out)
      clear hm2 HN1 HNX HAN
      go_wp2_with fail
      refine HCA.out.mono ?_
      rintro e w8 ⟨rfl, o8, t8⟩
      have y0 := ZR.out
      have y1 := ZR2.out
      have y2 := YU.out
      have y3 := Z_w3.out
      have HK2 : Hid (s2.length = ss.length) := Lib.hid (HAL.out.trans HKL.out)
      have PW := Lib.hid o8
      have zw : R < w8.heap.size := Nat.lt_of_lt_of_le (by omega) t8.size
      replace BZ := Lib.hid ((t8.block (w.heap.size + 1) (Array.getElem?_eq_some_iff.1 BZ.out).1 (fun h => by have r2 := h.1; omega)).trans BZ.out)
      replace BX := Lib.hid ((t8.block R (Array.getElem?_eq_some_iff.1 BX.out).1 (fun h => h.2 rfl)).trans BX.out)
      replace d := Lib.hid (below_turn d.out t8 (fun q h => by have r2 := h.1; omega) d.out.size)
      have ZW := Lib.hid zw
      clear o8 t8 zw HCA PT y0 y1 y2 y3
      have p_BX_0 := (cell_of_row w8 _ 0 _ _ _ BX.out).trans (show _ = some (Value.slice fa ss.length fc) from rfl)
      have p_BX_1 := (cell_of_row w8 _ 1 _ _ _ BX.out).trans (show _ = some (Value.int .i64 nk) from rfl)
      have f_BX_0 := frozen_of_row w8 _ 0 _ _ BX.out
      have f_BX_1 := frozen_of_row w8 _ 1 _ _ BX.out
      have tt : Turn (fun q => q = R) w8 (w8.setCell ⟨R, 1, none⟩ (.int .i64 (nk + 1))) := turn_set (G := fun q => q = R) (g := R) (j := 1) (u := .int .i64 (nk + 1)) rfl
      have r := heap_setCell_same w8 R 1 _ _ (.int .i64 (nk + 1)) BX.out
      simp at r
      have bz := (tt.block (w.heap.size + 1) (Array.getElem?_eq_some_iff.1 BZ.out).1 (fun h => by have r2 : _ = R := h; have := ZR2.out; omega)).trans BZ.out
      have pn := slO_turn tSegP_law PW.out tt (fun q h1 h2 => h1.2 h2)
      have dn := below_turn d.out tt (fun q h => by have r2 : q = R := h; have := ZR2.out; omega) d.out.size
      have zn : R < (w8.setCell ⟨R, 1, none⟩ (.int .i64 (nk + 1))).heap.size := Nat.lt_of_lt_of_le ZW.out tt.size
      have BZN := Lib.hid bz
      have BXN := Lib.hid r
      have PN := Lib.hid pn
      have DN := Lib.hid dn
      have ZN := Lib.hid zn
      clear tt r bz pn dn zn
      go_wp2
      clear p_BX_0 p_BX_1 f_BX_0 f_BX_1
      go_roundw
      case rel => exact ⟨k + 1, s2, nk + 1, cnt + 1, by omega, by go_num, rfl, HN2, BZN.out, BXN.out, PN.out, DN.out, ZN.out, HK2⟩
      case measure => simp [intOf]; omega
    ·
     have hcv : changeV (2, (uid, uxs), uf, ux) (.slice ua uxs.length uc) = .iface 116 (.agg #[.int .i64 uid]) := rfl
     rw [hcv]
     clear hcv
     have na_applyTo : ∀ w : World, (nilAhead (Try.prog.types.size + Made.depth) 116 (.agg #[.int .i64 uid]) "loop.example/g01986/impl.applyTo").run Try.prog w = .ok (some false) w := fun _ => by kernel_rfl
     have me_applyTo : ∀ w : World, (method (Try.prog.types.size + Made.depth) 116 (.agg #[.int .i64 uid]) "loop.example/g01986/impl.applyTo").run Try.prog w = .ok (160, .agg #[.int .i64 uid]) w := fun _ => by kernel_rfl
     have y0 := ZR.out
     have y1 := ZR2.out
     have y2 := YU.out
     have y3 := Z_w3.out
     have HF : Hid (∀ q, w3.heap.size ≤ q → (fun q => w.heap.size + 1 < q ∧ q ≠ R) q) := Lib.hid (fun q h => ⟨by omega, by omega⟩)
     clear y0 y1 y2 y3
     go_wp2_with fail
     refine (HTM.out _).mono ?_
     rintro e wx ⟨rfl, rfl⟩
     obtain ⟨⟨⟨s2, m2⟩, is⟩, hap⟩ : ∃ p, p = applyB (sk, nk) (2, (uid, uxs), uf, ux) := ⟨_, rfl⟩
     have HCA := Lib.hid (del_any uxs tg ss.length (fun q => w.heap.size + 1 < q ∧ q ≠ R) sk uid uf ux nk wx (slO_mono PT.out (fun q h => h.1)) HKL.out.symm HSK.out HF.out HNK.out HUV.out)
     rw [← hap] at HNX HAN HAL HCA
     clear hap
     cases is with
     | false =>
      have HN1 : Hid (applysTo (ss, now) l (k + 1) = ((s2, m2), cnt)) := HNX
      have hm2 : m2 = nk := HAN.out
      have HN2 : Hid (applysTo (ss, now) l (k + 1) = ((s2, nk), cnt)) := Lib.hid (by rw [← hm2]; exact HN1.out)
      clear hm2 HN1 HNX HAN
      go_wp2_with fail
      refine HCA.out.mono ?_
      rintro e w8 ⟨rfl, o8, t8⟩
      have y0 := ZR.out
      have y1 := ZR2.out
      have y2 := YU.out
      have y3 := Z_w3.out
      have HK2 : Hid (s2.length = ss.length) := Lib.hid (HAL.out.trans HKL.out)
      have PW := Lib.hid o8
      have zw : R < w8.heap.size := Nat.lt_of_lt_of_le (by omega) t8.size
      replace BZ := Lib.hid ((t8.block (w.heap.size + 1) (Array.getElem?_eq_some_iff.1 BZ.out).1 (fun h => by have r2 := h.1; omega)).trans BZ.out)
      replace BX := Lib.hid ((t8.block R (Array.getElem?_eq_some_iff.1 BX.out).1 (fun h => h.2 rfl)).trans BX.out)
      replace d := Lib.hid (below_turn d.out t8 (fun q h => by have r2 := h.1; omega) d.out.size)
      have ZW := Lib.hid zw
      clear o8 t8 zw HCA PT y0 y1 y2 y3
      go_wp2
      go_roundw
      case rel => exact ⟨k + 1, s2, nk, cnt, by omega, by go_num, rfl, HN2, BZ.out, BX.out, PW.out, d.out, ZW.out, HK2⟩
      case measure => simp [intOf]; omega
     | true =>
      have HN1 : Hid (applysTo (ss, now) l (k + 1) = ((s2, m2), cnt + 1)) := HNX
      have hm2 : m2 = nk + 1 := HAN.out
      have HN2 : Hid (applysTo (ss, now) l (k + 1) = ((s2, nk + 1), cnt + 1)) := Lib.hid (by rw [← hm2]; exact HN1.out)
      clear hm2 HN1 HNX HAN
      go_wp2_with fail
      refine HCA.out.mono ?_
      rintro e w8 ⟨rfl, o8, t8⟩
      have y0 := ZR.out
      have y1 := ZR2.out
      have y2 := YU.out
      have y3 := Z_w3.out
      have HK2 : Hid (s2.length = ss.length) := Lib.hid (HAL.out.trans HKL.out)
      have PW := Lib.hid o8
      have zw : R < w8.heap.size := Nat.lt_of_lt_of_le (by omega) t8.size
      replace BZ := Lib.hid ((t8.block (w.heap.size + 1) (Array.getElem?_eq_some_iff.1 BZ.out).1 (fun h => by have r2 := h.1; omega)).trans BZ.out)
      replace BX := Lib.hid ((t8.block R (Array.getElem?_eq_some_iff.1 BX.out).1 (fun h => h.2 rfl)).trans BX.out)
      replace d := Lib.hid (below_turn d.out t8 (fun q h => by have r2 := h.1; omega) d.out.size)
      have ZW := Lib.hid zw
      clear o8 t8 zw HCA PT y0 y1 y2 y3
      have p_BX_0 := (cell_of_row w8 _ 0 _ _ _ BX.out).trans (show _ = some (Value.slice fa ss.length fc) from rfl)
      have p_BX_1 := (cell_of_row w8 _ 1 _ _ _ BX.out).trans (show _ = some (Value.int .i64 nk) from rfl)
      have f_BX_0 := frozen_of_row w8 _ 0 _ _ BX.out
      have f_BX_1 := frozen_of_row w8 _ 1 _ _ BX.out
      have tt : Turn (fun q => q = R) w8 (w8.setCell ⟨R, 1, none⟩ (.int .i64 (nk + 1))) := turn_set (G := fun q => q = R) (g := R) (j := 1) (u := .int .i64 (nk + 1)) rfl
      have r := heap_setCell_same w8 R 1 _ _ (.int .i64 (nk + 1)) BX.out
      simp at r
      have bz := (tt.block (w.heap.size + 1) (Array.getElem?_eq_some_iff.1 BZ.out).1 (fun h => by have r2 : _ = R := h; have := ZR2.out; omega)).trans BZ.out
      have pn := slO_turn tSegP_law PW.out tt (fun q h1 h2 => h1.2 h2)
      have dn := below_turn d.out tt (fun q h => by have r2 : q = R := h; have := ZR2.out; omega) d.out.size
      have zn : R < (w8.setCell ⟨R, 1, none⟩ (.int .i64 (nk + 1))).heap.size := Nat.lt_of_lt_of_le ZW.out tt.size
      have BZN := Lib.hid bz
      have BXN := Lib.hid r
      have PN := Lib.hid pn
      have DN := Lib.hid dn
      have ZN := Lib.hid zn
      clear tt r bz pn dn zn
      go_wp2
      clear p_BX_0 p_BX_1 f_BX_0 f_BX_1
      go_roundw
      case rel => exact ⟨k + 1, s2, nk + 1, cnt + 1, by omega, by go_num, rfl, HN2, BZN.out, BXN.out, PN.out, DN.out, ZN.out, HK2⟩
      case measure => simp [intOf]; omega
    ·
     have hcv : changeV (3, (uid, uxs), uf, ux) (.slice ua uxs.length uc) = .iface 118 (.agg #[.int .i64 uid, .int .i64 uf, .int .i64 ux]) := rfl
     rw [hcv]
     clear hcv
     have na_applyTo : ∀ w : World, (nilAhead (Try.prog.types.size + Made.depth) 118 (.agg #[.int .i64 uid, .int .i64 uf, .int .i64 ux]) "loop.example/g01986/impl.applyTo").run Try.prog w = .ok (some false) w := fun _ => by kernel_rfl
     have me_applyTo : ∀ w : World, (method (Try.prog.types.size + Made.depth) 118 (.agg #[.int .i64 uid, .int .i64 uf, .int .i64 ux]) "loop.example/g01986/impl.applyTo").run Try.prog w = .ok (164, .agg #[.int .i64 uid, .int .i64 uf, .int .i64 ux]) w := fun _ => by kernel_rfl
     have y0 := ZR.out
     have y1 := ZR2.out
     have y2 := YU.out
     have y3 := Z_w3.out
     have HF : Hid (∀ q, w3.heap.size ≤ q → (fun q => w.heap.size + 1 < q ∧ q ≠ R) q) := Lib.hid (fun q h => ⟨by omega, by omega⟩)
     clear y0 y1 y2 y3
     go_wp2_with fail
     refine (HTM.out _).mono ?_
     rintro e wx ⟨rfl, rfl⟩
     obtain ⟨⟨⟨s2, m2⟩, is⟩, hap⟩ : ∃ p, p = applyB (sk, nk) (3, (uid, uxs), uf, ux) := ⟨_, rfl⟩
     have HCA := Lib.hid (set_any uxs tg ss.length (fun q => w.heap.size + 1 < q ∧ q ≠ R) sk uid uf ux nk wx (slO_mono PT.out (fun q h => h.1)) HKL.out.symm HSK.out HF.out HNK.out HUV.out)
     rw [← hap] at HNX HAN HAL HCA
     clear hap
     cases is with
     | false =>
      have HN1 : Hid (applysTo (ss, now) l (k + 1) = ((s2, m2), cnt)) := HNX
      have hm2 : m2 = nk := HAN.out
      have HN2 : Hid (applysTo (ss, now) l (k + 1) = ((s2, nk), cnt)) := Lib.hid (by rw [← hm2]; exact HN1.out)
      clear hm2 HN1 HNX HAN
      go_wp2_with fail
      refine HCA.out.mono ?_
      rintro e w8 ⟨rfl, o8, t8⟩
      have y0 := ZR.out
      have y1 := ZR2.out
      have y2 := YU.out
      have y3 := Z_w3.out
      have HK2 : Hid (s2.length = ss.length) := Lib.hid (HAL.out.trans HKL.out)
      have PW := Lib.hid o8
      have zw : R < w8.heap.size := Nat.lt_of_lt_of_le (by omega) t8.size
      replace BZ := Lib.hid ((t8.block (w.heap.size + 1) (Array.getElem?_eq_some_iff.1 BZ.out).1 (fun h => by have r2 := h.1; omega)).trans BZ.out)
      replace BX := Lib.hid ((t8.block R (Array.getElem?_eq_some_iff.1 BX.out).1 (fun h => h.2 rfl)).trans BX.out)
      replace d := Lib.hid (below_turn d.out t8 (fun q h => by have r2 := h.1; omega) d.out.size)
      have ZW := Lib.hid zw
      clear o8 t8 zw HCA PT y0 y1 y2 y3
      go_wp2
      go_roundw
      case rel => exact ⟨k + 1, s2, nk, cnt, by omega, by go_num, rfl, HN2, BZ.out, BX.out, PW.out, d.out, ZW.out, HK2⟩
      case measure => simp [intOf]; omega
     | true =>
      have HN1 : Hid (applysTo (ss, now) l (k + 1) = ((s2, m2), cnt + 1)) := HNX
      have hm2 : m2 = nk + 1 := HAN.out
      have HN2 : Hid (applysTo (ss, now) l (k + 1) = ((s2, nk + 1), cnt + 1)) := Lib.hid (by rw [← hm2]; exact HN1.out)
      clear hm2 HN1 HNX HAN
      go_wp2_with fail
      refine HCA.out.mono ?_
      rintro e w8 ⟨rfl, o8, t8⟩
      have y0 := ZR.out
      have y1 := ZR2.out
      have y2 := YU.out
      have y3 := Z_w3.out
      have HK2 : Hid (s2.length = ss.length) := Lib.hid (HAL.out.trans HKL.out)
      have PW := Lib.hid o8
      have zw : R < w8.heap.size := Nat.lt_of_lt_of_le (by omega) t8.size
      replace BZ := Lib.hid ((t8.block (w.heap.size + 1) (Array.getElem?_eq_some_iff.1 BZ.out).1 (fun h => by have r2 := h.1; omega)).trans BZ.out)
      replace BX := Lib.hid ((t8.block R (Array.getElem?_eq_some_iff.1 BX.out).1 (fun h => h.2 rfl)).trans BX.out)
      replace d := Lib.hid (below_turn d.out t8 (fun q h => by have r2 := h.1; omega) d.out.size)
      have ZW := Lib.hid zw
      clear o8 t8 zw HCA PT y0 y1 y2 y3
      have p_BX_0 := (cell_of_row w8 _ 0 _ _ _ BX.out).trans (show _ = some (Value.slice fa ss.length fc) from rfl)
      have p_BX_1 := (cell_of_row w8 _ 1 _ _ _ BX.out).trans (show _ = some (Value.int .i64 nk) from rfl)
      have f_BX_0 := frozen_of_row w8 _ 0 _ _ BX.out
      have f_BX_1 := frozen_of_row w8 _ 1 _ _ BX.out
      have tt : Turn (fun q => q = R) w8 (w8.setCell ⟨R, 1, none⟩ (.int .i64 (nk + 1))) := turn_set (G := fun q => q = R) (g := R) (j := 1) (u := .int .i64 (nk + 1)) rfl
      have r := heap_setCell_same w8 R 1 _ _ (.int .i64 (nk + 1)) BX.out
      simp at r
      have bz := (tt.block (w.heap.size + 1) (Array.getElem?_eq_some_iff.1 BZ.out).1 (fun h => by have r2 : _ = R := h; have := ZR2.out; omega)).trans BZ.out
      have pn := slO_turn tSegP_law PW.out tt (fun q h1 h2 => h1.2 h2)
      have dn := below_turn d.out tt (fun q h => by have r2 : q = R := h; have := ZR2.out; omega) d.out.size
      have zn : R < (w8.setCell ⟨R, 1, none⟩ (.int .i64 (nk + 1))).heap.size := Nat.lt_of_lt_of_le ZW.out tt.size
      have BZN := Lib.hid bz
      have BXN := Lib.hid r
      have PN := Lib.hid pn
      have DN := Lib.hid dn
      have ZN := Lib.hid zn
      clear tt r bz pn dn zn
      go_wp2
      clear p_BX_0 p_BX_1 f_BX_0 f_BX_1
      go_roundw
      case rel => exact ⟨k + 1, s2, nk + 1, cnt + 1, by omega, by go_num, rfl, HN2, BZN.out, BXN.out, PN.out, DN.out, ZN.out, HK2⟩
      case measure => simp [intOf]; omega
   ·
    obtain rfl : k = l.length := by omega
    have HE : Hid (applysB (ss, now) l = ((sk, nk), cnt)) := Lib.hid (by rw [← applys_all]; exact HAP.out)
    have BZ := Lib.hid r1
    have BX := Lib.hid r2
    have d := Lib.hid hbel
    have HLI := Lib.hid (lists_any tg ss.length (fun q => w.heap.size + 1 < q ∧ q ≠ R) sk wr hown HKL.out.symm HSL.out)
    have ZR := Lib.hid hsz
    have ZR2 := Lib.hid ZZ.out.1
    clear r1 r2 hown hbel hsz HAP
    go_wp2_with fail
    refine HLI.out.mono ?_
    rintro e w9 ⟨lv2, rfl, ol, c9⟩
    obtain ⟨va9, vc9, rfl⟩ := slO_len ol
    rw [HKL.out] at ol
    rw [HKL.out]
    have PF0 := Lib.hid ol
    replace BX := Lib.hid ((c9.block R (Array.getElem?_eq_some_iff.1 BX.out).1).trans BX.out)
    replace BZ := Lib.hid ((c9.block (w.heap.size + 1) (Array.getElem?_eq_some_iff.1 BZ.out).1).trans BZ.out)
    replace d := Lib.hid (d.out.trans (c9.mono d.out.size))
    have Z_w9 := Lib.hid (show wr.heap.size ≤ w9.heap.size from c9.size)
    clear c9 ol HLI
    have p_BX_0 := (cell_of_row w9 _ 0 _ _ _ BX.out).trans (show _ = some (Value.slice fa ss.length fc) from rfl)
    have p_BX_1 := (cell_of_row w9 _ 1 _ _ _ BX.out).trans (show _ = some (Value.int .i64 nk) from rfl)
    have f_BX_0 := frozen_of_row w9 _ 0 _ _ BX.out
    have f_BX_1 := frozen_of_row w9 _ 1 _ _ BX.out
    have y0 := ZR.out
    have y1 := ZR2.out
    have y2 := Z_w9.out
    have tt : Turn (fun q => q = R) w9 (w9.setCell ⟨R, 0, none⟩ (.slice va9 ss.length vc9)) := turn_set (G := fun q => q = R) (g := R) (j := 0) (u := .slice va9 ss.length vc9) rfl
    have r := heap_setCell_same w9 R 0 _ _ (.slice va9 ss.length vc9) BX.out
    simp at r
    go_upto_region 16 with fail
    clear p_BX_0 p_BX_1 f_BX_0 f_BX_1
    generalize (w9.setCell ⟨R, 0, none⟩ (.slice va9 ss.length vc9)) = w10 at *
    replace BX : Hid (w10.heap[R]? = some (.cells #[.slice va9 ss.length vc9, .int .i64 nk] 41 (0, 0))) := Lib.hid r
    replace BZ := Lib.hid ((tt.block (w.heap.size + 1) (Array.getElem?_eq_some_iff.1 BZ.out).1 (fun h => by have r2 : _ = R := h; omega)).trans BZ.out)
    have PF := Lib.hid (slO_turn tVersionS_law PF0.out tt (fun q h1 h2 => by have r2 : q = R := h2; rcases h1 with r3 | r3; exact r3.2 r2; omega))
    replace d := Lib.hid (below_turn d.out tt (fun q h => by have r2 : q = R := h; omega) d.out.size)
    have QF := Lib.hid (fun q (h : (w.heap.size + 1 < q ∧ q ≠ R) ∨ wr.heap.size ≤ q) => (show w.heap.size + 1 < q by rcases h with h | h; exact h.1; omega))
    clear r tt PF0 y0 y1 y2
    have p_BX_0 := (cell_of_row w10 _ 0 _ _ _ BX.out).trans (show _ = some (Value.slice va9 ss.length vc9) from rfl)
    have p_BX_1 := (cell_of_row w10 _ 1 _ _ _ BX.out).trans (show _ = some (Value.int .i64 nk) from rfl)
    have p_BZ_0 := (cell_of_row w10 _ 0 _ _ _ BZ.out).trans (show _ = some (Value.slice none 0 0) from rfl)
    have p_BZ_1 := (cell_of_row w10 _ 1 _ _ _ BZ.out).trans (show _ = some (Value.int .i64 0) from rfl)
    have f_BZ_0 := frozen_of_row w10 _ 0 _ _ BZ.out
    have f_BZ_1 := frozen_of_row w10 _ 1 _ _ BZ.out
    have tt : Turn (fun q => q = w.heap.size + 1) w10 ((w10.setCell ⟨w.heap.size + 1, 0, none⟩ (.slice va9 ss.length vc9)).setCell ⟨w.heap.size + 1, 1, none⟩ (.int .i64 nk)) := ((Turn.refl (fun q => q = w.heap.size + 1) _).trans (turn_set (G := fun q => q = w.heap.size + 1) (g := w.heap.size + 1) (j := 0) (u := .slice va9 ss.length vc9) rfl)).trans (turn_set (G := fun q => q = w.heap.size + 1) (g := w.heap.size + 1) (j := 1) (u := .int .i64 nk) rfl)
    have r := heap_setCell_same _ (w.heap.size + 1) 1 _ _ (.int .i64 nk) (heap_setCell_same w10 (w.heap.size + 1) 0 _ _ (.slice va9 ss.length vc9) BZ.out)
    have e0 := cell_of_row _ _ 0 _ _ _ r
    have e1 := cell_of_row _ _ 1 _ _ _ r
    simp at e0 e1
    have y0 := ZR.out
    have y1 := ZR2.out
    have y2 := Z_w9.out
    have DF := Lib.hid (below_turn d.out tt (fun q h => by omega) d.out.size)
    have PE := Lib.hid (slO_turn tVersionS_law PF.out tt (fun q h1 h2 => by have r1 := QF.out q h1; omega))
    have QE := Lib.hid (fun q h => (show w.heap.size ≤ q by have r1 := QF.out q h; omega))
    clear tt r y0 y1 y2
    go_wp2
    refine bodyPost_ret (v := .tuple #[.agg #[.slice va9 ss.length vc9, .int .i64 nk], .int .i64 cnt]) ?_ rfl ?_
    ·
     simp [results, Try.f25, go_sem, e0, e1]
    ·
     show FreshNI _ _ _ _; rw [HE.out]; exact ⟨[.slice va9 ss.length vc9, .int .i64 nk], _, rfl, tStore_mkO PE.out (fun q h => h), QE.out, DF.out⟩
theorem implApplyUpdates (now : Int) (sv lv : Value) (ss : List (List VerD)) (l : List UpdD) (w : World) (h : SlR tVersionS w sv ss) (hs : zL tVersionS ss ≤ 1048576) (g : SlR tUpdate w lv l) (ht : zL tUpdate l ≤ 1048576) :
  Calls Try.prog 25 #[.agg #[sv, .int .i64 now], lv] w (FreshNI w (applysB (ss, now) l)) :=
 implApplyUpdatesL now sv lv ss l w h hs g (zL_len ht) (fun j hj => upd_len ht hj)
end Go.Proofs.Ythiiaiholcfhhaa
