/-
 Texts of the proof, merged: IdxLaw.
-/
import Derived.Test.YtededfficggkaaaDoorI2
import Derived.Test.YtededfficggkaaaDoorI7
import Derived.Test.YtededfficggkaaaDoorI20
import Derived.Test.YtededfficggkaaaDoorI23
import Derived.Test.YtededfficggkaaaDoorI26
import Derived.Test.YtededfficggkaaaDoorI30
import Derived.Test.YtededfficggkaaaDoorI31
import Derived.Test.YtededfficggkaaaDoorI33
import Derived.Deep.Cut
namespace Go.Proofs.YtededfficggkaaaDoor
open Go.RowKit
set_option linter.unusedVariables false
set_option linter.unusedSimpArgs false
theorem probe_none (qs : List QD) (fs : List (List SpanD)) (rid : Int) (vs : List Int) (h : (isIndexB qs fs && rowB (rid, vs)) = false) : (probeB qs fs (rid, vs) [0, 1, 2]).1 = [] := by
 unfold probeB
 rw [if_neg]
 intro hc
 simp only [Bool.and_eq_true] at hc
 rw [hc.1, hc.2.1] at h
 exact absurd h (by decide)
set_option maxHeartbeats 32000000 in
set_option maxRecDepth 100000 in
theorem law_fnIndexes (p : Option Addr) (cap : Nat) (xs : List Int) (w : World) (hcode : Code w (.slice p xs.length cap) xs) (hby : ∀ x ∈ xs, 0 ≤ x ∧ x ≤ 255) (ht : OrdT w) :
  Calls Tryd.prog 5 #[.slice p xs.length cap] w fun e w' => e = .returned (.bool true) ∧ Below w.heap.size w w' := by
 by_cases hl : xs.length ≤ 1048576
 ·
  have HDP := Lib.hid (fun w h => drawProbeSet (.slice p xs.length cap) xs w h hl hby)
  have HDM := Lib.hid (fun w h => drawMatchSet (.slice p xs.length cap) xs w h hl hby)
  have HDB := Lib.hid (fun w h => drawBestOrder (.slice p xs.length cap) xs w h hl hby)
  have HDW := Lib.hid (fun w h => drawWorkOf (.slice p xs.length cap) xs w h hl hby)
  have CD := Lib.hid hcode
  have HT := Lib.hid ht
  have HBG := Lib.hid (fun w => bigS p cap xs.length w)
  have D : Hid (Below w.heap.size w w) := Lib.hid (Below.refl _ _)
  rw [show decide ((1048576 : Int) < (xs.length : Int)) = false from decide_eq_false (by omega)] at HBG
  clear hcode hby ht
  go_enter Tryd.func5, Tryd.ntmps5
  go_wp2_with fail
  refine (HBG.out _).mono ?_
  rintro e w0 ⟨rfl, rfl⟩
  go_wp2_with fail
  replace CD := CD
  refine (HDP.out _ CD.out).mono ?_
  rintro e qw1 ⟨qv, fv, rv, ov, qs, fs, rid, ys, os, rfl, rq, rf, rr, ro, hqz, hfz, hyl, hol, bb⟩
  replace CD := Lib.hid (code_below CD.out bb)
  replace D := Lib.hid (D.out.trans (bb.mono D.out.size))
  have RQ := Lib.hid rq
  have RF := Lib.hid rf
  have RR := Lib.hid rr
  have RO := Lib.hid ro
  have HQZ := Lib.hid hqz
  have HFZ := Lib.hid hfz
  have HYL := Lib.hid hyl
  have HOL := Lib.hid hol
  obtain ⟨a0, c0, rfl⟩ := slR_len rq
  obtain ⟨a1, c1, rfl⟩ := slR_len rf
  obtain ⟨a2, c2, rfl⟩ := slR_len rr
  obtain ⟨a3, c3, rfl⟩ := slR_len ro
  clear rq rf rr ro hqz hfz hyl hol HDP
  clear bb
  go_wp2_with fail
  have bb : Below qw1.heap.size qw1 (qw1.alloc (.cells #[.slice a0 qs.length c0, .slice a1 fs.length c1] 49)) := (Below.refl _ _).alloc (Nat.le_refl _) _
  replace RQ := Lib.hid (slR_below tQuery_law RQ.out bb)
  replace RF := Lib.hid (slR_below tSpanS_law RF.out bb)
  replace RR := Lib.hid (slR_below tInt_law RR.out bb)
  replace RO := Lib.hid (slR_below tInt_law RO.out bb)
  replace CD := Lib.hid (code_below CD.out bb)
  replace D := Lib.hid (D.out.trans (bb.mono D.out.size))
  clear bb
  have X : Hid ((qw1.alloc (.cells #[.slice a0 qs.length c0, .slice a1 fs.length c1] 49)).heap[qw1.heap.size]? = some (.cells #[.slice a0 qs.length c0, .slice a1 fs.length c1] 49 (0, 0))) := Lib.hid (by have h := heap_alloc_new qw1 (.cells #[.slice a0 qs.length c0, .slice a1 fs.length c1] 49); simpa [World.size_alloc] using h)
  have bb : Below (qw1.alloc (.cells #[.slice a0 qs.length c0, .slice a1 fs.length c1] 49)).heap.size (qw1.alloc (.cells #[.slice a0 qs.length c0, .slice a1 fs.length c1] 49)) ((qw1.alloc (.cells #[.slice a0 qs.length c0, .slice a1 fs.length c1] 49)).alloc (.cells #[.int .i64 rid, .slice a2 ys.length c2] 51)) := (Below.refl _ _).alloc (Nat.le_refl _) _
  replace X := Lib.hid ((bb.block (qw1.heap.size) (Array.getElem?_eq_some_iff.1 X.out).1).trans X.out)
  replace RQ := Lib.hid (slR_below tQuery_law RQ.out bb)
  replace RF := Lib.hid (slR_below tSpanS_law RF.out bb)
  replace RR := Lib.hid (slR_below tInt_law RR.out bb)
  replace RO := Lib.hid (slR_below tInt_law RO.out bb)
  replace CD := Lib.hid (code_below CD.out bb)
  replace D := Lib.hid (D.out.trans (bb.mono D.out.size))
  clear bb
  have R : Hid (((qw1.alloc (.cells #[.slice a0 qs.length c0, .slice a1 fs.length c1] 49)).alloc (.cells #[.int .i64 rid, .slice a2 ys.length c2] 51)).heap[qw1.heap.size + 1]? = some (.cells #[.int .i64 rid, .slice a2 ys.length c2] 51 (0, 0))) := Lib.hid (by have h := heap_alloc_new (qw1.alloc (.cells #[.slice a0 qs.length c0, .slice a1 fs.length c1] 49)) (.cells #[.int .i64 rid, .slice a2 ys.length c2] 51); simpa [World.size_alloc] using h)
  generalize ((qw1.alloc (.cells #[.slice a0 qs.length c0, .slice a1 fs.length c1] 49)).alloc (.cells #[.int .i64 rid, .slice a2 ys.length c2] 51)) = V1 at *
  refine (resProbeSet HT.out qs fs rid ys os _ _ _ _ _ D.out RQ.out RF.out RR.out RO.out (by have := HQZ.out; have := HFZ.out; have := HYL.out; rw [zL_ints]; omega) (by have := HOL.out; omega)).mono ?_
  rintro e qw2 ⟨sv, G, rfl, os1, _, bb⟩
  replace X := Lib.hid ((bb.block (qw1.heap.size) (Array.getElem?_eq_some_iff.1 X.out).1).trans X.out)
  replace R := Lib.hid ((bb.block (qw1.heap.size + 1) (Array.getElem?_eq_some_iff.1 R.out).1).trans R.out)
  replace RQ := Lib.hid (slR_below tQuery_law RQ.out bb)
  replace RF := Lib.hid (slR_below tSpanS_law RF.out bb)
  replace RR := Lib.hid (slR_below tInt_law RR.out bb)
  replace RO := Lib.hid (slR_below tInt_law RO.out bb)
  replace CD := Lib.hid (code_below CD.out bb)
  replace D := Lib.hid (D.out.trans (bb.mono D.out.size))
  have RS := Lib.hid (slO_reads tInt_law os1)
  obtain ⟨a4, c4, rfl⟩ := slR_len RS.out
  clear os1
  clear bb
  have p_X_0 := (cell_of_row qw2 _ 0 _ _ _ X.out).trans (show _ = some (Value.slice a0 qs.length c0) from rfl)
  have p_X_1 := (cell_of_row qw2 _ 1 _ _ _ X.out).trans (show _ = some (Value.slice a1 fs.length c1) from rfl)
  have p_R_0 := (cell_of_row qw2 _ 0 _ _ _ R.out).trans (show _ = some (Value.int .i64 rid) from rfl)
  have p_R_1 := (cell_of_row qw2 _ 1 _ _ _ R.out).trans (show _ = some (Value.slice a2 ys.length c2) from rfl)
  go_wp2_with fail
  clear p_X_0 p_X_1 p_R_0 p_R_1
  refine (fitProbeSet qs fs rid ys os _ _ _ _ _ RQ.out RF.out RR.out RO.out (by have := HQZ.out; have := HFZ.out; have := HYL.out; rw [zL_ints]; omega) (by have := HOL.out; omega)).mono ?_
  rintro e qw3 ⟨tv, G, rfl, os2, _, bb⟩
  replace X := Lib.hid ((bb.block (qw1.heap.size) (Array.getElem?_eq_some_iff.1 X.out).1).trans X.out)
  replace R := Lib.hid ((bb.block (qw1.heap.size + 1) (Array.getElem?_eq_some_iff.1 R.out).1).trans R.out)
  replace RQ := Lib.hid (slR_below tQuery_law RQ.out bb)
  replace RF := Lib.hid (slR_below tSpanS_law RF.out bb)
  replace RR := Lib.hid (slR_below tInt_law RR.out bb)
  replace RO := Lib.hid (slR_below tInt_law RO.out bb)
  replace RS := Lib.hid (slR_below tInt_law RS.out bb)
  replace CD := Lib.hid (code_below CD.out bb)
  replace D := Lib.hid (D.out.trans (bb.mono D.out.size))
  have RT := Lib.hid (slO_reads tInt_law os2)
  obtain ⟨a5, c5, rfl⟩ := slR_len RT.out
  clear os2
  clear bb
  have p_X_0 := (cell_of_row qw3 _ 0 _ _ _ X.out).trans (show _ = some (Value.slice a0 qs.length c0) from rfl)
  have p_X_1 := (cell_of_row qw3 _ 1 _ _ _ X.out).trans (show _ = some (Value.slice a1 fs.length c1) from rfl)
  have p_R_0 := (cell_of_row qw3 _ 0 _ _ _ R.out).trans (show _ = some (Value.int .i64 rid) from rfl)
  have p_R_1 := (cell_of_row qw3 _ 1 _ _ _ R.out).trans (show _ = some (Value.slice a2 ys.length c2) from rfl)
  go_wp2
  clear p_X_0 p_X_1 p_R_0 p_R_1
  have HPL : Hid ((probeB qs fs (rid, ys) os).1.length ≤ 1048576) := Lib.hid (by have h := probe_size qs fs rid ys os; rw [zL_ints] at h; exact h)
  have p_X_0 := (cell_of_row qw3 _ 0 _ _ _ X.out).trans (show _ = some (Value.slice a0 qs.length c0) from rfl)
  have p_X_1 := (cell_of_row qw3 _ 1 _ _ _ X.out).trans (show _ = some (Value.slice a1 fs.length c1) from rfl)
  refine wp_region_held_drew (S := fun w' => w'.cell? ⟨qw1.heap.size, 0, none⟩ = some (Value.slice a0 qs.length c0) ∧ w'.cell? ⟨qw1.heap.size, 1, none⟩ = some (Value.slice a1 fs.length c1)) (by kernel_rfl) ⟨p_X_0, p_X_1⟩ (fun hHeld => ?_)
  clear p_X_0 p_X_1
  have cdr : Below qw3.heap.size qw3 qw3.drew := below_drew (Below.refl _ _)
  replace X := Lib.hid ((cdr.block (qw1.heap.size) (Array.getElem?_eq_some_iff.1 X.out).1).trans X.out)
  replace R := Lib.hid ((cdr.block (qw1.heap.size + 1) (Array.getElem?_eq_some_iff.1 R.out).1).trans R.out)
  replace RQ := Lib.hid (slR_below tQuery_law RQ.out cdr)
  replace RF := Lib.hid (slR_below tSpanS_law RF.out cdr)
  replace RR := Lib.hid (slR_below tInt_law RR.out cdr)
  replace RO := Lib.hid (slR_below tInt_law RO.out cdr)
  replace RS := Lib.hid (slR_below tInt_law RS.out cdr)
  replace RT := Lib.hid (slR_below tInt_law RT.out cdr)
  replace CD := Lib.hid (code_below CD.out cdr)
  replace D := Lib.hid (D.out.trans (cdr.mono D.out.size))
  clear cdr
  generalize qw3.drew = qw4 at *
  refine tR (i := 0) (v := ?_) ?_ ?_; rotate_left
  ·
   intro w hSw; (try dsimp only at hSw); go_simp; try (with_reducible rfl)
  try simp only [Act.put, lA, lB, lC]
  refine tR (i := 1) (v := ?_) ?_ ?_; rotate_left
  ·
   intro w hSw; (try dsimp only at hSw); go_simp; try (with_reducible rfl)
  try simp only [Act.put, lA, lB, lC]
  refine tR (i := 2) (v := ?_) ?_ ?_; rotate_left
  ·
   intro w hSw; (try dsimp only at hSw); go_simp; try (with_reducible rfl)
  try simp only [Act.put, lA, lB, lC]
  refine tR (i := 3) (v := ?_) ?_ ?_; rotate_left
  ·
   intro w hSw; (try dsimp only at hSw); go_simp; try (with_reducible rfl)
  try simp only [Act.put, lA, lB, lC]
  refine tR (i := 4) (v := ?_) ?_ ?_; rotate_left
  ·
   intro w hSw; (try dsimp only at hSw); go_simp; try (with_reducible rfl)
  try simp only [Act.put, lA, lB, lC]
  refine tR (i := 5) (v := ?_) ?_ ?_; rotate_left
  ·
   intro w hSw; (try dsimp only at hSw); go_simp; try (with_reducible rfl)
  try simp only [Act.put, lA, lB, lC]
  refine wpAnyH_ready (rs := [6]) (by kernel_rfl) (by simp) ?_
  refine (AllReadyH.cons (o := _) (by simp only [hA, hB, hC]; rfl) (fun K hK => ?_) AllReadyH.nil)
  go_simp
  refine (sameS_any _ _ _ _ _ (slR_ints RS.out) (slR_ints RT.out) HPL.out HPL.out).mono ?_
  rintro e qw5 ⟨rfl, bb⟩
  rw [decide_eq_true (rfl : (probeB qs fs (rid, ys) os).1 = (probeB qs fs (rid, ys) os).1)]
  replace X := Lib.hid ((bb.block (qw1.heap.size) (Array.getElem?_eq_some_iff.1 X.out).1).trans X.out)
  replace R := Lib.hid ((bb.block (qw1.heap.size + 1) (Array.getElem?_eq_some_iff.1 R.out).1).trans R.out)
  replace RQ := Lib.hid (slR_below tQuery_law RQ.out bb)
  replace RF := Lib.hid (slR_below tSpanS_law RF.out bb)
  replace RR := Lib.hid (slR_below tInt_law RR.out bb)
  replace RO := Lib.hid (slR_below tInt_law RO.out bb)
  replace RS := Lib.hid (slR_below tInt_law RS.out bb)
  replace RT := Lib.hid (slR_below tInt_law RT.out bb)
  replace CD := Lib.hid (code_below CD.out bb)
  replace D := Lib.hid (D.out.trans (bb.mono D.out.size))
  clear bb
  have p_X_0 := (cell_of_row qw5 _ 0 _ _ _ X.out).trans (show _ = some (Value.slice a0 qs.length c0) from rfl)
  have p_X_1 := (cell_of_row qw5 _ 1 _ _ _ X.out).trans (show _ = some (Value.slice a1 fs.length c1) from rfl)
  refine hK.out _ _ ⟨p_X_0, p_X_1⟩ (fun hHeld => ?_)
  clear p_X_0 p_X_1
  clear hK K
  try simp only [Act.put, lA, lB, lC]
  refine tR (i := 7) (v := ?_) ?_ ?_; rotate_left
  ·
   intro w hSw; (try dsimp only at hSw); go_simp; try (with_reducible rfl)
  try simp only [Act.put, lA, lB, lC]
  refine tR (i := 8) (v := ?_) ?_ ?_; rotate_left
  ·
   intro w hSw; (try dsimp only at hSw); go_simp; try (with_reducible rfl)
  try simp only [Act.put, lA, lB, lC]
  refine tR (i := 9) (v := ?_) ?_ ?_; rotate_left
  ·
   intro w hSw; (try dsimp only at hSw); go_simp; try (with_reducible rfl)
  try simp only [Act.put, lA, lB, lC]
  refine tR (i := 10) (v := ?_) ?_ ?_; rotate_left
  ·
   intro w hSw; (try dsimp only at hSw); go_simp; try (with_reducible rfl)
  try simp only [Act.put, lA, lB, lC]
  refine tR (i := 12) (v := ?_) ?_ ?_; rotate_left
  ·
   intro w hSw; (try dsimp only at hSw); go_simp; try (with_reducible rfl)
  try simp only [Act.put, lA, lB, lC]
  refine wpAnyH_ready (rs := [11]) (by kernel_rfl) (by simp) ?_
  refine (AllReadyH.cons (o := _) (by simp only [hA, hB, hC]; rfl) (fun K hK => ?_) AllReadyH.nil)
  go_simp
  refine (implIsIndex _ _ qs fs _ RQ.out RF.out (by have := HQZ.out; omega) (by have := HFZ.out; omega)).mono ?_
  rintro e qw6 ⟨rfl, bb⟩
  replace X := Lib.hid ((bb.block (qw1.heap.size) (Array.getElem?_eq_some_iff.1 X.out).1).trans X.out)
  replace R := Lib.hid ((bb.block (qw1.heap.size + 1) (Array.getElem?_eq_some_iff.1 R.out).1).trans R.out)
  replace RQ := Lib.hid (slR_below tQuery_law RQ.out bb)
  replace RF := Lib.hid (slR_below tSpanS_law RF.out bb)
  replace RR := Lib.hid (slR_below tInt_law RR.out bb)
  replace RO := Lib.hid (slR_below tInt_law RO.out bb)
  replace RS := Lib.hid (slR_below tInt_law RS.out bb)
  replace RT := Lib.hid (slR_below tInt_law RT.out bb)
  replace CD := Lib.hid (code_below CD.out bb)
  replace D := Lib.hid (D.out.trans (bb.mono D.out.size))
  clear bb
  have p_X_0 := (cell_of_row qw6 _ 0 _ _ _ X.out).trans (show _ = some (Value.slice a0 qs.length c0) from rfl)
  have p_X_1 := (cell_of_row qw6 _ 1 _ _ _ X.out).trans (show _ = some (Value.slice a1 fs.length c1) from rfl)
  refine hK.out _ _ ⟨p_X_0, p_X_1⟩ (fun hHeld => ?_)
  clear p_X_0 p_X_1
  clear hK K
  try simp only [Act.put, lA, lB, lC]
  refine wpAnyH_ready (rs := [13]) (by kernel_rfl) (by simp) ?_
  refine (AllReadyH.cons (o := _) (by simp only [hA, hB, hC]; rfl) (fun K hK => ?_) AllReadyH.nil)
  go_simp
  refine (specIsIndex _ _ qs fs _ RQ.out RF.out (by have := HQZ.out; omega) (by have := HFZ.out; omega)).mono ?_
  rintro e qw90 ⟨rfl, bb⟩
  replace X := Lib.hid ((bb.block (qw1.heap.size) (Array.getElem?_eq_some_iff.1 X.out).1).trans X.out)
  replace R := Lib.hid ((bb.block (qw1.heap.size + 1) (Array.getElem?_eq_some_iff.1 R.out).1).trans R.out)
  replace RQ := Lib.hid (slR_below tQuery_law RQ.out bb)
  replace RF := Lib.hid (slR_below tSpanS_law RF.out bb)
  replace RR := Lib.hid (slR_below tInt_law RR.out bb)
  replace RO := Lib.hid (slR_below tInt_law RO.out bb)
  replace RS := Lib.hid (slR_below tInt_law RS.out bb)
  replace RT := Lib.hid (slR_below tInt_law RT.out bb)
  replace CD := Lib.hid (code_below CD.out bb)
  replace D := Lib.hid (D.out.trans (bb.mono D.out.size))
  clear bb
  have p_X_0 := (cell_of_row qw90 _ 0 _ _ _ X.out).trans (show _ = some (Value.slice a0 qs.length c0) from rfl)
  have p_X_1 := (cell_of_row qw90 _ 1 _ _ _ X.out).trans (show _ = some (Value.slice a1 fs.length c1) from rfl)
  refine hK.out _ _ ⟨p_X_0, p_X_1⟩ (fun hHeld => ?_)
  clear p_X_0 p_X_1
  clear hK K
  try simp only [Act.put, lA, lB, lC]
  refine tR (i := 14) (v := ?_) ?_ ?_; rotate_left
  ·
   intro w hSw; (try dsimp only at hSw); go_simp; try (with_reducible rfl)
  try simp only [Act.put, lA, lB, lC]
  refine tR (i := 15) (v := ?_) ?_ ?_; rotate_left
  ·
   intro w hSw; (try dsimp only at hSw); go_simp; try (with_reducible rfl)
  try simp only [Act.put, lA, lB, lC]
  refine wpAnyH_done (by kernel_rfl) ?_ _
  clear hHeld
  have HNN := Lib.hid (fun h : 0 < (probeB qs fs (rid, ys) os).2 => probe_same h)
  have HPM : Hid ((probeB qs fs (rid, ys) [0, 1, 2]).1.length ≤ 1048576) := Lib.hid (by have h := probe_size qs fs rid ys [0, 1, 2]; rw [zL_ints] at h; exact h)
  have p_X_0 := (cell_of_row qw90 _ 0 _ _ _ X.out).trans (show _ = some (Value.slice a0 qs.length c0) from rfl)
  have p_X_1 := (cell_of_row qw90 _ 1 _ _ _ X.out).trans (show _ = some (Value.slice a1 fs.length c1) from rfl)
  have p_R_0 := (cell_of_row qw90 _ 0 _ _ _ R.out).trans (show _ = some (Value.int .i64 rid) from rfl)
  have p_R_1 := (cell_of_row qw90 _ 1 _ _ _ R.out).trans (show _ = some (Value.slice a2 ys.length c2) from rfl)
  go_upto_region 8 with fail
  clear p_X_0 p_X_1 p_R_0 p_R_1
  go_cut [67] from 58 (fun s8 wx => s8 = .bool false ∧ Code wx (.slice p xs.length cap) xs ∧ Below w0.heap.size w0 wx)
  case first =>
   by_cases hn : 0 < (probeB qs fs (rid, ys) os).2
   ·
    have HSM := Lib.hid (HNN.out hn)
    generalize (probeB qs fs (rid, ys) os).2 = pn at *
    have p_X_0 := (cell_of_row qw90 _ 0 _ _ _ X.out).trans (show _ = some (Value.slice a0 qs.length c0) from rfl)
    have p_X_1 := (cell_of_row qw90 _ 1 _ _ _ X.out).trans (show _ = some (Value.slice a1 fs.length c1) from rfl)
    have p_R_0 := (cell_of_row qw90 _ 0 _ _ _ R.out).trans (show _ = some (Value.int .i64 rid) from rfl)
    have p_R_1 := (cell_of_row qw90 _ 1 _ _ _ R.out).trans (show _ = some (Value.slice a2 ys.length c2) from rfl)
    go_wp2_with fail
    clear p_X_0 p_X_1 p_R_0 p_R_1
    refine (resMatchSet HT.out qs fs rid ys _ _ _ _ D.out RQ.out RF.out RR.out (by have := HQZ.out; have := HFZ.out; have := HYL.out; rw [zL_ints]; omega)).mono ?_
    rintro e qw7 ⟨mv, G, rfl, os3, _, bb⟩
    replace X := Lib.hid ((bb.block (qw1.heap.size) (Array.getElem?_eq_some_iff.1 X.out).1).trans X.out)
    replace R := Lib.hid ((bb.block (qw1.heap.size + 1) (Array.getElem?_eq_some_iff.1 R.out).1).trans R.out)
    replace RQ := Lib.hid (slR_below tQuery_law RQ.out bb)
    replace RF := Lib.hid (slR_below tSpanS_law RF.out bb)
    replace RR := Lib.hid (slR_below tInt_law RR.out bb)
    replace RO := Lib.hid (slR_below tInt_law RO.out bb)
    replace RS := Lib.hid (slR_below tInt_law RS.out bb)
    replace RT := Lib.hid (slR_below tInt_law RT.out bb)
    replace CD := Lib.hid (code_below CD.out bb)
    replace D := Lib.hid (D.out.trans (bb.mono D.out.size))
    have RM := Lib.hid (slO_reads tInt_law os3)
    obtain ⟨a6, c6, rfl⟩ := slR_len RM.out
    clear os3
    clear bb
    go_wp2_with fail
    refine (sameS_any _ _ _ _ _ (slR_ints RS.out) (slR_ints RM.out) HPL.out HPM.out).mono ?_
    rintro e qw8 ⟨rfl, bb⟩
    rw [decide_eq_true HSM.out]
    replace X := Lib.hid ((bb.block (qw1.heap.size) (Array.getElem?_eq_some_iff.1 X.out).1).trans X.out)
    replace R := Lib.hid ((bb.block (qw1.heap.size + 1) (Array.getElem?_eq_some_iff.1 R.out).1).trans R.out)
    replace RQ := Lib.hid (slR_below tQuery_law RQ.out bb)
    replace RF := Lib.hid (slR_below tSpanS_law RF.out bb)
    replace RR := Lib.hid (slR_below tInt_law RR.out bb)
    replace RO := Lib.hid (slR_below tInt_law RO.out bb)
    replace RS := Lib.hid (slR_below tInt_law RS.out bb)
    replace RT := Lib.hid (slR_below tInt_law RT.out bb)
    replace RM := Lib.hid (slR_below tInt_law RM.out bb)
    replace CD := Lib.hid (code_below CD.out bb)
    replace D := Lib.hid (D.out.trans (bb.mono D.out.size))
    clear bb
    go_wp2_with fail
    go_meet
    case rel => exact ⟨rfl, CD.out, D.out⟩
   ·
    generalize (probeB qs fs (rid, ys) os).2 = pn at *
    go_wp2_with fail
    go_meet
    case rel => exact ⟨rfl, CD.out, D.out⟩
  case rest =>
  clear RQ RF RR RO RS RT X R
  clear HQZ HFZ HYL HOL HPL HNN HPM CD D
  obtain ⟨rfl, cd, dd⟩ := hcut
  have CD := Lib.hid cd
  have D := Lib.hid dd
  clear cd dd
  go_wp2_with fail
  refine (HDM.out _ CD.out).mono ?_
  rintro e qw7 ⟨qv, fv, rv, ys2, gs2, rid2, zs2, rfl, rq, rf, rr, hqz, hfz, hyl, bb⟩
  replace CD := Lib.hid (code_below CD.out bb)
  replace D := Lib.hid (D.out.trans (bb.mono D.out.size))
  have RQ := Lib.hid rq
  have RF := Lib.hid rf
  have RR := Lib.hid rr
  have HQZ := Lib.hid hqz
  have HFZ := Lib.hid hfz
  have HYL := Lib.hid hyl
  obtain ⟨e0, d0, rfl⟩ := slR_len rq
  obtain ⟨e1, d1, rfl⟩ := slR_len rf
  obtain ⟨e2, d2, rfl⟩ := slR_len rr
  clear rq rf rr hqz hfz hyl HDM
  clear bb
  go_wp2_with fail
  have bb : Below qw7.heap.size qw7 (qw7.alloc (.cells #[.slice e0 ys2.length d0, .slice e1 gs2.length d1] 49)) := (Below.refl _ _).alloc (Nat.le_refl _) _
  replace RQ := Lib.hid (slR_below tQuery_law RQ.out bb)
  replace RF := Lib.hid (slR_below tSpanS_law RF.out bb)
  replace RR := Lib.hid (slR_below tInt_law RR.out bb)
  replace CD := Lib.hid (code_below CD.out bb)
  replace D := Lib.hid (D.out.trans (bb.mono D.out.size))
  clear bb
  have X : Hid ((qw7.alloc (.cells #[.slice e0 ys2.length d0, .slice e1 gs2.length d1] 49)).heap[qw7.heap.size]? = some (.cells #[.slice e0 ys2.length d0, .slice e1 gs2.length d1] 49 (0, 0))) := Lib.hid (by have h := heap_alloc_new qw7 (.cells #[.slice e0 ys2.length d0, .slice e1 gs2.length d1] 49); simpa [World.size_alloc] using h)
  have bb : Below (qw7.alloc (.cells #[.slice e0 ys2.length d0, .slice e1 gs2.length d1] 49)).heap.size (qw7.alloc (.cells #[.slice e0 ys2.length d0, .slice e1 gs2.length d1] 49)) ((qw7.alloc (.cells #[.slice e0 ys2.length d0, .slice e1 gs2.length d1] 49)).alloc (.cells #[.int .i64 rid2, .slice e2 zs2.length d2] 51)) := (Below.refl _ _).alloc (Nat.le_refl _) _
  replace X := Lib.hid ((bb.block (qw7.heap.size) (Array.getElem?_eq_some_iff.1 X.out).1).trans X.out)
  replace RQ := Lib.hid (slR_below tQuery_law RQ.out bb)
  replace RF := Lib.hid (slR_below tSpanS_law RF.out bb)
  replace RR := Lib.hid (slR_below tInt_law RR.out bb)
  replace CD := Lib.hid (code_below CD.out bb)
  replace D := Lib.hid (D.out.trans (bb.mono D.out.size))
  clear bb
  have R : Hid (((qw7.alloc (.cells #[.slice e0 ys2.length d0, .slice e1 gs2.length d1] 49)).alloc (.cells #[.int .i64 rid2, .slice e2 zs2.length d2] 51)).heap[qw7.heap.size + 1]? = some (.cells #[.int .i64 rid2, .slice e2 zs2.length d2] 51 (0, 0))) := Lib.hid (by have h := heap_alloc_new (qw7.alloc (.cells #[.slice e0 ys2.length d0, .slice e1 gs2.length d1] 49)) (.cells #[.int .i64 rid2, .slice e2 zs2.length d2] 51); simpa [World.size_alloc] using h)
  generalize ((qw7.alloc (.cells #[.slice e0 ys2.length d0, .slice e1 gs2.length d1] 49)).alloc (.cells #[.int .i64 rid2, .slice e2 zs2.length d2] 51)) = V2 at *
  generalize qw7.heap.size = B2 at *
  refine (resMatchSet HT.out ys2 gs2 rid2 zs2 _ _ _ _ D.out RQ.out RF.out RR.out (by have := HQZ.out; have := HFZ.out; have := HYL.out; rw [zL_ints]; omega)).mono ?_
  rintro e qw8 ⟨mv, G, rfl, os3, _, bb⟩
  replace X := Lib.hid ((bb.block (B2) (Array.getElem?_eq_some_iff.1 X.out).1).trans X.out)
  replace R := Lib.hid ((bb.block (B2 + 1) (Array.getElem?_eq_some_iff.1 R.out).1).trans R.out)
  replace RQ := Lib.hid (slR_below tQuery_law RQ.out bb)
  replace RF := Lib.hid (slR_below tSpanS_law RF.out bb)
  replace RR := Lib.hid (slR_below tInt_law RR.out bb)
  replace CD := Lib.hid (code_below CD.out bb)
  replace D := Lib.hid (D.out.trans (bb.mono D.out.size))
  have RM := Lib.hid (slO_reads tInt_law os3)
  obtain ⟨e6, d6, rfl⟩ := slR_len RM.out
  clear os3
  clear bb
  have HPM : Hid ((probeB ys2 gs2 (rid2, zs2) [0, 1, 2]).1.length ≤ 1048576) := Lib.hid (by have h := probe_size ys2 gs2 rid2 zs2 [0, 1, 2]; rw [zL_ints] at h; exact h)
  have HMT := Lib.hid (fun h : (isIndexB ys2 gs2 && rowB (rid2, zs2)) = false => probe_none ys2 gs2 rid2 zs2 h)
  have p_X_0 := (cell_of_row qw8 _ 0 _ _ _ X.out).trans (show _ = some (Value.slice e0 ys2.length d0) from rfl)
  have p_X_1 := (cell_of_row qw8 _ 1 _ _ _ X.out).trans (show _ = some (Value.slice e1 gs2.length d1) from rfl)
  have p_R_0 := (cell_of_row qw8 _ 0 _ _ _ R.out).trans (show _ = some (Value.int .i64 rid2) from rfl)
  have p_R_1 := (cell_of_row qw8 _ 1 _ _ _ R.out).trans (show _ = some (Value.slice e2 zs2.length d2) from rfl)
  go_upto_region 12 with fail
  clear p_X_0 p_X_1 p_R_0 p_R_1
  go_cut [81] from 76 (fun s12 wx => s12 = .bool (isIndexB ys2 gs2 && rowB (rid2, zs2)) ∧ wx.heap[B2]? = some (.cells #[.slice e0 ys2.length d0, .slice e1 gs2.length d1] 49 (0, 0)) ∧ wx.heap[B2 + 1]? = some (.cells #[.int .i64 rid2, .slice e2 zs2.length d2] 51 (0, 0)) ∧ SlR tQuery wx (.slice e0 ys2.length d0) ys2 ∧ SlR tSpanS wx (.slice e1 gs2.length d1) gs2 ∧ SlR tInt wx (.slice e2 zs2.length d2) zs2 ∧ SlR tInt wx (.slice e6 (probeB ys2 gs2 (rid2, zs2) [0, 1, 2]).1.length d6) (probeB ys2 gs2 (rid2, zs2) [0, 1, 2]).1 ∧ Code wx (.slice p xs.length cap) xs ∧ Below w0.heap.size w0 wx)
  case first =>
   have p_X_0 := (cell_of_row qw8 _ 0 _ _ _ X.out).trans (show _ = some (Value.slice e0 ys2.length d0) from rfl)
   have p_X_1 := (cell_of_row qw8 _ 1 _ _ _ X.out).trans (show _ = some (Value.slice e1 gs2.length d1) from rfl)
   have p_R_0 := (cell_of_row qw8 _ 0 _ _ _ R.out).trans (show _ = some (Value.int .i64 rid2) from rfl)
   have p_R_1 := (cell_of_row qw8 _ 1 _ _ _ R.out).trans (show _ = some (Value.slice e2 zs2.length d2) from rfl)
   go_wp2_with fail
   clear p_X_0 p_X_1 p_R_0 p_R_1
   refine (specIsIndex _ _ ys2 gs2 _ RQ.out RF.out (by have := HQZ.out; omega) (by have := HFZ.out; omega)).mono ?_
   rintro e qw9 ⟨rfl, bb⟩
   replace X := Lib.hid ((bb.block (B2) (Array.getElem?_eq_some_iff.1 X.out).1).trans X.out)
   replace R := Lib.hid ((bb.block (B2 + 1) (Array.getElem?_eq_some_iff.1 R.out).1).trans R.out)
   replace RQ := Lib.hid (slR_below tQuery_law RQ.out bb)
   replace RF := Lib.hid (slR_below tSpanS_law RF.out bb)
   replace RR := Lib.hid (slR_below tInt_law RR.out bb)
   replace RM := Lib.hid (slR_below tInt_law RM.out bb)
   replace CD := Lib.hid (code_below CD.out bb)
   replace D := Lib.hid (D.out.trans (bb.mono D.out.size))
   clear bb
   cases hx : isIndexB ys2 gs2 with
   | false =>
    go_wp2_with fail
    go_meet
    case rel => exact ⟨by rw [hx]; rfl, X.out, R.out, RQ.out, RF.out, RR.out, RM.out, CD.out, D.out⟩
   | true =>
    have p_X_0 := (cell_of_row qw9 _ 0 _ _ _ X.out).trans (show _ = some (Value.slice e0 ys2.length d0) from rfl)
    have p_X_1 := (cell_of_row qw9 _ 1 _ _ _ X.out).trans (show _ = some (Value.slice e1 gs2.length d1) from rfl)
    have p_R_0 := (cell_of_row qw9 _ 0 _ _ _ R.out).trans (show _ = some (Value.int .i64 rid2) from rfl)
    have p_R_1 := (cell_of_row qw9 _ 1 _ _ _ R.out).trans (show _ = some (Value.slice e2 zs2.length d2) from rfl)
    go_wp2_with fail
    clear p_X_0 p_X_1 p_R_0 p_R_1
    refine (specIsRow _ _ zs2 _ (slR_ints RR.out) (by have := HYL.out; omega)).mono ?_
    rintro e qw10 ⟨rfl, bb⟩
    replace X := Lib.hid ((bb.block (B2) (Array.getElem?_eq_some_iff.1 X.out).1).trans X.out)
    replace R := Lib.hid ((bb.block (B2 + 1) (Array.getElem?_eq_some_iff.1 R.out).1).trans R.out)
    replace RQ := Lib.hid (slR_below tQuery_law RQ.out bb)
    replace RF := Lib.hid (slR_below tSpanS_law RF.out bb)
    replace RR := Lib.hid (slR_below tInt_law RR.out bb)
    replace RM := Lib.hid (slR_below tInt_law RM.out bb)
    replace CD := Lib.hid (code_below CD.out bb)
    replace D := Lib.hid (D.out.trans (bb.mono D.out.size))
    clear bb
    cases hr : rowB (rid2, zs2) with
    | false =>
     go_wp2_with fail
     go_meet
     case rel => exact ⟨by rw [hx, hr]; rfl, X.out, R.out, RQ.out, RF.out, RR.out, RM.out, CD.out, D.out⟩
    | true =>
     go_wp2_with fail
     go_meet
     case rel => exact ⟨by rw [hx, hr]; rfl, X.out, R.out, RQ.out, RF.out, RR.out, RM.out, CD.out, D.out⟩
  case rest =>
  clear X R RQ RF RR RM CD D
  obtain ⟨rfl, yX, yR, yRQ, yRF, yRR, yRM, yCD, yD⟩ := hcut
  have X := Lib.hid yX
  have R := Lib.hid yR
  have RQ := Lib.hid yRQ
  have RF := Lib.hid yRF
  have RR := Lib.hid yRR
  have RM := Lib.hid yRM
  have CD := Lib.hid yCD
  have D := Lib.hid yD
  clear yX yR yRQ yRF yRR yRM yCD yD
  go_upto_if 81 with fail
  go_cut [] from 76 (fun wx => Code wx (.slice p xs.length cap) xs ∧ Below w0.heap.size w0 wx)
  case first =>
   cases hb : (isIndexB ys2 gs2 && rowB (rid2, zs2)) with
   | false =>
    have hmt := HMT.out hb
    generalize (probeB ys2 gs2 (rid2, zs2) [0, 1, 2]).1 = M at *
    subst hmt
    have hl0 : (([] : List Int).length : Int) = 0 := rfl
    have p_X_0 := (cell_of_row wc _ 0 _ _ _ X.out).trans (show _ = some (Value.slice e0 ys2.length d0) from rfl)
    have p_X_1 := (cell_of_row wc _ 1 _ _ _ X.out).trans (show _ = some (Value.slice e1 gs2.length d1) from rfl)
    have p_R_0 := (cell_of_row wc _ 0 _ _ _ R.out).trans (show _ = some (Value.int .i64 rid2) from rfl)
    have p_R_1 := (cell_of_row wc _ 1 _ _ _ R.out).trans (show _ = some (Value.slice e2 zs2.length d2) from rfl)
    go_wp2_with fail
    clear p_X_0 p_X_1 p_R_0 p_R_1
    go_meet
    case rel => exact ⟨CD.out, D.out⟩
   | true =>
    have hx : isIndexB ys2 gs2 = true := by rw [Bool.and_eq_true] at hb; exact hb.1
    have hr : rowB (rid2, zs2) = true := by rw [Bool.and_eq_true] at hb; exact hb.2
    have HPH := Lib.hid (fun (q : QD) (hq : q ∈ ys2) => probe_has hx hr (by decide : orderB [0, 1, 2] = true) hq)
    have hqz := HQZ.out
    have hfz := HFZ.out
    have hyl := HYL.out
    have h24 := zL_len hqz
    clear HMT hx hr hb hqz hfz hyl
    have p_X_0 := (cell_of_row wc _ 0 _ _ _ X.out).trans (show _ = some (Value.slice e0 ys2.length d0) from rfl)
    have p_X_1 := (cell_of_row wc _ 1 _ _ _ X.out).trans (show _ = some (Value.slice e1 gs2.length d1) from rfl)
    have p_R_0 := (cell_of_row wc _ 0 _ _ _ R.out).trans (show _ = some (Value.int .i64 rid2) from rfl)
    have p_R_1 := (cell_of_row wc _ 1 _ _ _ R.out).trans (show _ = some (Value.slice e2 zs2.length d2) from rfl)
    go_wp2
    clear p_X_0 p_X_1 p_R_0 p_R_1
    go_loopw [13] (fun i wr => ∃ k : Nat, k ≤ ys2.length ∧ i = .int .i64 k ∧ Hid (wr.heap[B2]? = some (.cells #[.slice e0 ys2.length d0, .slice e1 gs2.length d1] 49 (0, 0))) ∧ Hid (wr.heap[B2 + 1]? = some (.cells #[.int .i64 rid2, .slice e2 zs2.length d2] 51 (0, 0))) ∧ Hid (SlR tQuery wr (.slice e0 ys2.length d0) ys2) ∧ Hid (SlR tInt wr (.slice e2 zs2.length d2) zs2) ∧ Hid (SlR tInt wr (.slice e6 (probeB ys2 gs2 (rid2, zs2) [0, 1, 2]).1.length d6) (probeB ys2 gs2 (rid2, zs2) [0, 1, 2]).1) ∧ Hid (Code wr (.slice p xs.length cap) xs) ∧ Hid (Below w0.heap.size w0 wr)) (fun i _ => ys2.length - (intOf i).toNat)
    case atStart => exact ⟨0, by omega, rfl, X, R, RQ, RR, RM, CD, D⟩
    case round =>
     clear X R RQ RF RR RM CD D
     obtain ⟨k, hk, rfl, X, R, RQ, RR, RM, CD, D⟩ := hrel
     by_cases hlt : k < ys2.length
     ·
      obtain ⟨qb, qo, qc, qcs, hv, hqb, hcs, hR⟩ := slR_at RQ.out hlt
      simp only [Value.slice.injEq] at hv
      obtain ⟨rfl, _, rfl⟩ := hv
      have hqm : ys2.getD k tQuery.d ∈ ys2 := by rw [show ys2.getD k tQuery.d = ys2[k] by simp [List.getD, hlt]]; exact List.getElem_mem _
      have HP := Lib.hid (HPH.out _ hqm)
      have hzx := zL_at (show zL tQuery ys2 ≤ 200 from HQZ.out) hlt
      generalize ys2.getD k tQuery.d = x at *
      obtain ⟨i0, i1, x2, x3⟩ := x
      obtain ⟨v2, v3, hR'⟩ := tQuery_R hR
      obtain ⟨rfl, h2, h3⟩ := hR'
      obtain ⟨b2a, b2c, rfl⟩ := slR_len h2
      obtain ⟨b3a, b3c, rfl⟩ := slR_len h3
      have P0 : Hid (wr.cell? ⟨qb, qo + k * 4, none⟩ = some (Value.int .i64 i0)) := Lib.hid (hcs 0 (by decide))
      have P1 : Hid (wr.cell? ⟨qb, qo + k * 4 + 1, none⟩ = some (Value.int .i64 i1)) := Lib.hid (hcs 1 (by decide))
      have P2 : Hid (wr.cell? ⟨qb, qo + k * 4 + 2, none⟩ = some (Value.slice b2a x2.length b2c)) := Lib.hid (hcs 2 (by decide))
      have P3 : Hid (wr.cell? ⟨qb, qo + k * 4 + 3, none⟩ = some (Value.slice b3a x3.length b3c)) := Lib.hid (hcs 3 (by decide))
      have QB := Lib.hid hqb
      rw [tQuery_sz, zL_conds, zL_ints] at hzx
      have HZX := Lib.hid hzx
      have RC2 := Lib.hid h2
      have RC3 := Lib.hid h3
      have j1 : (0 : Int) ≤ (k : Int) := by omega
      have j2 : (k : Int) < (ys2.length : Int) := by omega
      clear hqb hcs hR hqm hzx h2 h3
      have p_X_0 := (cell_of_row wr _ 0 _ _ _ X.out).trans (show _ = some (Value.slice (some ⟨qb, qo, none⟩) ys2.length d0) from rfl)
      have p_X_1 := (cell_of_row wr _ 1 _ _ _ X.out).trans (show _ = some (Value.slice e1 gs2.length d1) from rfl)
      have p_R_0 := (cell_of_row wr _ 0 _ _ _ R.out).trans (show _ = some (Value.int .i64 rid2) from rfl)
      have p_R_1 := (cell_of_row wr _ 1 _ _ _ R.out).trans (show _ = some (Value.slice e2 zs2.length d2) from rfl)
      have c_P0 := P0.out
      have c_P1 := P1.out
      have c_P2 := P2.out
      have c_P3 := P3.out
      go_wp2
      clear p_X_0 p_X_1 p_R_0 p_R_1 c_P0 c_P1 c_P2 c_P3
      have p_X_0 := (cell_of_row wr _ 0 _ _ _ X.out).trans (show _ = some (Value.slice (some ⟨qb, qo, none⟩) ys2.length d0) from rfl)
      have p_X_1 := (cell_of_row wr _ 1 _ _ _ X.out).trans (show _ = some (Value.slice e1 gs2.length d1) from rfl)
      have p_R_0 := (cell_of_row wr _ 0 _ _ _ R.out).trans (show _ = some (Value.int .i64 rid2) from rfl)
      have p_R_1 := (cell_of_row wr _ 1 _ _ _ R.out).trans (show _ = some (Value.slice e2 zs2.length d2) from rfl)
      have c_P0 := P0.out
      have c_P1 := P1.out
      have c_P2 := P2.out
      have c_P3 := P3.out
      refine wp_region_held_drew (S := fun w' => w'.cell? ⟨B2, 0, none⟩ = some (Value.slice (some ⟨qb, qo, none⟩) ys2.length d0) ∧ w'.cell? ⟨B2, 1, none⟩ = some (Value.slice e1 gs2.length d1) ∧ w'.cell? ⟨B2 + 1, 0, none⟩ = some (Value.int .i64 rid2) ∧ w'.cell? ⟨B2 + 1, 1, none⟩ = some (Value.slice e2 zs2.length d2) ∧ w'.cell? ⟨qb, qo + k * 4, none⟩ = some (Value.int .i64 i0) ∧ w'.cell? ⟨qb, qo + k * 4 + 1, none⟩ = some (Value.int .i64 i1) ∧ w'.cell? ⟨qb, qo + k * 4 + 2, none⟩ = some (Value.slice b2a x2.length b2c) ∧ w'.cell? ⟨qb, qo + k * 4 + 3, none⟩ = some (Value.slice b3a x3.length b3c)) (by kernel_rfl) ⟨p_X_0, p_X_1, p_R_0, p_R_1, c_P0, c_P1, c_P2, c_P3⟩ (fun hHeld => ?_)
      clear p_X_0 p_X_1 p_R_0 p_R_1 c_P0 c_P1 c_P2 c_P3
      have cdr : Below wr.heap.size wr wr.drew := below_drew (Below.refl _ _)
      replace X := Lib.hid ((cdr.block (B2) (Array.getElem?_eq_some_iff.1 X.out).1).trans X.out)
      replace R := Lib.hid ((cdr.block (B2 + 1) (Array.getElem?_eq_some_iff.1 R.out).1).trans R.out)
      replace RQ := Lib.hid (slR_below tQuery_law RQ.out cdr)
      replace RR := Lib.hid (slR_below tInt_law RR.out cdr)
      replace RM := Lib.hid (slR_below tInt_law RM.out cdr)
      replace RC2 := Lib.hid (slR_below tCond_law RC2.out cdr)
      replace RC3 := Lib.hid (slR_below tInt_law RC3.out cdr)
      replace P0 := Lib.hid ((cdr.cell (p := ⟨qb, qo + k * 4, none⟩) QB.out).trans P0.out)
      replace P1 := Lib.hid ((cdr.cell (p := ⟨qb, qo + k * 4 + 1, none⟩) QB.out).trans P1.out)
      replace P2 := Lib.hid ((cdr.cell (p := ⟨qb, qo + k * 4 + 2, none⟩) QB.out).trans P2.out)
      replace P3 := Lib.hid ((cdr.cell (p := ⟨qb, qo + k * 4 + 3, none⟩) QB.out).trans P3.out)
      replace QB := Lib.hid (Nat.lt_of_lt_of_le QB.out cdr.size)
      replace CD := Lib.hid (code_below CD.out cdr)
      replace D := Lib.hid (D.out.trans (cdr.mono D.out.size))
      clear cdr
      generalize wr.drew = qw29 at *
      refine tR (i := 0) (v := ?_) ?_ ?_; rotate_left
      ·
       intro w hSw; (try dsimp only at hSw); go_simp; try (with_reducible rfl)
      try simp only [Act.put, lA, lB, lC]
      refine tR (i := 1) (v := ?_) ?_ ?_; rotate_left
      ·
       intro w hSw; (try dsimp only at hSw); go_simp; try (with_reducible rfl)
      try simp only [Act.put, lA, lB, lC]
      refine tR (i := 2) (v := ?_) ?_ ?_; rotate_left
      ·
       intro w hSw; (try dsimp only at hSw); go_simp; try (with_reducible rfl)
      try simp only [Act.put, lA, lB, lC]
      refine tR (i := 3) (v := ?_) ?_ ?_; rotate_left
      ·
       intro w hSw; (try dsimp only at hSw); go_simp; try (with_reducible rfl)
      try simp only [Act.put, lA, lB, lC]
      refine tR (i := 4) (v := ?_) ?_ ?_; rotate_left
      ·
       intro w hSw; (try dsimp only at hSw); go_simp; try (with_reducible rfl)
      try simp only [Act.put, lA, lB, lC]
      refine tR (i := 5) (v := ?_) ?_ ?_; rotate_left
      ·
       intro w hSw; (try dsimp only at hSw); go_simp; try (with_reducible rfl)
      try simp only [Act.put, lA, lB, lC]
      refine tR (i := 6) (v := ?_) ?_ ?_; rotate_left
      ·
       intro w hSw; (try dsimp only at hSw); go_simp; try (with_reducible rfl)
      try simp only [Act.put, lA, lB, lC]
      refine tR (i := 8) (v := ?_) ?_ ?_; rotate_left
      ·
       intro w hSw; (try dsimp only at hSw); go_simp; try (with_reducible rfl)
      try simp only [Act.put, lA, lB, lC]
      refine tR (i := 9) (v := ?_) ?_ ?_; rotate_left
      ·
       intro w hSw; (try dsimp only at hSw); go_simp; try (with_reducible rfl)
      try simp only [Act.put, lA, lB, lC]
      refine tR (i := 10) (v := ?_) ?_ ?_; rotate_left
      ·
       intro w hSw; (try dsimp only at hSw); go_simp; try (with_reducible rfl)
      try simp only [Act.put, lA, lB, lC]
      refine tR (i := 11) (v := ?_) ?_ ?_; rotate_left
      ·
       intro w hSw; (try dsimp only at hSw); go_simp; try (with_reducible rfl)
      try simp only [Act.put, lA, lB, lC]
      refine tR (i := 12) (v := ?_) ?_ ?_; rotate_left
      ·
       intro w hSw; (try dsimp only at hSw); go_simp; try (with_reducible rfl)
      try simp only [Act.put, lA, lB, lC]
      refine tR (i := 13) (v := ?_) ?_ ?_; rotate_left
      ·
       intro w hSw; (try dsimp only at hSw); go_simp; try (with_reducible rfl)
      try simp only [Act.put, lA, lB, lC]
      refine wpAnyH_ready (rs := [7]) (by kernel_rfl) (by simp) ?_
      refine (AllReadyH.cons (o := _) (by simp only [hA, hB, hC]; rfl) (fun K hK => ?_) AllReadyH.nil)
      go_simp
      refine (hasL _ _ i0 _ (slR_ints RM.out) HPM.out).mono ?_
      rintro e qw30 ⟨rfl, bb⟩
      rw [HP.out]
      replace X := Lib.hid ((bb.block (B2) (Array.getElem?_eq_some_iff.1 X.out).1).trans X.out)
      replace R := Lib.hid ((bb.block (B2 + 1) (Array.getElem?_eq_some_iff.1 R.out).1).trans R.out)
      replace RQ := Lib.hid (slR_below tQuery_law RQ.out bb)
      replace RR := Lib.hid (slR_below tInt_law RR.out bb)
      replace RM := Lib.hid (slR_below tInt_law RM.out bb)
      replace RC2 := Lib.hid (slR_below tCond_law RC2.out bb)
      replace RC3 := Lib.hid (slR_below tInt_law RC3.out bb)
      replace P0 := Lib.hid ((bb.cell (p := ⟨qb, qo + k * 4, none⟩) QB.out).trans P0.out)
      replace P1 := Lib.hid ((bb.cell (p := ⟨qb, qo + k * 4 + 1, none⟩) QB.out).trans P1.out)
      replace P2 := Lib.hid ((bb.cell (p := ⟨qb, qo + k * 4 + 2, none⟩) QB.out).trans P2.out)
      replace P3 := Lib.hid ((bb.cell (p := ⟨qb, qo + k * 4 + 3, none⟩) QB.out).trans P3.out)
      replace QB := Lib.hid (Nat.lt_of_lt_of_le QB.out bb.size)
      replace CD := Lib.hid (code_below CD.out bb)
      replace D := Lib.hid (D.out.trans (bb.mono D.out.size))
      clear bb
      have p_X_0 := (cell_of_row qw30 _ 0 _ _ _ X.out).trans (show _ = some (Value.slice (some ⟨qb, qo, none⟩) ys2.length d0) from rfl)
      have p_X_1 := (cell_of_row qw30 _ 1 _ _ _ X.out).trans (show _ = some (Value.slice e1 gs2.length d1) from rfl)
      have p_R_0 := (cell_of_row qw30 _ 0 _ _ _ R.out).trans (show _ = some (Value.int .i64 rid2) from rfl)
      have p_R_1 := (cell_of_row qw30 _ 1 _ _ _ R.out).trans (show _ = some (Value.slice e2 zs2.length d2) from rfl)
      have c_P0 := P0.out
      have c_P1 := P1.out
      have c_P2 := P2.out
      have c_P3 := P3.out
      refine hK.out _ _ ⟨p_X_0, p_X_1, p_R_0, p_R_1, c_P0, c_P1, c_P2, c_P3⟩ (fun hHeld => ?_)
      clear p_X_0 p_X_1 p_R_0 p_R_1 c_P0 c_P1 c_P2 c_P3
      clear hK K
      try simp only [Act.put, lA, lB, lC]
      refine wpAnyH_ready (rs := [14]) (by kernel_rfl) (by simp) ?_
      refine (AllReadyH.cons (o := _) (by simp only [hA, hB, hC]; rfl) (fun K hK => ?_) AllReadyH.nil)
      go_simp
      refine (specMatchesRow i0 i1 rid2 _ _ _ x2 x3 zs2 _ (slR_conds RC2.out) (by have := HZX.out; omega) (slR_ints RC3.out) (by have := HZX.out; omega) (slR_ints RR.out) (by have := HYL.out; omega)).mono ?_
      rintro e qw31 ⟨rfl, bb⟩
      replace X := Lib.hid ((bb.block (B2) (Array.getElem?_eq_some_iff.1 X.out).1).trans X.out)
      replace R := Lib.hid ((bb.block (B2 + 1) (Array.getElem?_eq_some_iff.1 R.out).1).trans R.out)
      replace RQ := Lib.hid (slR_below tQuery_law RQ.out bb)
      replace RR := Lib.hid (slR_below tInt_law RR.out bb)
      replace RM := Lib.hid (slR_below tInt_law RM.out bb)
      replace RC2 := Lib.hid (slR_below tCond_law RC2.out bb)
      replace RC3 := Lib.hid (slR_below tInt_law RC3.out bb)
      replace P0 := Lib.hid ((bb.cell (p := ⟨qb, qo + k * 4, none⟩) QB.out).trans P0.out)
      replace P1 := Lib.hid ((bb.cell (p := ⟨qb, qo + k * 4 + 1, none⟩) QB.out).trans P1.out)
      replace P2 := Lib.hid ((bb.cell (p := ⟨qb, qo + k * 4 + 2, none⟩) QB.out).trans P2.out)
      replace P3 := Lib.hid ((bb.cell (p := ⟨qb, qo + k * 4 + 3, none⟩) QB.out).trans P3.out)
      replace QB := Lib.hid (Nat.lt_of_lt_of_le QB.out bb.size)
      replace CD := Lib.hid (code_below CD.out bb)
      replace D := Lib.hid (D.out.trans (bb.mono D.out.size))
      clear bb
      generalize matchB i0 i1 x2 x3 (rid2, zs2) = mb at *
      have p_X_0 := (cell_of_row qw31 _ 0 _ _ _ X.out).trans (show _ = some (Value.slice (some ⟨qb, qo, none⟩) ys2.length d0) from rfl)
      have p_X_1 := (cell_of_row qw31 _ 1 _ _ _ X.out).trans (show _ = some (Value.slice e1 gs2.length d1) from rfl)
      have p_R_0 := (cell_of_row qw31 _ 0 _ _ _ R.out).trans (show _ = some (Value.int .i64 rid2) from rfl)
      have p_R_1 := (cell_of_row qw31 _ 1 _ _ _ R.out).trans (show _ = some (Value.slice e2 zs2.length d2) from rfl)
      have c_P0 := P0.out
      have c_P1 := P1.out
      have c_P2 := P2.out
      have c_P3 := P3.out
      refine hK.out _ _ ⟨p_X_0, p_X_1, p_R_0, p_R_1, c_P0, c_P1, c_P2, c_P3⟩ (fun hHeld => ?_)
      clear p_X_0 p_X_1 p_R_0 p_R_1 c_P0 c_P1 c_P2 c_P3
      clear hK K
      try simp only [Act.put, lA, lB, lC]
      refine tR (i := 15) (v := ?_) ?_ ?_; rotate_left
      ·
       intro w hSw; (try dsimp only at hSw); go_simp; try (with_reducible rfl)
      try simp only [Act.put, lA, lB, lC]
      refine wpAnyH_done (by kernel_rfl) ?_ _
      clear hHeld
      go_wp2
      go_roundw
      case rel => exact ⟨k + 1, by omega, by go_num, X, R, RQ, RR, RM, CD, D⟩
      case measure => simp [intOf]; omega
     ·
      obtain rfl : k = ys2.length := by omega
      have p_X_0 := (cell_of_row wr _ 0 _ _ _ X.out).trans (show _ = some (Value.slice e0 ys2.length d0) from rfl)
      have p_X_1 := (cell_of_row wr _ 1 _ _ _ X.out).trans (show _ = some (Value.slice e1 gs2.length d1) from rfl)
      have p_R_0 := (cell_of_row wr _ 0 _ _ _ R.out).trans (show _ = some (Value.int .i64 rid2) from rfl)
      have p_R_1 := (cell_of_row wr _ 1 _ _ _ R.out).trans (show _ = some (Value.slice e2 zs2.length d2) from rfl)
      go_wp2_with fail
      clear p_X_0 p_X_1 p_R_0 p_R_1
      go_meet
      case rel => exact ⟨CD.out, D.out⟩
  case rest =>
  clear X R RQ RF RR RM
  clear HQZ HFZ HYL HPM HMT CD D
  obtain ⟨cd, dd⟩ := hcut
  have CD := Lib.hid cd
  have D := Lib.hid dd
  clear cd dd
  go_wp2_with fail
  refine (HDB.out _ CD.out).mono ?_
  rintro e qw9 ⟨qv, fv, lv, qs3, fs3, rs3, rfl, rq, rf, rl, hqz, hfz, hlz, bb⟩
  replace CD := Lib.hid (code_below CD.out bb)
  replace D := Lib.hid (D.out.trans (bb.mono D.out.size))
  have RQ := Lib.hid rq
  have RF := Lib.hid rf
  have RL := Lib.hid rl
  have HQZ := Lib.hid hqz
  have HFZ := Lib.hid hfz
  have HLZ := Lib.hid hlz
  obtain ⟨g0, f0, rfl⟩ := slR_len rq
  obtain ⟨g1, f1, rfl⟩ := slR_len rf
  obtain ⟨g2, f2, rfl⟩ := slR_len rl
  clear rq rf rl hqz hfz hlz HDB
  clear bb
  go_wp2_with fail
  have bb : Below qw9.heap.size qw9 (qw9.alloc (.cells #[.slice g0 qs3.length f0, .slice g1 fs3.length f1] 49)) := (Below.refl _ _).alloc (Nat.le_refl _) _
  replace RQ := Lib.hid (slR_below tQuery_law RQ.out bb)
  replace RF := Lib.hid (slR_below tSpanS_law RF.out bb)
  replace RL := Lib.hid (slR_below tRow_law RL.out bb)
  replace CD := Lib.hid (code_below CD.out bb)
  replace D := Lib.hid (D.out.trans (bb.mono D.out.size))
  clear bb
  have X : Hid ((qw9.alloc (.cells #[.slice g0 qs3.length f0, .slice g1 fs3.length f1] 49)).heap[qw9.heap.size]? = some (.cells #[.slice g0 qs3.length f0, .slice g1 fs3.length f1] 49 (0, 0))) := Lib.hid (by have h := heap_alloc_new qw9 (.cells #[.slice g0 qs3.length f0, .slice g1 fs3.length f1] 49); simpa [World.size_alloc] using h)
  generalize (qw9.alloc (.cells #[.slice g0 qs3.length f0, .slice g1 fs3.length f1] 49)) = V3 at *
  generalize qw9.heap.size = B3 at *
  refine (implBestOrder _ _ _ qs3 fs3 rs3 _ RQ.out RF.out RL.out (by have := HQZ.out; omega) (by have := HFZ.out; omega) (by have := HLZ.out; omega) (HT.out.on D.out)).mono ?_
  rintro e qw10 ⟨bv, G, rfl, ob, _, bb⟩
  replace X := Lib.hid ((bb.block (B3) (Array.getElem?_eq_some_iff.1 X.out).1).trans X.out)
  replace RQ := Lib.hid (slR_below tQuery_law RQ.out bb)
  replace RF := Lib.hid (slR_below tSpanS_law RF.out bb)
  replace RL := Lib.hid (slR_below tRow_law RL.out bb)
  replace CD := Lib.hid (code_below CD.out bb)
  replace D := Lib.hid (D.out.trans (bb.mono D.out.size))
  have RB := Lib.hid (slO_reads tInt_law ob)
  obtain ⟨g3, f3, rfl⟩ := slR_len RB.out
  clear ob
  clear bb
  have p_X_0 := (cell_of_row qw10 _ 0 _ _ _ X.out).trans (show _ = some (Value.slice g0 qs3.length f0) from rfl)
  have p_X_1 := (cell_of_row qw10 _ 1 _ _ _ X.out).trans (show _ = some (Value.slice g1 fs3.length f1) from rfl)
  go_wp2_with fail
  clear p_X_0 p_X_1
  refine (fitBestOrder qs3 fs3 rs3 _ _ _ _ RQ.out RF.out RL.out (by have := HQZ.out; have := HFZ.out; have := HLZ.out; omega)).mono ?_
  rintro e qw11 ⟨cv, G, rfl, oc, _, bb⟩
  replace X := Lib.hid ((bb.block (B3) (Array.getElem?_eq_some_iff.1 X.out).1).trans X.out)
  replace RQ := Lib.hid (slR_below tQuery_law RQ.out bb)
  replace RF := Lib.hid (slR_below tSpanS_law RF.out bb)
  replace RL := Lib.hid (slR_below tRow_law RL.out bb)
  replace RB := Lib.hid (slR_below tInt_law RB.out bb)
  replace CD := Lib.hid (code_below CD.out bb)
  replace D := Lib.hid (D.out.trans (bb.mono D.out.size))
  have RC := Lib.hid (slO_reads tInt_law oc)
  obtain ⟨g4, f4, rfl⟩ := slR_len RC.out
  clear oc
  clear bb
  have HBL : Hid ((bestL qs3 fs3 rs3).length ≤ 1048576) := Lib.hid (by have h := best_size qs3 fs3 rs3; rw [zL_ints] at h; exact h)
  go_wp2_with fail
  refine (sameS_any _ _ _ _ _ (slR_ints RB.out) (slR_ints RC.out) HBL.out HBL.out).mono ?_
  rintro e qw12 ⟨rfl, bb⟩
  rw [decide_eq_true (rfl : bestL qs3 fs3 rs3 = bestL qs3 fs3 rs3)]
  replace X := Lib.hid ((bb.block (B3) (Array.getElem?_eq_some_iff.1 X.out).1).trans X.out)
  replace RQ := Lib.hid (slR_below tQuery_law RQ.out bb)
  replace RF := Lib.hid (slR_below tSpanS_law RF.out bb)
  replace RL := Lib.hid (slR_below tRow_law RL.out bb)
  replace RB := Lib.hid (slR_below tInt_law RB.out bb)
  replace RC := Lib.hid (slR_below tInt_law RC.out bb)
  replace CD := Lib.hid (code_below CD.out bb)
  replace D := Lib.hid (D.out.trans (bb.mono D.out.size))
  clear bb
  clear RC
  go_wp2_with fail
  refine (HDW.out _ CD.out).mono ?_
  rintro e qw13 ⟨qv, fv, lv, ov, qs4, fs4, rs4, os4, rfl, rq, rf, rl, ro, hqz, hfz, hlz, hol, bb⟩
  replace X := Lib.hid ((bb.block (B3) (Array.getElem?_eq_some_iff.1 X.out).1).trans X.out)
  replace RQ := Lib.hid (slR_below tQuery_law RQ.out bb)
  replace RF := Lib.hid (slR_below tSpanS_law RF.out bb)
  replace RL := Lib.hid (slR_below tRow_law RL.out bb)
  replace RB := Lib.hid (slR_below tInt_law RB.out bb)
  replace CD := Lib.hid (code_below CD.out bb)
  replace D := Lib.hid (D.out.trans (bb.mono D.out.size))
  have SQ := Lib.hid rq
  have SF := Lib.hid rf
  have SL := Lib.hid rl
  have SO := Lib.hid ro
  have KQZ := Lib.hid hqz
  have KFZ := Lib.hid hfz
  have KLZ := Lib.hid hlz
  have KOL := Lib.hid hol
  obtain ⟨h0, k0, rfl⟩ := slR_len rq
  obtain ⟨h1, k1, rfl⟩ := slR_len rf
  obtain ⟨h2, k2, rfl⟩ := slR_len rl
  obtain ⟨h3, k3, rfl⟩ := slR_len ro
  clear rq rf rl ro hqz hfz hlz hol HDW
  clear bb
  have p_X_0 := (cell_of_row qw13 _ 0 _ _ _ X.out).trans (show _ = some (Value.slice g0 qs3.length f0) from rfl)
  have p_X_1 := (cell_of_row qw13 _ 1 _ _ _ X.out).trans (show _ = some (Value.slice g1 fs3.length f1) from rfl)
  have HBW := Lib.hid (fun h o ho => @best_work qs3 fs3 rs3 h o ho)
  generalize bestL qs3 fs3 rs3 = M at *
  clear p_X_0 p_X_1
  by_cases hm : M.length = 0
  ·
   obtain rfl : M = [] := List.eq_nil_of_length_eq_zero hm
   clear hm
   go_wp2
   have bb : Below qw13.heap.size qw13 (qw13.alloc (.cells #[.slice h0 qs4.length k0, .slice h1 fs4.length k1] 49)) := (Below.refl _ _).alloc (Nat.le_refl _) _
   replace X := Lib.hid ((bb.block (B3) (Array.getElem?_eq_some_iff.1 X.out).1).trans X.out)
   replace RQ := Lib.hid (slR_below tQuery_law RQ.out bb)
   replace RF := Lib.hid (slR_below tSpanS_law RF.out bb)
   replace RL := Lib.hid (slR_below tRow_law RL.out bb)
   replace RB := Lib.hid (slR_below tInt_law RB.out bb)
   replace SQ := Lib.hid (slR_below tQuery_law SQ.out bb)
   replace SF := Lib.hid (slR_below tSpanS_law SF.out bb)
   replace SL := Lib.hid (slR_below tRow_law SL.out bb)
   replace SO := Lib.hid (slR_below tInt_law SO.out bb)
   replace CD := Lib.hid (code_below CD.out bb)
   replace D := Lib.hid (D.out.trans (bb.mono D.out.size))
   clear bb
   have Y : Hid ((qw13.alloc (.cells #[.slice h0 qs4.length k0, .slice h1 fs4.length k1] 49)).heap[qw13.heap.size]? = some (.cells #[.slice h0 qs4.length k0, .slice h1 fs4.length k1] 49 (0, 0))) := Lib.hid (by have h := heap_alloc_new qw13 (.cells #[.slice h0 qs4.length k0, .slice h1 fs4.length k1] 49); simpa [World.size_alloc] using h)
   generalize (qw13.alloc (.cells #[.slice h0 qs4.length k0, .slice h1 fs4.length k1] 49)) = V4 at *
   generalize qw13.heap.size = B4 at *
   have p_X_0 := (cell_of_row V4 _ 0 _ _ _ X.out).trans (show _ = some (Value.slice g0 qs3.length f0) from rfl)
   have p_X_1 := (cell_of_row V4 _ 1 _ _ _ X.out).trans (show _ = some (Value.slice g1 fs3.length f1) from rfl)
   have p_Y_0 := (cell_of_row V4 _ 0 _ _ _ Y.out).trans (show _ = some (Value.slice h0 qs4.length k0) from rfl)
   have p_Y_1 := (cell_of_row V4 _ 1 _ _ _ Y.out).trans (show _ = some (Value.slice h1 fs4.length k1) from rfl)
   refine wp_region_held_drew (S := fun w' => w'.cell? ⟨B3, 0, none⟩ = some (Value.slice g0 qs3.length f0) ∧ w'.cell? ⟨B3, 1, none⟩ = some (Value.slice g1 fs3.length f1) ∧ w'.cell? ⟨B4, 0, none⟩ = some (Value.slice h0 qs4.length k0) ∧ w'.cell? ⟨B4, 1, none⟩ = some (Value.slice h1 fs4.length k1)) (by kernel_rfl) ⟨p_X_0, p_X_1, p_Y_0, p_Y_1⟩ (fun hHeld => ?_)
   clear p_X_0 p_X_1 p_Y_0 p_Y_1
   have cdr : Below V4.heap.size V4 V4.drew := below_drew (Below.refl _ _)
   replace X := Lib.hid ((cdr.block (B3) (Array.getElem?_eq_some_iff.1 X.out).1).trans X.out)
   replace Y := Lib.hid ((cdr.block (B4) (Array.getElem?_eq_some_iff.1 Y.out).1).trans Y.out)
   replace RQ := Lib.hid (slR_below tQuery_law RQ.out cdr)
   replace RF := Lib.hid (slR_below tSpanS_law RF.out cdr)
   replace RL := Lib.hid (slR_below tRow_law RL.out cdr)
   replace RB := Lib.hid (slR_below tInt_law RB.out cdr)
   replace SQ := Lib.hid (slR_below tQuery_law SQ.out cdr)
   replace SF := Lib.hid (slR_below tSpanS_law SF.out cdr)
   replace SL := Lib.hid (slR_below tRow_law SL.out cdr)
   replace SO := Lib.hid (slR_below tInt_law SO.out cdr)
   replace CD := Lib.hid (code_below CD.out cdr)
   replace D := Lib.hid (D.out.trans (cdr.mono D.out.size))
   clear cdr
   generalize V4.drew = qw14 at *
   refine tR (i := 0) (v := ?_) ?_ ?_; rotate_left
   ·
    intro w hSw; (try dsimp only at hSw); go_simp; try (with_reducible rfl)
   try simp only [Act.put, lA, lB, lC]
   refine tR (i := 1) (v := ?_) ?_ ?_; rotate_left
   ·
    intro w hSw; (try dsimp only at hSw); go_simp; try (with_reducible rfl)
   try simp only [Act.put, lA, lB, lC]
   refine tR (i := 2) (v := ?_) ?_ ?_; rotate_left
   ·
    intro w hSw; (try dsimp only at hSw); go_simp; try (with_reducible rfl)
   try simp only [Act.put, lA, lB, lC]
   refine tR (i := 3) (v := ?_) ?_ ?_; rotate_left
   ·
    intro w hSw; (try dsimp only at hSw); go_simp; try (with_reducible rfl)
   try simp only [Act.put, lA, lB, lC]
   refine tO (i := 4) ?_
   try simp only [Act.put, lA, lB, lC]
   refine tO (i := 5) ?_
   try simp only [Act.put, lA, lB, lC]
   refine tO (i := 6) ?_
   try simp only [Act.put, lA, lB, lC]
   refine tO (i := 7) ?_
   try simp only [Act.put, lA, lB, lC]
   refine tO (i := 8) ?_
   try simp only [Act.put, lA, lB, lC]
   refine tO (i := 9) ?_
   try simp only [Act.put, lA, lB, lC]
   refine tO (i := 10) ?_
   try simp only [Act.put, lA, lB, lC]
   refine tO (i := 11) ?_
   try simp only [Act.put, lA, lB, lC]
   refine tO (i := 12) ?_
   try simp only [Act.put, lA, lB, lC]
   refine tO (i := 13) ?_
   try simp only [Act.put, lA, lB, lC]
   refine tO (i := 14) ?_
   try simp only [Act.put, lA, lB, lC]
   refine tO (i := 15) ?_
   try simp only [Act.put, lA, lB, lC]
   refine tO (i := 16) ?_
   try simp only [Act.put, lA, lB, lC]
   refine tO (i := 17) ?_
   try simp only [Act.put, lA, lB, lC]
   refine tO (i := 18) ?_
   try simp only [Act.put, lA, lB, lC]
   refine tO (i := 19) ?_
   try simp only [Act.put, lA, lB, lC]
   refine tO (i := 20) ?_
   try simp only [Act.put, lA, lB, lC]
   refine tO (i := 21) ?_
   try simp only [Act.put, lA, lB, lC]
   refine tO (i := 22) ?_
   try simp only [Act.put, lA, lB, lC]
   refine tO (i := 23) ?_
   try simp only [Act.put, lA, lB, lC]
   refine tR (i := 24) (v := ?_) ?_ ?_; rotate_left
   ·
    intro w hSw; (try dsimp only at hSw); go_simp; try (with_reducible rfl)
   try simp only [Act.put, lA, lB, lC]
   refine tR (i := 25) (v := ?_) ?_ ?_; rotate_left
   ·
    intro w hSw; (try dsimp only at hSw); go_simp; try (with_reducible rfl)
   try simp only [Act.put, lA, lB, lC]
   refine tR (i := 26) (v := ?_) ?_ ?_; rotate_left
   ·
    intro w hSw; (try dsimp only at hSw); go_simp; try (with_reducible rfl)
   try simp only [Act.put, lA, lB, lC]
   refine tR (i := 27) (v := ?_) ?_ ?_; rotate_left
   ·
    intro w hSw; (try dsimp only at hSw); go_simp; try (with_reducible rfl)
   try simp only [Act.put, lA, lB, lC]
   refine tR (i := 28) (v := ?_) ?_ ?_; rotate_left
   ·
    intro w hSw; (try dsimp only at hSw); go_simp; try (with_reducible rfl)
   try simp only [Act.put, lA, lB, lC]
   refine tR (i := 30) (v := ?_) ?_ ?_; rotate_left
   ·
    intro w hSw; (try dsimp only at hSw); go_simp; try (with_reducible rfl)
   try simp only [Act.put, lA, lB, lC]
   refine tR (i := 31) (v := ?_) ?_ ?_; rotate_left
   ·
    intro w hSw; (try dsimp only at hSw); go_simp; try (with_reducible rfl)
   try simp only [Act.put, lA, lB, lC]
   refine tR (i := 32) (v := ?_) ?_ ?_; rotate_left
   ·
    intro w hSw; (try dsimp only at hSw); go_simp; try (with_reducible rfl)
   try simp only [Act.put, lA, lB, lC]
   refine wpAnyH_ready (rs := [29]) (by kernel_rfl) (by simp) ?_
   refine (AllReadyH.cons (o := _) (by simp only [hA, hB, hC]; rfl) (fun K hK => ?_) AllReadyH.nil)
   go_simp
   refine (resWorkOf HT.out qs4 fs4 rs4 os4 _ _ _ _ _ D.out SQ.out SF.out SL.out SO.out (by have := KQZ.out; have := KFZ.out; have := KLZ.out; omega) (by have := KOL.out; omega)).mono ?_
   rintro e qw15 ⟨rfl, bb⟩
   replace X := Lib.hid ((bb.block (B3) (Array.getElem?_eq_some_iff.1 X.out).1).trans X.out)
   replace Y := Lib.hid ((bb.block (B4) (Array.getElem?_eq_some_iff.1 Y.out).1).trans Y.out)
   replace RQ := Lib.hid (slR_below tQuery_law RQ.out bb)
   replace RF := Lib.hid (slR_below tSpanS_law RF.out bb)
   replace RL := Lib.hid (slR_below tRow_law RL.out bb)
   replace RB := Lib.hid (slR_below tInt_law RB.out bb)
   replace SQ := Lib.hid (slR_below tQuery_law SQ.out bb)
   replace SF := Lib.hid (slR_below tSpanS_law SF.out bb)
   replace SL := Lib.hid (slR_below tRow_law SL.out bb)
   replace SO := Lib.hid (slR_below tInt_law SO.out bb)
   replace CD := Lib.hid (code_below CD.out bb)
   replace D := Lib.hid (D.out.trans (bb.mono D.out.size))
   clear bb
   have p_X_0 := (cell_of_row qw15 _ 0 _ _ _ X.out).trans (show _ = some (Value.slice g0 qs3.length f0) from rfl)
   have p_X_1 := (cell_of_row qw15 _ 1 _ _ _ X.out).trans (show _ = some (Value.slice g1 fs3.length f1) from rfl)
   have p_Y_0 := (cell_of_row qw15 _ 0 _ _ _ Y.out).trans (show _ = some (Value.slice h0 qs4.length k0) from rfl)
   have p_Y_1 := (cell_of_row qw15 _ 1 _ _ _ Y.out).trans (show _ = some (Value.slice h1 fs4.length k1) from rfl)
   refine hK.out _ _ ⟨p_X_0, p_X_1, p_Y_0, p_Y_1⟩ (fun hHeld => ?_)
   clear p_X_0 p_X_1 p_Y_0 p_Y_1
   clear hK K
   try simp only [Act.put, lA, lB, lC]
   refine wpAnyH_ready (rs := [33]) (by kernel_rfl) (by simp) ?_
   refine (AllReadyH.cons (o := _) (by simp only [hA, hB, hC]; rfl) (fun K hK => ?_) AllReadyH.nil)
   go_simp
   refine (fitWorkOf qs4 fs4 rs4 os4 _ _ _ _ _ SQ.out SF.out SL.out SO.out (by have := KQZ.out; have := KFZ.out; have := KLZ.out; omega) (by have := KOL.out; omega)).mono ?_
   rintro e qw16 ⟨rfl, bb⟩
   replace X := Lib.hid ((bb.block (B3) (Array.getElem?_eq_some_iff.1 X.out).1).trans X.out)
   replace Y := Lib.hid ((bb.block (B4) (Array.getElem?_eq_some_iff.1 Y.out).1).trans Y.out)
   replace RQ := Lib.hid (slR_below tQuery_law RQ.out bb)
   replace RF := Lib.hid (slR_below tSpanS_law RF.out bb)
   replace RL := Lib.hid (slR_below tRow_law RL.out bb)
   replace RB := Lib.hid (slR_below tInt_law RB.out bb)
   replace SQ := Lib.hid (slR_below tQuery_law SQ.out bb)
   replace SF := Lib.hid (slR_below tSpanS_law SF.out bb)
   replace SL := Lib.hid (slR_below tRow_law SL.out bb)
   replace SO := Lib.hid (slR_below tInt_law SO.out bb)
   replace CD := Lib.hid (code_below CD.out bb)
   replace D := Lib.hid (D.out.trans (bb.mono D.out.size))
   clear bb
   have p_X_0 := (cell_of_row qw16 _ 0 _ _ _ X.out).trans (show _ = some (Value.slice g0 qs3.length f0) from rfl)
   have p_X_1 := (cell_of_row qw16 _ 1 _ _ _ X.out).trans (show _ = some (Value.slice g1 fs3.length f1) from rfl)
   have p_Y_0 := (cell_of_row qw16 _ 0 _ _ _ Y.out).trans (show _ = some (Value.slice h0 qs4.length k0) from rfl)
   have p_Y_1 := (cell_of_row qw16 _ 1 _ _ _ Y.out).trans (show _ = some (Value.slice h1 fs4.length k1) from rfl)
   refine hK.out _ _ ⟨p_X_0, p_X_1, p_Y_0, p_Y_1⟩ (fun hHeld => ?_)
   clear p_X_0 p_X_1 p_Y_0 p_Y_1
   clear hK K
   try simp only [Act.put, lA, lB, lC]
   refine tR (i := 34) (v := ?_) ?_ ?_; rotate_left
   ·
    intro w hSw; (try dsimp only at hSw); go_simp; try (with_reducible rfl)
   try simp only [Act.put, lA, lB, lC]
   refine tR (i := 35) (v := ?_) ?_ ?_; rotate_left
   ·
    intro w hSw; (try dsimp only at hSw); go_simp; try (with_reducible rfl)
   try simp only [Act.put, lA, lB, lC]
   refine tR (i := 36) (v := ?_) ?_ ?_; rotate_left
   ·
    intro w hSw; (try dsimp only at hSw); go_simp; try (with_reducible rfl)
   try simp only [Act.put, lA, lB, lC]
   refine wpAnyH_done (by kernel_rfl) ?_ _
   clear hHeld
   go_wp2
   go_ret
   exact ⟨rfl, D.out⟩
  ·
   have hm1 : ¬ ((M.length : Int) = 0) := by omega
   have HL1 : Hid (decide (workL qs3 fs3 rs3 M ≤ workL qs3 fs3 rs3 [2, 1, 0]) = true) := Lib.hid (decide_eq_true (HBW.out hm _ (by decide)))
   have HL2 : Hid (decide (workL qs3 fs3 rs3 M ≤ workL qs3 fs3 rs3 [0, 1, 2]) = true) := Lib.hid (decide_eq_true (HBW.out hm _ (by decide)))
   go_wp2
   have bb : Below qw13.heap.size qw13 (qw13.alloc (.cells #[.slice h0 qs4.length k0, .slice h1 fs4.length k1] 49)) := (Below.refl _ _).alloc (Nat.le_refl _) _
   replace X := Lib.hid ((bb.block (B3) (Array.getElem?_eq_some_iff.1 X.out).1).trans X.out)
   replace RQ := Lib.hid (slR_below tQuery_law RQ.out bb)
   replace RF := Lib.hid (slR_below tSpanS_law RF.out bb)
   replace RL := Lib.hid (slR_below tRow_law RL.out bb)
   replace RB := Lib.hid (slR_below tInt_law RB.out bb)
   replace SQ := Lib.hid (slR_below tQuery_law SQ.out bb)
   replace SF := Lib.hid (slR_below tSpanS_law SF.out bb)
   replace SL := Lib.hid (slR_below tRow_law SL.out bb)
   replace SO := Lib.hid (slR_below tInt_law SO.out bb)
   replace CD := Lib.hid (code_below CD.out bb)
   replace D := Lib.hid (D.out.trans (bb.mono D.out.size))
   clear bb
   have Y : Hid ((qw13.alloc (.cells #[.slice h0 qs4.length k0, .slice h1 fs4.length k1] 49)).heap[qw13.heap.size]? = some (.cells #[.slice h0 qs4.length k0, .slice h1 fs4.length k1] 49 (0, 0))) := Lib.hid (by have h := heap_alloc_new qw13 (.cells #[.slice h0 qs4.length k0, .slice h1 fs4.length k1] 49); simpa [World.size_alloc] using h)
   generalize (qw13.alloc (.cells #[.slice h0 qs4.length k0, .slice h1 fs4.length k1] 49)) = V4 at *
   generalize qw13.heap.size = B4 at *
   have p_X_0 := (cell_of_row V4 _ 0 _ _ _ X.out).trans (show _ = some (Value.slice g0 qs3.length f0) from rfl)
   have p_X_1 := (cell_of_row V4 _ 1 _ _ _ X.out).trans (show _ = some (Value.slice g1 fs3.length f1) from rfl)
   have p_Y_0 := (cell_of_row V4 _ 0 _ _ _ Y.out).trans (show _ = some (Value.slice h0 qs4.length k0) from rfl)
   have p_Y_1 := (cell_of_row V4 _ 1 _ _ _ Y.out).trans (show _ = some (Value.slice h1 fs4.length k1) from rfl)
   refine wp_region_held_drew (S := fun w' => w'.cell? ⟨B3, 0, none⟩ = some (Value.slice g0 qs3.length f0) ∧ w'.cell? ⟨B3, 1, none⟩ = some (Value.slice g1 fs3.length f1) ∧ w'.cell? ⟨B4, 0, none⟩ = some (Value.slice h0 qs4.length k0) ∧ w'.cell? ⟨B4, 1, none⟩ = some (Value.slice h1 fs4.length k1)) (by kernel_rfl) ⟨p_X_0, p_X_1, p_Y_0, p_Y_1⟩ (fun hHeld => ?_)
   clear p_X_0 p_X_1 p_Y_0 p_Y_1
   have cdr : Below V4.heap.size V4 V4.drew := below_drew (Below.refl _ _)
   replace X := Lib.hid ((cdr.block (B3) (Array.getElem?_eq_some_iff.1 X.out).1).trans X.out)
   replace Y := Lib.hid ((cdr.block (B4) (Array.getElem?_eq_some_iff.1 Y.out).1).trans Y.out)
   replace RQ := Lib.hid (slR_below tQuery_law RQ.out cdr)
   replace RF := Lib.hid (slR_below tSpanS_law RF.out cdr)
   replace RL := Lib.hid (slR_below tRow_law RL.out cdr)
   replace RB := Lib.hid (slR_below tInt_law RB.out cdr)
   replace SQ := Lib.hid (slR_below tQuery_law SQ.out cdr)
   replace SF := Lib.hid (slR_below tSpanS_law SF.out cdr)
   replace SL := Lib.hid (slR_below tRow_law SL.out cdr)
   replace SO := Lib.hid (slR_below tInt_law SO.out cdr)
   replace CD := Lib.hid (code_below CD.out cdr)
   replace D := Lib.hid (D.out.trans (cdr.mono D.out.size))
   clear cdr
   generalize V4.drew = qw14 at *
   refine tR (i := 0) (v := ?_) ?_ ?_; rotate_left
   ·
    intro w hSw; (try dsimp only at hSw); go_simp; try (with_reducible rfl)
   try simp only [Act.put, lA, lB, lC]
   refine tR (i := 1) (v := ?_) ?_ ?_; rotate_left
   ·
    intro w hSw; (try dsimp only at hSw); go_simp; try (with_reducible rfl)
   try simp only [Act.put, lA, lB, lC]
   refine tR (i := 2) (v := .bool false) ?_ ?_
   ·
    intro w hSw; (try dsimp only at hSw); go_simp; all_goals first | (with_reducible rfl) | (rw [hm1]; done) | (simpa using hm1) | (simp [hm1]; done) | (simp; omega)
   try simp only [Act.put, lA, lB, lC]
   refine tR (i := 3) (v := ?_) ?_ ?_; rotate_left
   ·
    intro w hSw; (try dsimp only at hSw); go_simp; try (with_reducible rfl)
   try simp only [Act.put, lA, lB, lC]
   refine tR (i := 4) (v := ?_) ?_ ?_; rotate_left
   ·
    intro w hSw; (try dsimp only at hSw); go_simp; try (with_reducible rfl)
   try simp only [Act.put, lA, lB, lC]
   refine tR (i := 5) (v := ?_) ?_ ?_; rotate_left
   ·
    intro w hSw; (try dsimp only at hSw); go_simp; try (with_reducible rfl)
   try simp only [Act.put, lA, lB, lC]
   refine tR (i := 6) (v := ?_) ?_ ?_; rotate_left
   ·
    intro w hSw; (try dsimp only at hSw); go_simp; try (with_reducible rfl)
   try simp only [Act.put, lA, lB, lC]
   refine tR (i := 8) (v := ?_) ?_ ?_; rotate_left
   ·
    intro w hSw; (try dsimp only at hSw); go_simp; try (with_reducible rfl)
   try simp only [Act.put, lA, lB, lC]
   refine tR (i := 9) (v := ?_) ?_ ?_; rotate_left
   ·
    intro w hSw; (try dsimp only at hSw); go_simp; try (with_reducible rfl)
   try simp only [Act.put, lA, lB, lC]
   refine wpAnyH_ready (rs := [7, 10]) (by kernel_rfl) (by simp) ?_
   refine (AllReadyH.cons (o := _) (by simp only [hA, hB, hC]; rfl) (fun K hK => ?_) (AllReadyH.cons (o := _) (by simp only [hA, hB, hC]; rfl) (fun K hK => ?_) AllReadyH.nil))
   ·
    go_simp
    refine (resWorkOf HT.out qs3 fs3 rs3 M _ _ _ _ _ D.out RQ.out RF.out RL.out RB.out (by have := HQZ.out; have := HFZ.out; have := HLZ.out; omega) HBL.out).mono ?_
    rintro e qw15 ⟨rfl, bb⟩
    replace X := Lib.hid ((bb.block (B3) (Array.getElem?_eq_some_iff.1 X.out).1).trans X.out)
    replace Y := Lib.hid ((bb.block (B4) (Array.getElem?_eq_some_iff.1 Y.out).1).trans Y.out)
    replace RQ := Lib.hid (slR_below tQuery_law RQ.out bb)
    replace RF := Lib.hid (slR_below tSpanS_law RF.out bb)
    replace RL := Lib.hid (slR_below tRow_law RL.out bb)
    replace RB := Lib.hid (slR_below tInt_law RB.out bb)
    replace SQ := Lib.hid (slR_below tQuery_law SQ.out bb)
    replace SF := Lib.hid (slR_below tSpanS_law SF.out bb)
    replace SL := Lib.hid (slR_below tRow_law SL.out bb)
    replace SO := Lib.hid (slR_below tInt_law SO.out bb)
    replace CD := Lib.hid (code_below CD.out bb)
    replace D := Lib.hid (D.out.trans (bb.mono D.out.size))
    clear bb
    have p_X_0 := (cell_of_row qw15 _ 0 _ _ _ X.out).trans (show _ = some (Value.slice g0 qs3.length f0) from rfl)
    have p_X_1 := (cell_of_row qw15 _ 1 _ _ _ X.out).trans (show _ = some (Value.slice g1 fs3.length f1) from rfl)
    have p_Y_0 := (cell_of_row qw15 _ 0 _ _ _ Y.out).trans (show _ = some (Value.slice h0 qs4.length k0) from rfl)
    have p_Y_1 := (cell_of_row qw15 _ 1 _ _ _ Y.out).trans (show _ = some (Value.slice h1 fs4.length k1) from rfl)
    refine hK.out _ _ ⟨p_X_0, p_X_1, p_Y_0, p_Y_1⟩ (fun hHeld => ?_)
    clear p_X_0 p_X_1 p_Y_0 p_Y_1
    clear hK K
    try simp only [Act.put, lA, lB, lC]
    refine wpAnyH_ready (rs := [10]) (by kernel_rfl) (by simp) ?_
    refine (AllReadyH.cons (o := _) (by simp only [hA, hB, hC]; rfl) (fun K hK => ?_) AllReadyH.nil)
    have RI0 := ownsN_lit qw15 qw15.heap.size (Nat.le_refl _) #[.int .i64 2, .int .i64 1, .int .i64 0] 3 [2, 1, 0] rfl rfl (by decide)
    go_simp
    have bb : Below qw15.heap.size qw15 (qw15.alloc (.cells #[.int .i64 2, .int .i64 1, .int .i64 0] 3)) := (Below.refl _ _).alloc (Nat.le_refl _) _
    replace X := Lib.hid ((bb.block (B3) (Array.getElem?_eq_some_iff.1 X.out).1).trans X.out)
    replace Y := Lib.hid ((bb.block (B4) (Array.getElem?_eq_some_iff.1 Y.out).1).trans Y.out)
    replace RQ := Lib.hid (slR_below tQuery_law RQ.out bb)
    replace RF := Lib.hid (slR_below tSpanS_law RF.out bb)
    replace RL := Lib.hid (slR_below tRow_law RL.out bb)
    replace RB := Lib.hid (slR_below tInt_law RB.out bb)
    replace SQ := Lib.hid (slR_below tQuery_law SQ.out bb)
    replace SF := Lib.hid (slR_below tSpanS_law SF.out bb)
    replace SL := Lib.hid (slR_below tRow_law SL.out bb)
    replace SO := Lib.hid (slR_below tInt_law SO.out bb)
    replace CD := Lib.hid (code_below CD.out bb)
    replace D := Lib.hid (D.out.trans (bb.mono D.out.size))
    clear bb
    have RI := Lib.hid (ints_slR (ownsN_ints RI0))
    clear RI0
    generalize (qw15.alloc (.cells #[.int .i64 2, .int .i64 1, .int .i64 0] 3)) = qw16 at *
    have p_X_0 := (cell_of_row qw16 _ 0 _ _ _ X.out).trans (show _ = some (Value.slice g0 qs3.length f0) from rfl)
    have p_X_1 := (cell_of_row qw16 _ 1 _ _ _ X.out).trans (show _ = some (Value.slice g1 fs3.length f1) from rfl)
    have p_Y_0 := (cell_of_row qw16 _ 0 _ _ _ Y.out).trans (show _ = some (Value.slice h0 qs4.length k0) from rfl)
    have p_Y_1 := (cell_of_row qw16 _ 1 _ _ _ Y.out).trans (show _ = some (Value.slice h1 fs4.length k1) from rfl)
    refine hK.out _ _ ⟨p_X_0, p_X_1, p_Y_0, p_Y_1⟩ (fun hHeld => ?_)
    clear p_X_0 p_X_1 p_Y_0 p_Y_1
    clear hK K
    try simp only [Act.put, lA, lB, lC]
    refine wpAnyH_ready (rs := [11]) (by kernel_rfl) (by simp) ?_
    refine (AllReadyH.cons (o := _) (by simp only [hA, hB, hC]; rfl) (fun K hK => ?_) AllReadyH.nil)
    go_simp
    refine (resWorkOf HT.out qs3 fs3 rs3 [2, 1, 0] _ _ _ _ _ D.out RQ.out RF.out RL.out RI.out (by have := HQZ.out; have := HFZ.out; have := HLZ.out; omega) (by decide)).mono ?_
    rintro e qw17 ⟨rfl, bb⟩
    replace X := Lib.hid ((bb.block (B3) (Array.getElem?_eq_some_iff.1 X.out).1).trans X.out)
    replace Y := Lib.hid ((bb.block (B4) (Array.getElem?_eq_some_iff.1 Y.out).1).trans Y.out)
    replace RQ := Lib.hid (slR_below tQuery_law RQ.out bb)
    replace RF := Lib.hid (slR_below tSpanS_law RF.out bb)
    replace RL := Lib.hid (slR_below tRow_law RL.out bb)
    replace RB := Lib.hid (slR_below tInt_law RB.out bb)
    replace SQ := Lib.hid (slR_below tQuery_law SQ.out bb)
    replace SF := Lib.hid (slR_below tSpanS_law SF.out bb)
    replace SL := Lib.hid (slR_below tRow_law SL.out bb)
    replace SO := Lib.hid (slR_below tInt_law SO.out bb)
    replace RI := Lib.hid (slR_below tInt_law RI.out bb)
    replace CD := Lib.hid (code_below CD.out bb)
    replace D := Lib.hid (D.out.trans (bb.mono D.out.size))
    clear bb
    have p_X_0 := (cell_of_row qw17 _ 0 _ _ _ X.out).trans (show _ = some (Value.slice g0 qs3.length f0) from rfl)
    have p_X_1 := (cell_of_row qw17 _ 1 _ _ _ X.out).trans (show _ = some (Value.slice g1 fs3.length f1) from rfl)
    have p_Y_0 := (cell_of_row qw17 _ 0 _ _ _ Y.out).trans (show _ = some (Value.slice h0 qs4.length k0) from rfl)
    have p_Y_1 := (cell_of_row qw17 _ 1 _ _ _ Y.out).trans (show _ = some (Value.slice h1 fs4.length k1) from rfl)
    refine hK.out _ _ ⟨p_X_0, p_X_1, p_Y_0, p_Y_1⟩ (fun hHeld => ?_)
    clear p_X_0 p_X_1 p_Y_0 p_Y_1
    clear hK K
    try simp only [Act.put, lA, lB, lC]
    refine tR (i := 12) (v := .bool true) ?_ ?_
    ·
     intro w hSw; (try dsimp only at hSw); go_simp; all_goals first | (with_reducible rfl) | (rw [HL1.out]; done) | (simpa using HL1.out) | (simp [HL1.out]; done) | (simp; omega)
    try simp only [Act.put, lA, lB, lC]
    refine tR (i := 13) (v := ?_) ?_ ?_; rotate_left
    ·
     intro w hSw; (try dsimp only at hSw); go_simp; try (with_reducible rfl)
    try simp only [Act.put, lA, lB, lC]
    refine tR (i := 14) (v := ?_) ?_ ?_; rotate_left
    ·
     intro w hSw; (try dsimp only at hSw); go_simp; try (with_reducible rfl)
    try simp only [Act.put, lA, lB, lC]
    refine tR (i := 15) (v := ?_) ?_ ?_; rotate_left
    ·
     intro w hSw; (try dsimp only at hSw); go_simp; try (with_reducible rfl)
    try simp only [Act.put, lA, lB, lC]
    refine tR (i := 16) (v := ?_) ?_ ?_; rotate_left
    ·
     intro w hSw; (try dsimp only at hSw); go_simp; try (with_reducible rfl)
    try simp only [Act.put, lA, lB, lC]
    refine tR (i := 18) (v := ?_) ?_ ?_; rotate_left
    ·
     intro w hSw; (try dsimp only at hSw); go_simp; try (with_reducible rfl)
    try simp only [Act.put, lA, lB, lC]
    refine tR (i := 19) (v := ?_) ?_ ?_; rotate_left
    ·
     intro w hSw; (try dsimp only at hSw); go_simp; try (with_reducible rfl)
    try simp only [Act.put, lA, lB, lC]
    refine wpAnyH_ready (rs := [17, 20]) (by kernel_rfl) (by simp) ?_
    refine (AllReadyH.cons (o := _) (by simp only [hA, hB, hC]; rfl) (fun K hK => ?_) (AllReadyH.cons (o := _) (by simp only [hA, hB, hC]; rfl) (fun K hK => ?_) AllReadyH.nil))
    ·
     go_simp
     refine (resWorkOf HT.out qs3 fs3 rs3 M _ _ _ _ _ D.out RQ.out RF.out RL.out RB.out (by have := HQZ.out; have := HFZ.out; have := HLZ.out; omega) HBL.out).mono ?_
     rintro e qw18 ⟨rfl, bb⟩
     replace X := Lib.hid ((bb.block (B3) (Array.getElem?_eq_some_iff.1 X.out).1).trans X.out)
     replace Y := Lib.hid ((bb.block (B4) (Array.getElem?_eq_some_iff.1 Y.out).1).trans Y.out)
     replace RQ := Lib.hid (slR_below tQuery_law RQ.out bb)
     replace RF := Lib.hid (slR_below tSpanS_law RF.out bb)
     replace RL := Lib.hid (slR_below tRow_law RL.out bb)
     replace RB := Lib.hid (slR_below tInt_law RB.out bb)
     replace SQ := Lib.hid (slR_below tQuery_law SQ.out bb)
     replace SF := Lib.hid (slR_below tSpanS_law SF.out bb)
     replace SL := Lib.hid (slR_below tRow_law SL.out bb)
     replace SO := Lib.hid (slR_below tInt_law SO.out bb)
     replace RI := Lib.hid (slR_below tInt_law RI.out bb)
     replace CD := Lib.hid (code_below CD.out bb)
     replace D := Lib.hid (D.out.trans (bb.mono D.out.size))
     clear bb
     have p_X_0 := (cell_of_row qw18 _ 0 _ _ _ X.out).trans (show _ = some (Value.slice g0 qs3.length f0) from rfl)
     have p_X_1 := (cell_of_row qw18 _ 1 _ _ _ X.out).trans (show _ = some (Value.slice g1 fs3.length f1) from rfl)
     have p_Y_0 := (cell_of_row qw18 _ 0 _ _ _ Y.out).trans (show _ = some (Value.slice h0 qs4.length k0) from rfl)
     have p_Y_1 := (cell_of_row qw18 _ 1 _ _ _ Y.out).trans (show _ = some (Value.slice h1 fs4.length k1) from rfl)
     refine hK.out _ _ ⟨p_X_0, p_X_1, p_Y_0, p_Y_1⟩ (fun hHeld => ?_)
     clear p_X_0 p_X_1 p_Y_0 p_Y_1
     clear hK K
     try simp only [Act.put, lA, lB, lC]
     refine wpAnyH_ready (rs := [20]) (by kernel_rfl) (by simp) ?_
     refine (AllReadyH.cons (o := _) (by simp only [hA, hB, hC]; rfl) (fun K hK => ?_) AllReadyH.nil)
     have RJ0 := ownsN_lit qw18 qw18.heap.size (Nat.le_refl _) #[.int .i64 0, .int .i64 1, .int .i64 2] 3 [0, 1, 2] rfl rfl (by decide)
     go_simp
     have bb : Below qw18.heap.size qw18 (qw18.alloc (.cells #[.int .i64 0, .int .i64 1, .int .i64 2] 3)) := (Below.refl _ _).alloc (Nat.le_refl _) _
     replace X := Lib.hid ((bb.block (B3) (Array.getElem?_eq_some_iff.1 X.out).1).trans X.out)
     replace Y := Lib.hid ((bb.block (B4) (Array.getElem?_eq_some_iff.1 Y.out).1).trans Y.out)
     replace RQ := Lib.hid (slR_below tQuery_law RQ.out bb)
     replace RF := Lib.hid (slR_below tSpanS_law RF.out bb)
     replace RL := Lib.hid (slR_below tRow_law RL.out bb)
     replace RB := Lib.hid (slR_below tInt_law RB.out bb)
     replace SQ := Lib.hid (slR_below tQuery_law SQ.out bb)
     replace SF := Lib.hid (slR_below tSpanS_law SF.out bb)
     replace SL := Lib.hid (slR_below tRow_law SL.out bb)
     replace SO := Lib.hid (slR_below tInt_law SO.out bb)
     replace RI := Lib.hid (slR_below tInt_law RI.out bb)
     replace CD := Lib.hid (code_below CD.out bb)
     replace D := Lib.hid (D.out.trans (bb.mono D.out.size))
     clear bb
     have RJ := Lib.hid (ints_slR (ownsN_ints RJ0))
     clear RJ0
     generalize (qw18.alloc (.cells #[.int .i64 0, .int .i64 1, .int .i64 2] 3)) = qw19 at *
     have p_X_0 := (cell_of_row qw19 _ 0 _ _ _ X.out).trans (show _ = some (Value.slice g0 qs3.length f0) from rfl)
     have p_X_1 := (cell_of_row qw19 _ 1 _ _ _ X.out).trans (show _ = some (Value.slice g1 fs3.length f1) from rfl)
     have p_Y_0 := (cell_of_row qw19 _ 0 _ _ _ Y.out).trans (show _ = some (Value.slice h0 qs4.length k0) from rfl)
     have p_Y_1 := (cell_of_row qw19 _ 1 _ _ _ Y.out).trans (show _ = some (Value.slice h1 fs4.length k1) from rfl)
     refine hK.out _ _ ⟨p_X_0, p_X_1, p_Y_0, p_Y_1⟩ (fun hHeld => ?_)
     clear p_X_0 p_X_1 p_Y_0 p_Y_1
     clear hK K
     try simp only [Act.put, lA, lB, lC]
     refine wpAnyH_ready (rs := [21]) (by kernel_rfl) (by simp) ?_
     refine (AllReadyH.cons (o := _) (by simp only [hA, hB, hC]; rfl) (fun K hK => ?_) AllReadyH.nil)
     go_simp
     refine (resWorkOf HT.out qs3 fs3 rs3 [0, 1, 2] _ _ _ _ _ D.out RQ.out RF.out RL.out RJ.out (by have := HQZ.out; have := HFZ.out; have := HLZ.out; omega) (by decide)).mono ?_
     rintro e qw20 ⟨rfl, bb⟩
     replace X := Lib.hid ((bb.block (B3) (Array.getElem?_eq_some_iff.1 X.out).1).trans X.out)
     replace Y := Lib.hid ((bb.block (B4) (Array.getElem?_eq_some_iff.1 Y.out).1).trans Y.out)
     replace RQ := Lib.hid (slR_below tQuery_law RQ.out bb)
     replace RF := Lib.hid (slR_below tSpanS_law RF.out bb)
     replace RL := Lib.hid (slR_below tRow_law RL.out bb)
     replace RB := Lib.hid (slR_below tInt_law RB.out bb)
     replace SQ := Lib.hid (slR_below tQuery_law SQ.out bb)
     replace SF := Lib.hid (slR_below tSpanS_law SF.out bb)
     replace SL := Lib.hid (slR_below tRow_law SL.out bb)
     replace SO := Lib.hid (slR_below tInt_law SO.out bb)
     replace RI := Lib.hid (slR_below tInt_law RI.out bb)
     replace RJ := Lib.hid (slR_below tInt_law RJ.out bb)
     replace CD := Lib.hid (code_below CD.out bb)
     replace D := Lib.hid (D.out.trans (bb.mono D.out.size))
     clear bb
     have p_X_0 := (cell_of_row qw20 _ 0 _ _ _ X.out).trans (show _ = some (Value.slice g0 qs3.length f0) from rfl)
     have p_X_1 := (cell_of_row qw20 _ 1 _ _ _ X.out).trans (show _ = some (Value.slice g1 fs3.length f1) from rfl)
     have p_Y_0 := (cell_of_row qw20 _ 0 _ _ _ Y.out).trans (show _ = some (Value.slice h0 qs4.length k0) from rfl)
     have p_Y_1 := (cell_of_row qw20 _ 1 _ _ _ Y.out).trans (show _ = some (Value.slice h1 fs4.length k1) from rfl)
     refine hK.out _ _ ⟨p_X_0, p_X_1, p_Y_0, p_Y_1⟩ (fun hHeld => ?_)
     clear p_X_0 p_X_1 p_Y_0 p_Y_1
     clear hK K
     try simp only [Act.put, lA, lB, lC]
     refine tR (i := 22) (v := .bool true) ?_ ?_
     ·
      intro w hSw; (try dsimp only at hSw); go_simp; all_goals first | (with_reducible rfl) | (rw [HL2.out]; done) | (simpa using HL2.out) | (simp [HL2.out]; done) | (simp; omega)
     try simp only [Act.put, lA, lB, lC]
     refine tR (i := 23) (v := ?_) ?_ ?_; rotate_left
     ·
      intro w hSw; (try dsimp only at hSw); go_simp; try (with_reducible rfl)
     try simp only [Act.put, lA, lB, lC]
     refine tR (i := 24) (v := ?_) ?_ ?_; rotate_left
     ·
      intro w hSw; (try dsimp only at hSw); go_simp; try (with_reducible rfl)
     try simp only [Act.put, lA, lB, lC]
     refine tR (i := 25) (v := ?_) ?_ ?_; rotate_left
     ·
      intro w hSw; (try dsimp only at hSw); go_simp; try (with_reducible rfl)
     try simp only [Act.put, lA, lB, lC]
     refine tR (i := 26) (v := ?_) ?_ ?_; rotate_left
     ·
      intro w hSw; (try dsimp only at hSw); go_simp; try (with_reducible rfl)
     try simp only [Act.put, lA, lB, lC]
     refine tR (i := 27) (v := ?_) ?_ ?_; rotate_left
     ·
      intro w hSw; (try dsimp only at hSw); go_simp; try (with_reducible rfl)
     try simp only [Act.put, lA, lB, lC]
     refine tR (i := 28) (v := ?_) ?_ ?_; rotate_left
     ·
      intro w hSw; (try dsimp only at hSw); go_simp; try (with_reducible rfl)
     try simp only [Act.put, lA, lB, lC]
     refine tR (i := 30) (v := ?_) ?_ ?_; rotate_left
     ·
      intro w hSw; (try dsimp only at hSw); go_simp; try (with_reducible rfl)
     try simp only [Act.put, lA, lB, lC]
     refine tR (i := 31) (v := ?_) ?_ ?_; rotate_left
     ·
      intro w hSw; (try dsimp only at hSw); go_simp; try (with_reducible rfl)
     try simp only [Act.put, lA, lB, lC]
     refine tR (i := 32) (v := ?_) ?_ ?_; rotate_left
     ·
      intro w hSw; (try dsimp only at hSw); go_simp; try (with_reducible rfl)
     try simp only [Act.put, lA, lB, lC]
     refine wpAnyH_ready (rs := [29]) (by kernel_rfl) (by simp) ?_
     refine (AllReadyH.cons (o := _) (by simp only [hA, hB, hC]; rfl) (fun K hK => ?_) AllReadyH.nil)
     go_simp
     refine (resWorkOf HT.out qs4 fs4 rs4 os4 _ _ _ _ _ D.out SQ.out SF.out SL.out SO.out (by have := KQZ.out; have := KFZ.out; have := KLZ.out; omega) (by have := KOL.out; omega)).mono ?_
     rintro e qw21 ⟨rfl, bb⟩
     replace X := Lib.hid ((bb.block (B3) (Array.getElem?_eq_some_iff.1 X.out).1).trans X.out)
     replace Y := Lib.hid ((bb.block (B4) (Array.getElem?_eq_some_iff.1 Y.out).1).trans Y.out)
     replace RQ := Lib.hid (slR_below tQuery_law RQ.out bb)
     replace RF := Lib.hid (slR_below tSpanS_law RF.out bb)
     replace RL := Lib.hid (slR_below tRow_law RL.out bb)
     replace RB := Lib.hid (slR_below tInt_law RB.out bb)
     replace SQ := Lib.hid (slR_below tQuery_law SQ.out bb)
     replace SF := Lib.hid (slR_below tSpanS_law SF.out bb)
     replace SL := Lib.hid (slR_below tRow_law SL.out bb)
     replace SO := Lib.hid (slR_below tInt_law SO.out bb)
     replace RI := Lib.hid (slR_below tInt_law RI.out bb)
     replace RJ := Lib.hid (slR_below tInt_law RJ.out bb)
     replace CD := Lib.hid (code_below CD.out bb)
     replace D := Lib.hid (D.out.trans (bb.mono D.out.size))
     clear bb
     have p_X_0 := (cell_of_row qw21 _ 0 _ _ _ X.out).trans (show _ = some (Value.slice g0 qs3.length f0) from rfl)
     have p_X_1 := (cell_of_row qw21 _ 1 _ _ _ X.out).trans (show _ = some (Value.slice g1 fs3.length f1) from rfl)
     have p_Y_0 := (cell_of_row qw21 _ 0 _ _ _ Y.out).trans (show _ = some (Value.slice h0 qs4.length k0) from rfl)
     have p_Y_1 := (cell_of_row qw21 _ 1 _ _ _ Y.out).trans (show _ = some (Value.slice h1 fs4.length k1) from rfl)
     refine hK.out _ _ ⟨p_X_0, p_X_1, p_Y_0, p_Y_1⟩ (fun hHeld => ?_)
     clear p_X_0 p_X_1 p_Y_0 p_Y_1
     clear hK K
     try simp only [Act.put, lA, lB, lC]
     refine wpAnyH_ready (rs := [33]) (by kernel_rfl) (by simp) ?_
     refine (AllReadyH.cons (o := _) (by simp only [hA, hB, hC]; rfl) (fun K hK => ?_) AllReadyH.nil)
     go_simp
     refine (fitWorkOf qs4 fs4 rs4 os4 _ _ _ _ _ SQ.out SF.out SL.out SO.out (by have := KQZ.out; have := KFZ.out; have := KLZ.out; omega) (by have := KOL.out; omega)).mono ?_
     rintro e qw22 ⟨rfl, bb⟩
     replace X := Lib.hid ((bb.block (B3) (Array.getElem?_eq_some_iff.1 X.out).1).trans X.out)
     replace Y := Lib.hid ((bb.block (B4) (Array.getElem?_eq_some_iff.1 Y.out).1).trans Y.out)
     replace RQ := Lib.hid (slR_below tQuery_law RQ.out bb)
     replace RF := Lib.hid (slR_below tSpanS_law RF.out bb)
     replace RL := Lib.hid (slR_below tRow_law RL.out bb)
     replace RB := Lib.hid (slR_below tInt_law RB.out bb)
     replace SQ := Lib.hid (slR_below tQuery_law SQ.out bb)
     replace SF := Lib.hid (slR_below tSpanS_law SF.out bb)
     replace SL := Lib.hid (slR_below tRow_law SL.out bb)
     replace SO := Lib.hid (slR_below tInt_law SO.out bb)
     replace RI := Lib.hid (slR_below tInt_law RI.out bb)
     replace RJ := Lib.hid (slR_below tInt_law RJ.out bb)
     replace CD := Lib.hid (code_below CD.out bb)
     replace D := Lib.hid (D.out.trans (bb.mono D.out.size))
     clear bb
     have p_X_0 := (cell_of_row qw22 _ 0 _ _ _ X.out).trans (show _ = some (Value.slice g0 qs3.length f0) from rfl)
     have p_X_1 := (cell_of_row qw22 _ 1 _ _ _ X.out).trans (show _ = some (Value.slice g1 fs3.length f1) from rfl)
     have p_Y_0 := (cell_of_row qw22 _ 0 _ _ _ Y.out).trans (show _ = some (Value.slice h0 qs4.length k0) from rfl)
     have p_Y_1 := (cell_of_row qw22 _ 1 _ _ _ Y.out).trans (show _ = some (Value.slice h1 fs4.length k1) from rfl)
     refine hK.out _ _ ⟨p_X_0, p_X_1, p_Y_0, p_Y_1⟩ (fun hHeld => ?_)
     clear p_X_0 p_X_1 p_Y_0 p_Y_1
     clear hK K
     try simp only [Act.put, lA, lB, lC]
     refine tR (i := 34) (v := ?_) ?_ ?_; rotate_left
     ·
      intro w hSw; (try dsimp only at hSw); go_simp; try (with_reducible rfl)
     try simp only [Act.put, lA, lB, lC]
     refine tR (i := 35) (v := ?_) ?_ ?_; rotate_left
     ·
      intro w hSw; (try dsimp only at hSw); go_simp; try (with_reducible rfl)
     try simp only [Act.put, lA, lB, lC]
     refine tR (i := 36) (v := ?_) ?_ ?_; rotate_left
     ·
      intro w hSw; (try dsimp only at hSw); go_simp; try (with_reducible rfl)
     try simp only [Act.put, lA, lB, lC]
     refine wpAnyH_done (by kernel_rfl) ?_ _
     clear hHeld
     go_wp2
     go_ret
     exact ⟨rfl, D.out⟩
    ·
     have RJ0 := ownsN_lit qw17 qw17.heap.size (Nat.le_refl _) #[.int .i64 0, .int .i64 1, .int .i64 2] 3 [0, 1, 2] rfl rfl (by decide)
     go_simp
     have bb : Below qw17.heap.size qw17 (qw17.alloc (.cells #[.int .i64 0, .int .i64 1, .int .i64 2] 3)) := (Below.refl _ _).alloc (Nat.le_refl _) _
     replace X := Lib.hid ((bb.block (B3) (Array.getElem?_eq_some_iff.1 X.out).1).trans X.out)
     replace Y := Lib.hid ((bb.block (B4) (Array.getElem?_eq_some_iff.1 Y.out).1).trans Y.out)
     replace RQ := Lib.hid (slR_below tQuery_law RQ.out bb)
     replace RF := Lib.hid (slR_below tSpanS_law RF.out bb)
     replace RL := Lib.hid (slR_below tRow_law RL.out bb)
     replace RB := Lib.hid (slR_below tInt_law RB.out bb)
     replace SQ := Lib.hid (slR_below tQuery_law SQ.out bb)
     replace SF := Lib.hid (slR_below tSpanS_law SF.out bb)
     replace SL := Lib.hid (slR_below tRow_law SL.out bb)
     replace SO := Lib.hid (slR_below tInt_law SO.out bb)
     replace RI := Lib.hid (slR_below tInt_law RI.out bb)
     replace CD := Lib.hid (code_below CD.out bb)
     replace D := Lib.hid (D.out.trans (bb.mono D.out.size))
     clear bb
     have RJ := Lib.hid (ints_slR (ownsN_ints RJ0))
     clear RJ0
     generalize (qw17.alloc (.cells #[.int .i64 0, .int .i64 1, .int .i64 2] 3)) = qw18 at *
     have p_X_0 := (cell_of_row qw18 _ 0 _ _ _ X.out).trans (show _ = some (Value.slice g0 qs3.length f0) from rfl)
     have p_X_1 := (cell_of_row qw18 _ 1 _ _ _ X.out).trans (show _ = some (Value.slice g1 fs3.length f1) from rfl)
     have p_Y_0 := (cell_of_row qw18 _ 0 _ _ _ Y.out).trans (show _ = some (Value.slice h0 qs4.length k0) from rfl)
     have p_Y_1 := (cell_of_row qw18 _ 1 _ _ _ Y.out).trans (show _ = some (Value.slice h1 fs4.length k1) from rfl)
     refine hK.out _ _ ⟨p_X_0, p_X_1, p_Y_0, p_Y_1⟩ (fun hHeld => ?_)
     clear p_X_0 p_X_1 p_Y_0 p_Y_1
     clear hK K
     try simp only [Act.put, lA, lB, lC]
     refine wpAnyH_ready (rs := [17]) (by kernel_rfl) (by simp) ?_
     refine (AllReadyH.cons (o := _) (by simp only [hA, hB, hC]; rfl) (fun K hK => ?_) AllReadyH.nil)
     go_simp
     refine (resWorkOf HT.out qs3 fs3 rs3 M _ _ _ _ _ D.out RQ.out RF.out RL.out RB.out (by have := HQZ.out; have := HFZ.out; have := HLZ.out; omega) HBL.out).mono ?_
     rintro e qw19 ⟨rfl, bb⟩
     replace X := Lib.hid ((bb.block (B3) (Array.getElem?_eq_some_iff.1 X.out).1).trans X.out)
     replace Y := Lib.hid ((bb.block (B4) (Array.getElem?_eq_some_iff.1 Y.out).1).trans Y.out)
     replace RQ := Lib.hid (slR_below tQuery_law RQ.out bb)
     replace RF := Lib.hid (slR_below tSpanS_law RF.out bb)
     replace RL := Lib.hid (slR_below tRow_law RL.out bb)
     replace RB := Lib.hid (slR_below tInt_law RB.out bb)
     replace SQ := Lib.hid (slR_below tQuery_law SQ.out bb)
     replace SF := Lib.hid (slR_below tSpanS_law SF.out bb)
     replace SL := Lib.hid (slR_below tRow_law SL.out bb)
     replace SO := Lib.hid (slR_below tInt_law SO.out bb)
     replace RI := Lib.hid (slR_below tInt_law RI.out bb)
     replace RJ := Lib.hid (slR_below tInt_law RJ.out bb)
     replace CD := Lib.hid (code_below CD.out bb)
     replace D := Lib.hid (D.out.trans (bb.mono D.out.size))
     clear bb
     have p_X_0 := (cell_of_row qw19 _ 0 _ _ _ X.out).trans (show _ = some (Value.slice g0 qs3.length f0) from rfl)
     have p_X_1 := (cell_of_row qw19 _ 1 _ _ _ X.out).trans (show _ = some (Value.slice g1 fs3.length f1) from rfl)
     have p_Y_0 := (cell_of_row qw19 _ 0 _ _ _ Y.out).trans (show _ = some (Value.slice h0 qs4.length k0) from rfl)
     have p_Y_1 := (cell_of_row qw19 _ 1 _ _ _ Y.out).trans (show _ = some (Value.slice h1 fs4.length k1) from rfl)
     refine hK.out _ _ ⟨p_X_0, p_X_1, p_Y_0, p_Y_1⟩ (fun hHeld => ?_)
     clear p_X_0 p_X_1 p_Y_0 p_Y_1
     clear hK K
     try simp only [Act.put, lA, lB, lC]
     refine wpAnyH_ready (rs := [21]) (by kernel_rfl) (by simp) ?_
     refine (AllReadyH.cons (o := _) (by simp only [hA, hB, hC]; rfl) (fun K hK => ?_) AllReadyH.nil)
     go_simp
     refine (resWorkOf HT.out qs3 fs3 rs3 [0, 1, 2] _ _ _ _ _ D.out RQ.out RF.out RL.out RJ.out (by have := HQZ.out; have := HFZ.out; have := HLZ.out; omega) (by decide)).mono ?_
     rintro e qw20 ⟨rfl, bb⟩
     replace X := Lib.hid ((bb.block (B3) (Array.getElem?_eq_some_iff.1 X.out).1).trans X.out)
     replace Y := Lib.hid ((bb.block (B4) (Array.getElem?_eq_some_iff.1 Y.out).1).trans Y.out)
     replace RQ := Lib.hid (slR_below tQuery_law RQ.out bb)
     replace RF := Lib.hid (slR_below tSpanS_law RF.out bb)
     replace RL := Lib.hid (slR_below tRow_law RL.out bb)
     replace RB := Lib.hid (slR_below tInt_law RB.out bb)
     replace SQ := Lib.hid (slR_below tQuery_law SQ.out bb)
     replace SF := Lib.hid (slR_below tSpanS_law SF.out bb)
     replace SL := Lib.hid (slR_below tRow_law SL.out bb)
     replace SO := Lib.hid (slR_below tInt_law SO.out bb)
     replace RI := Lib.hid (slR_below tInt_law RI.out bb)
     replace RJ := Lib.hid (slR_below tInt_law RJ.out bb)
     replace CD := Lib.hid (code_below CD.out bb)
     replace D := Lib.hid (D.out.trans (bb.mono D.out.size))
     clear bb
     have p_X_0 := (cell_of_row qw20 _ 0 _ _ _ X.out).trans (show _ = some (Value.slice g0 qs3.length f0) from rfl)
     have p_X_1 := (cell_of_row qw20 _ 1 _ _ _ X.out).trans (show _ = some (Value.slice g1 fs3.length f1) from rfl)
     have p_Y_0 := (cell_of_row qw20 _ 0 _ _ _ Y.out).trans (show _ = some (Value.slice h0 qs4.length k0) from rfl)
     have p_Y_1 := (cell_of_row qw20 _ 1 _ _ _ Y.out).trans (show _ = some (Value.slice h1 fs4.length k1) from rfl)
     refine hK.out _ _ ⟨p_X_0, p_X_1, p_Y_0, p_Y_1⟩ (fun hHeld => ?_)
     clear p_X_0 p_X_1 p_Y_0 p_Y_1
     clear hK K
     try simp only [Act.put, lA, lB, lC]
     refine tR (i := 22) (v := .bool true) ?_ ?_
     ·
      intro w hSw; (try dsimp only at hSw); go_simp; all_goals first | (with_reducible rfl) | (rw [HL2.out]; done) | (simpa using HL2.out) | (simp [HL2.out]; done) | (simp; omega)
     try simp only [Act.put, lA, lB, lC]
     refine tR (i := 23) (v := ?_) ?_ ?_; rotate_left
     ·
      intro w hSw; (try dsimp only at hSw); go_simp; try (with_reducible rfl)
     try simp only [Act.put, lA, lB, lC]
     refine tR (i := 24) (v := ?_) ?_ ?_; rotate_left
     ·
      intro w hSw; (try dsimp only at hSw); go_simp; try (with_reducible rfl)
     try simp only [Act.put, lA, lB, lC]
     refine tR (i := 25) (v := ?_) ?_ ?_; rotate_left
     ·
      intro w hSw; (try dsimp only at hSw); go_simp; try (with_reducible rfl)
     try simp only [Act.put, lA, lB, lC]
     refine tR (i := 26) (v := ?_) ?_ ?_; rotate_left
     ·
      intro w hSw; (try dsimp only at hSw); go_simp; try (with_reducible rfl)
     try simp only [Act.put, lA, lB, lC]
     refine tR (i := 27) (v := ?_) ?_ ?_; rotate_left
     ·
      intro w hSw; (try dsimp only at hSw); go_simp; try (with_reducible rfl)
     try simp only [Act.put, lA, lB, lC]
     refine tR (i := 28) (v := ?_) ?_ ?_; rotate_left
     ·
      intro w hSw; (try dsimp only at hSw); go_simp; try (with_reducible rfl)
     try simp only [Act.put, lA, lB, lC]
     refine tR (i := 30) (v := ?_) ?_ ?_; rotate_left
     ·
      intro w hSw; (try dsimp only at hSw); go_simp; try (with_reducible rfl)
     try simp only [Act.put, lA, lB, lC]
     refine tR (i := 31) (v := ?_) ?_ ?_; rotate_left
     ·
      intro w hSw; (try dsimp only at hSw); go_simp; try (with_reducible rfl)
     try simp only [Act.put, lA, lB, lC]
     refine tR (i := 32) (v := ?_) ?_ ?_; rotate_left
     ·
      intro w hSw; (try dsimp only at hSw); go_simp; try (with_reducible rfl)
     try simp only [Act.put, lA, lB, lC]
     refine wpAnyH_ready (rs := [29]) (by kernel_rfl) (by simp) ?_
     refine (AllReadyH.cons (o := _) (by simp only [hA, hB, hC]; rfl) (fun K hK => ?_) AllReadyH.nil)
     go_simp
     refine (resWorkOf HT.out qs4 fs4 rs4 os4 _ _ _ _ _ D.out SQ.out SF.out SL.out SO.out (by have := KQZ.out; have := KFZ.out; have := KLZ.out; omega) (by have := KOL.out; omega)).mono ?_
     rintro e qw21 ⟨rfl, bb⟩
     replace X := Lib.hid ((bb.block (B3) (Array.getElem?_eq_some_iff.1 X.out).1).trans X.out)
     replace Y := Lib.hid ((bb.block (B4) (Array.getElem?_eq_some_iff.1 Y.out).1).trans Y.out)
     replace RQ := Lib.hid (slR_below tQuery_law RQ.out bb)
     replace RF := Lib.hid (slR_below tSpanS_law RF.out bb)
     replace RL := Lib.hid (slR_below tRow_law RL.out bb)
     replace RB := Lib.hid (slR_below tInt_law RB.out bb)
     replace SQ := Lib.hid (slR_below tQuery_law SQ.out bb)
     replace SF := Lib.hid (slR_below tSpanS_law SF.out bb)
     replace SL := Lib.hid (slR_below tRow_law SL.out bb)
     replace SO := Lib.hid (slR_below tInt_law SO.out bb)
     replace RI := Lib.hid (slR_below tInt_law RI.out bb)
     replace RJ := Lib.hid (slR_below tInt_law RJ.out bb)
     replace CD := Lib.hid (code_below CD.out bb)
     replace D := Lib.hid (D.out.trans (bb.mono D.out.size))
     clear bb
     have p_X_0 := (cell_of_row qw21 _ 0 _ _ _ X.out).trans (show _ = some (Value.slice g0 qs3.length f0) from rfl)
     have p_X_1 := (cell_of_row qw21 _ 1 _ _ _ X.out).trans (show _ = some (Value.slice g1 fs3.length f1) from rfl)
     have p_Y_0 := (cell_of_row qw21 _ 0 _ _ _ Y.out).trans (show _ = some (Value.slice h0 qs4.length k0) from rfl)
     have p_Y_1 := (cell_of_row qw21 _ 1 _ _ _ Y.out).trans (show _ = some (Value.slice h1 fs4.length k1) from rfl)
     refine hK.out _ _ ⟨p_X_0, p_X_1, p_Y_0, p_Y_1⟩ (fun hHeld => ?_)
     clear p_X_0 p_X_1 p_Y_0 p_Y_1
     clear hK K
     try simp only [Act.put, lA, lB, lC]
     refine wpAnyH_ready (rs := [33]) (by kernel_rfl) (by simp) ?_
     refine (AllReadyH.cons (o := _) (by simp only [hA, hB, hC]; rfl) (fun K hK => ?_) AllReadyH.nil)
     go_simp
     refine (fitWorkOf qs4 fs4 rs4 os4 _ _ _ _ _ SQ.out SF.out SL.out SO.out (by have := KQZ.out; have := KFZ.out; have := KLZ.out; omega) (by have := KOL.out; omega)).mono ?_
     rintro e qw22 ⟨rfl, bb⟩
     replace X := Lib.hid ((bb.block (B3) (Array.getElem?_eq_some_iff.1 X.out).1).trans X.out)
     replace Y := Lib.hid ((bb.block (B4) (Array.getElem?_eq_some_iff.1 Y.out).1).trans Y.out)
     replace RQ := Lib.hid (slR_below tQuery_law RQ.out bb)
     replace RF := Lib.hid (slR_below tSpanS_law RF.out bb)
     replace RL := Lib.hid (slR_below tRow_law RL.out bb)
     replace RB := Lib.hid (slR_below tInt_law RB.out bb)
     replace SQ := Lib.hid (slR_below tQuery_law SQ.out bb)
     replace SF := Lib.hid (slR_below tSpanS_law SF.out bb)
     replace SL := Lib.hid (slR_below tRow_law SL.out bb)
     replace SO := Lib.hid (slR_below tInt_law SO.out bb)
     replace RI := Lib.hid (slR_below tInt_law RI.out bb)
     replace RJ := Lib.hid (slR_below tInt_law RJ.out bb)
     replace CD := Lib.hid (code_below CD.out bb)
     replace D := Lib.hid (D.out.trans (bb.mono D.out.size))
     clear bb
     have p_X_0 := (cell_of_row qw22 _ 0 _ _ _ X.out).trans (show _ = some (Value.slice g0 qs3.length f0) from rfl)
     have p_X_1 := (cell_of_row qw22 _ 1 _ _ _ X.out).trans (show _ = some (Value.slice g1 fs3.length f1) from rfl)
     have p_Y_0 := (cell_of_row qw22 _ 0 _ _ _ Y.out).trans (show _ = some (Value.slice h0 qs4.length k0) from rfl)
     have p_Y_1 := (cell_of_row qw22 _ 1 _ _ _ Y.out).trans (show _ = some (Value.slice h1 fs4.length k1) from rfl)
     refine hK.out _ _ ⟨p_X_0, p_X_1, p_Y_0, p_Y_1⟩ (fun hHeld => ?_)
     clear p_X_0 p_X_1 p_Y_0 p_Y_1
     clear hK K
     try simp only [Act.put, lA, lB, lC]
     refine tR (i := 34) (v := ?_) ?_ ?_; rotate_left
     ·
      intro w hSw; (try dsimp only at hSw); go_simp; try (with_reducible rfl)
     try simp only [Act.put, lA, lB, lC]
     refine tR (i := 35) (v := ?_) ?_ ?_; rotate_left
     ·
      intro w hSw; (try dsimp only at hSw); go_simp; try (with_reducible rfl)
     try simp only [Act.put, lA, lB, lC]
     refine tR (i := 36) (v := ?_) ?_ ?_; rotate_left
     ·
      intro w hSw; (try dsimp only at hSw); go_simp; try (with_reducible rfl)
     try simp only [Act.put, lA, lB, lC]
     refine wpAnyH_done (by kernel_rfl) ?_ _
     clear hHeld
     go_wp2
     go_ret
     exact ⟨rfl, D.out⟩
   ·
    have RI0 := ownsN_lit qw14 qw14.heap.size (Nat.le_refl _) #[.int .i64 2, .int .i64 1, .int .i64 0] 3 [2, 1, 0] rfl rfl (by decide)
    go_simp
    have bb : Below qw14.heap.size qw14 (qw14.alloc (.cells #[.int .i64 2, .int .i64 1, .int .i64 0] 3)) := (Below.refl _ _).alloc (Nat.le_refl _) _
    replace X := Lib.hid ((bb.block (B3) (Array.getElem?_eq_some_iff.1 X.out).1).trans X.out)
    replace Y := Lib.hid ((bb.block (B4) (Array.getElem?_eq_some_iff.1 Y.out).1).trans Y.out)
    replace RQ := Lib.hid (slR_below tQuery_law RQ.out bb)
    replace RF := Lib.hid (slR_below tSpanS_law RF.out bb)
    replace RL := Lib.hid (slR_below tRow_law RL.out bb)
    replace RB := Lib.hid (slR_below tInt_law RB.out bb)
    replace SQ := Lib.hid (slR_below tQuery_law SQ.out bb)
    replace SF := Lib.hid (slR_below tSpanS_law SF.out bb)
    replace SL := Lib.hid (slR_below tRow_law SL.out bb)
    replace SO := Lib.hid (slR_below tInt_law SO.out bb)
    replace CD := Lib.hid (code_below CD.out bb)
    replace D := Lib.hid (D.out.trans (bb.mono D.out.size))
    clear bb
    have RI := Lib.hid (ints_slR (ownsN_ints RI0))
    clear RI0
    generalize (qw14.alloc (.cells #[.int .i64 2, .int .i64 1, .int .i64 0] 3)) = qw15 at *
    have p_X_0 := (cell_of_row qw15 _ 0 _ _ _ X.out).trans (show _ = some (Value.slice g0 qs3.length f0) from rfl)
    have p_X_1 := (cell_of_row qw15 _ 1 _ _ _ X.out).trans (show _ = some (Value.slice g1 fs3.length f1) from rfl)
    have p_Y_0 := (cell_of_row qw15 _ 0 _ _ _ Y.out).trans (show _ = some (Value.slice h0 qs4.length k0) from rfl)
    have p_Y_1 := (cell_of_row qw15 _ 1 _ _ _ Y.out).trans (show _ = some (Value.slice h1 fs4.length k1) from rfl)
    refine hK.out _ _ ⟨p_X_0, p_X_1, p_Y_0, p_Y_1⟩ (fun hHeld => ?_)
    clear p_X_0 p_X_1 p_Y_0 p_Y_1
    clear hK K
    try simp only [Act.put, lA, lB, lC]
    refine wpAnyH_ready (rs := [7]) (by kernel_rfl) (by simp) ?_
    refine (AllReadyH.cons (o := _) (by simp only [hA, hB, hC]; rfl) (fun K hK => ?_) AllReadyH.nil)
    go_simp
    refine (resWorkOf HT.out qs3 fs3 rs3 M _ _ _ _ _ D.out RQ.out RF.out RL.out RB.out (by have := HQZ.out; have := HFZ.out; have := HLZ.out; omega) HBL.out).mono ?_
    rintro e qw16 ⟨rfl, bb⟩
    replace X := Lib.hid ((bb.block (B3) (Array.getElem?_eq_some_iff.1 X.out).1).trans X.out)
    replace Y := Lib.hid ((bb.block (B4) (Array.getElem?_eq_some_iff.1 Y.out).1).trans Y.out)
    replace RQ := Lib.hid (slR_below tQuery_law RQ.out bb)
    replace RF := Lib.hid (slR_below tSpanS_law RF.out bb)
    replace RL := Lib.hid (slR_below tRow_law RL.out bb)
    replace RB := Lib.hid (slR_below tInt_law RB.out bb)
    replace SQ := Lib.hid (slR_below tQuery_law SQ.out bb)
    replace SF := Lib.hid (slR_below tSpanS_law SF.out bb)
    replace SL := Lib.hid (slR_below tRow_law SL.out bb)
    replace SO := Lib.hid (slR_below tInt_law SO.out bb)
    replace RI := Lib.hid (slR_below tInt_law RI.out bb)
    replace CD := Lib.hid (code_below CD.out bb)
    replace D := Lib.hid (D.out.trans (bb.mono D.out.size))
    clear bb
    have p_X_0 := (cell_of_row qw16 _ 0 _ _ _ X.out).trans (show _ = some (Value.slice g0 qs3.length f0) from rfl)
    have p_X_1 := (cell_of_row qw16 _ 1 _ _ _ X.out).trans (show _ = some (Value.slice g1 fs3.length f1) from rfl)
    have p_Y_0 := (cell_of_row qw16 _ 0 _ _ _ Y.out).trans (show _ = some (Value.slice h0 qs4.length k0) from rfl)
    have p_Y_1 := (cell_of_row qw16 _ 1 _ _ _ Y.out).trans (show _ = some (Value.slice h1 fs4.length k1) from rfl)
    refine hK.out _ _ ⟨p_X_0, p_X_1, p_Y_0, p_Y_1⟩ (fun hHeld => ?_)
    clear p_X_0 p_X_1 p_Y_0 p_Y_1
    clear hK K
    try simp only [Act.put, lA, lB, lC]
    refine wpAnyH_ready (rs := [11]) (by kernel_rfl) (by simp) ?_
    refine (AllReadyH.cons (o := _) (by simp only [hA, hB, hC]; rfl) (fun K hK => ?_) AllReadyH.nil)
    go_simp
    refine (resWorkOf HT.out qs3 fs3 rs3 [2, 1, 0] _ _ _ _ _ D.out RQ.out RF.out RL.out RI.out (by have := HQZ.out; have := HFZ.out; have := HLZ.out; omega) (by decide)).mono ?_
    rintro e qw17 ⟨rfl, bb⟩
    replace X := Lib.hid ((bb.block (B3) (Array.getElem?_eq_some_iff.1 X.out).1).trans X.out)
    replace Y := Lib.hid ((bb.block (B4) (Array.getElem?_eq_some_iff.1 Y.out).1).trans Y.out)
    replace RQ := Lib.hid (slR_below tQuery_law RQ.out bb)
    replace RF := Lib.hid (slR_below tSpanS_law RF.out bb)
    replace RL := Lib.hid (slR_below tRow_law RL.out bb)
    replace RB := Lib.hid (slR_below tInt_law RB.out bb)
    replace SQ := Lib.hid (slR_below tQuery_law SQ.out bb)
    replace SF := Lib.hid (slR_below tSpanS_law SF.out bb)
    replace SL := Lib.hid (slR_below tRow_law SL.out bb)
    replace SO := Lib.hid (slR_below tInt_law SO.out bb)
    replace RI := Lib.hid (slR_below tInt_law RI.out bb)
    replace CD := Lib.hid (code_below CD.out bb)
    replace D := Lib.hid (D.out.trans (bb.mono D.out.size))
    clear bb
    have p_X_0 := (cell_of_row qw17 _ 0 _ _ _ X.out).trans (show _ = some (Value.slice g0 qs3.length f0) from rfl)
    have p_X_1 := (cell_of_row qw17 _ 1 _ _ _ X.out).trans (show _ = some (Value.slice g1 fs3.length f1) from rfl)
    have p_Y_0 := (cell_of_row qw17 _ 0 _ _ _ Y.out).trans (show _ = some (Value.slice h0 qs4.length k0) from rfl)
    have p_Y_1 := (cell_of_row qw17 _ 1 _ _ _ Y.out).trans (show _ = some (Value.slice h1 fs4.length k1) from rfl)
    refine hK.out _ _ ⟨p_X_0, p_X_1, p_Y_0, p_Y_1⟩ (fun hHeld => ?_)
    clear p_X_0 p_X_1 p_Y_0 p_Y_1
    clear hK K
    try simp only [Act.put, lA, lB, lC]
    refine tR (i := 12) (v := .bool true) ?_ ?_
    ·
     intro w hSw; (try dsimp only at hSw); go_simp; all_goals first | (with_reducible rfl) | (rw [HL1.out]; done) | (simpa using HL1.out) | (simp [HL1.out]; done) | (simp; omega)
    try simp only [Act.put, lA, lB, lC]
    refine tR (i := 13) (v := ?_) ?_ ?_; rotate_left
    ·
     intro w hSw; (try dsimp only at hSw); go_simp; try (with_reducible rfl)
    try simp only [Act.put, lA, lB, lC]
    refine tR (i := 14) (v := ?_) ?_ ?_; rotate_left
    ·
     intro w hSw; (try dsimp only at hSw); go_simp; try (with_reducible rfl)
    try simp only [Act.put, lA, lB, lC]
    refine tR (i := 15) (v := ?_) ?_ ?_; rotate_left
    ·
     intro w hSw; (try dsimp only at hSw); go_simp; try (with_reducible rfl)
    try simp only [Act.put, lA, lB, lC]
    refine tR (i := 16) (v := ?_) ?_ ?_; rotate_left
    ·
     intro w hSw; (try dsimp only at hSw); go_simp; try (with_reducible rfl)
    try simp only [Act.put, lA, lB, lC]
    refine tR (i := 18) (v := ?_) ?_ ?_; rotate_left
    ·
     intro w hSw; (try dsimp only at hSw); go_simp; try (with_reducible rfl)
    try simp only [Act.put, lA, lB, lC]
    refine tR (i := 19) (v := ?_) ?_ ?_; rotate_left
    ·
     intro w hSw; (try dsimp only at hSw); go_simp; try (with_reducible rfl)
    try simp only [Act.put, lA, lB, lC]
    refine wpAnyH_ready (rs := [17, 20]) (by kernel_rfl) (by simp) ?_
    refine (AllReadyH.cons (o := _) (by simp only [hA, hB, hC]; rfl) (fun K hK => ?_) (AllReadyH.cons (o := _) (by simp only [hA, hB, hC]; rfl) (fun K hK => ?_) AllReadyH.nil))
    ·
     go_simp
     refine (resWorkOf HT.out qs3 fs3 rs3 M _ _ _ _ _ D.out RQ.out RF.out RL.out RB.out (by have := HQZ.out; have := HFZ.out; have := HLZ.out; omega) HBL.out).mono ?_
     rintro e qw18 ⟨rfl, bb⟩
     replace X := Lib.hid ((bb.block (B3) (Array.getElem?_eq_some_iff.1 X.out).1).trans X.out)
     replace Y := Lib.hid ((bb.block (B4) (Array.getElem?_eq_some_iff.1 Y.out).1).trans Y.out)
     replace RQ := Lib.hid (slR_below tQuery_law RQ.out bb)
     replace RF := Lib.hid (slR_below tSpanS_law RF.out bb)
     replace RL := Lib.hid (slR_below tRow_law RL.out bb)
     replace RB := Lib.hid (slR_below tInt_law RB.out bb)
     replace SQ := Lib.hid (slR_below tQuery_law SQ.out bb)
     replace SF := Lib.hid (slR_below tSpanS_law SF.out bb)
     replace SL := Lib.hid (slR_below tRow_law SL.out bb)
     replace SO := Lib.hid (slR_below tInt_law SO.out bb)
     replace RI := Lib.hid (slR_below tInt_law RI.out bb)
     replace CD := Lib.hid (code_below CD.out bb)
     replace D := Lib.hid (D.out.trans (bb.mono D.out.size))
     clear bb
     have p_X_0 := (cell_of_row qw18 _ 0 _ _ _ X.out).trans (show _ = some (Value.slice g0 qs3.length f0) from rfl)
     have p_X_1 := (cell_of_row qw18 _ 1 _ _ _ X.out).trans (show _ = some (Value.slice g1 fs3.length f1) from rfl)
     have p_Y_0 := (cell_of_row qw18 _ 0 _ _ _ Y.out).trans (show _ = some (Value.slice h0 qs4.length k0) from rfl)
     have p_Y_1 := (cell_of_row qw18 _ 1 _ _ _ Y.out).trans (show _ = some (Value.slice h1 fs4.length k1) from rfl)
     refine hK.out _ _ ⟨p_X_0, p_X_1, p_Y_0, p_Y_1⟩ (fun hHeld => ?_)
     clear p_X_0 p_X_1 p_Y_0 p_Y_1
     clear hK K
     try simp only [Act.put, lA, lB, lC]
     refine wpAnyH_ready (rs := [20]) (by kernel_rfl) (by simp) ?_
     refine (AllReadyH.cons (o := _) (by simp only [hA, hB, hC]; rfl) (fun K hK => ?_) AllReadyH.nil)
     have RJ0 := ownsN_lit qw18 qw18.heap.size (Nat.le_refl _) #[.int .i64 0, .int .i64 1, .int .i64 2] 3 [0, 1, 2] rfl rfl (by decide)
     go_simp
     have bb : Below qw18.heap.size qw18 (qw18.alloc (.cells #[.int .i64 0, .int .i64 1, .int .i64 2] 3)) := (Below.refl _ _).alloc (Nat.le_refl _) _
     replace X := Lib.hid ((bb.block (B3) (Array.getElem?_eq_some_iff.1 X.out).1).trans X.out)
     replace Y := Lib.hid ((bb.block (B4) (Array.getElem?_eq_some_iff.1 Y.out).1).trans Y.out)
     replace RQ := Lib.hid (slR_below tQuery_law RQ.out bb)
     replace RF := Lib.hid (slR_below tSpanS_law RF.out bb)
     replace RL := Lib.hid (slR_below tRow_law RL.out bb)
     replace RB := Lib.hid (slR_below tInt_law RB.out bb)
     replace SQ := Lib.hid (slR_below tQuery_law SQ.out bb)
     replace SF := Lib.hid (slR_below tSpanS_law SF.out bb)
     replace SL := Lib.hid (slR_below tRow_law SL.out bb)
     replace SO := Lib.hid (slR_below tInt_law SO.out bb)
     replace RI := Lib.hid (slR_below tInt_law RI.out bb)
     replace CD := Lib.hid (code_below CD.out bb)
     replace D := Lib.hid (D.out.trans (bb.mono D.out.size))
     clear bb
     have RJ := Lib.hid (ints_slR (ownsN_ints RJ0))
     clear RJ0
     generalize (qw18.alloc (.cells #[.int .i64 0, .int .i64 1, .int .i64 2] 3)) = qw19 at *
     have p_X_0 := (cell_of_row qw19 _ 0 _ _ _ X.out).trans (show _ = some (Value.slice g0 qs3.length f0) from rfl)
     have p_X_1 := (cell_of_row qw19 _ 1 _ _ _ X.out).trans (show _ = some (Value.slice g1 fs3.length f1) from rfl)
     have p_Y_0 := (cell_of_row qw19 _ 0 _ _ _ Y.out).trans (show _ = some (Value.slice h0 qs4.length k0) from rfl)
     have p_Y_1 := (cell_of_row qw19 _ 1 _ _ _ Y.out).trans (show _ = some (Value.slice h1 fs4.length k1) from rfl)
     refine hK.out _ _ ⟨p_X_0, p_X_1, p_Y_0, p_Y_1⟩ (fun hHeld => ?_)
     clear p_X_0 p_X_1 p_Y_0 p_Y_1
     clear hK K
     try simp only [Act.put, lA, lB, lC]
     refine wpAnyH_ready (rs := [21]) (by kernel_rfl) (by simp) ?_
     refine (AllReadyH.cons (o := _) (by simp only [hA, hB, hC]; rfl) (fun K hK => ?_) AllReadyH.nil)
     go_simp
     refine (resWorkOf HT.out qs3 fs3 rs3 [0, 1, 2] _ _ _ _ _ D.out RQ.out RF.out RL.out RJ.out (by have := HQZ.out; have := HFZ.out; have := HLZ.out; omega) (by decide)).mono ?_
     rintro e qw20 ⟨rfl, bb⟩
     replace X := Lib.hid ((bb.block (B3) (Array.getElem?_eq_some_iff.1 X.out).1).trans X.out)
     replace Y := Lib.hid ((bb.block (B4) (Array.getElem?_eq_some_iff.1 Y.out).1).trans Y.out)
     replace RQ := Lib.hid (slR_below tQuery_law RQ.out bb)
     replace RF := Lib.hid (slR_below tSpanS_law RF.out bb)
     replace RL := Lib.hid (slR_below tRow_law RL.out bb)
     replace RB := Lib.hid (slR_below tInt_law RB.out bb)
     replace SQ := Lib.hid (slR_below tQuery_law SQ.out bb)
     replace SF := Lib.hid (slR_below tSpanS_law SF.out bb)
     replace SL := Lib.hid (slR_below tRow_law SL.out bb)
     replace SO := Lib.hid (slR_below tInt_law SO.out bb)
     replace RI := Lib.hid (slR_below tInt_law RI.out bb)
     replace RJ := Lib.hid (slR_below tInt_law RJ.out bb)
     replace CD := Lib.hid (code_below CD.out bb)
     replace D := Lib.hid (D.out.trans (bb.mono D.out.size))
     clear bb
     have p_X_0 := (cell_of_row qw20 _ 0 _ _ _ X.out).trans (show _ = some (Value.slice g0 qs3.length f0) from rfl)
     have p_X_1 := (cell_of_row qw20 _ 1 _ _ _ X.out).trans (show _ = some (Value.slice g1 fs3.length f1) from rfl)
     have p_Y_0 := (cell_of_row qw20 _ 0 _ _ _ Y.out).trans (show _ = some (Value.slice h0 qs4.length k0) from rfl)
     have p_Y_1 := (cell_of_row qw20 _ 1 _ _ _ Y.out).trans (show _ = some (Value.slice h1 fs4.length k1) from rfl)
     refine hK.out _ _ ⟨p_X_0, p_X_1, p_Y_0, p_Y_1⟩ (fun hHeld => ?_)
     clear p_X_0 p_X_1 p_Y_0 p_Y_1
     clear hK K
     try simp only [Act.put, lA, lB, lC]
     refine tR (i := 22) (v := .bool true) ?_ ?_
     ·
      intro w hSw; (try dsimp only at hSw); go_simp; all_goals first | (with_reducible rfl) | (rw [HL2.out]; done) | (simpa using HL2.out) | (simp [HL2.out]; done) | (simp; omega)
     try simp only [Act.put, lA, lB, lC]
     refine tR (i := 23) (v := ?_) ?_ ?_; rotate_left
     ·
      intro w hSw; (try dsimp only at hSw); go_simp; try (with_reducible rfl)
     try simp only [Act.put, lA, lB, lC]
     refine tR (i := 24) (v := ?_) ?_ ?_; rotate_left
     ·
      intro w hSw; (try dsimp only at hSw); go_simp; try (with_reducible rfl)
     try simp only [Act.put, lA, lB, lC]
     refine tR (i := 25) (v := ?_) ?_ ?_; rotate_left
     ·
      intro w hSw; (try dsimp only at hSw); go_simp; try (with_reducible rfl)
     try simp only [Act.put, lA, lB, lC]
     refine tR (i := 26) (v := ?_) ?_ ?_; rotate_left
     ·
      intro w hSw; (try dsimp only at hSw); go_simp; try (with_reducible rfl)
     try simp only [Act.put, lA, lB, lC]
     refine tR (i := 27) (v := ?_) ?_ ?_; rotate_left
     ·
      intro w hSw; (try dsimp only at hSw); go_simp; try (with_reducible rfl)
     try simp only [Act.put, lA, lB, lC]
     refine tR (i := 28) (v := ?_) ?_ ?_; rotate_left
     ·
      intro w hSw; (try dsimp only at hSw); go_simp; try (with_reducible rfl)
     try simp only [Act.put, lA, lB, lC]
     refine tR (i := 30) (v := ?_) ?_ ?_; rotate_left
     ·
      intro w hSw; (try dsimp only at hSw); go_simp; try (with_reducible rfl)
     try simp only [Act.put, lA, lB, lC]
     refine tR (i := 31) (v := ?_) ?_ ?_; rotate_left
     ·
      intro w hSw; (try dsimp only at hSw); go_simp; try (with_reducible rfl)
     try simp only [Act.put, lA, lB, lC]
     refine tR (i := 32) (v := ?_) ?_ ?_; rotate_left
     ·
      intro w hSw; (try dsimp only at hSw); go_simp; try (with_reducible rfl)
     try simp only [Act.put, lA, lB, lC]
     refine wpAnyH_ready (rs := [29]) (by kernel_rfl) (by simp) ?_
     refine (AllReadyH.cons (o := _) (by simp only [hA, hB, hC]; rfl) (fun K hK => ?_) AllReadyH.nil)
     go_simp
     refine (resWorkOf HT.out qs4 fs4 rs4 os4 _ _ _ _ _ D.out SQ.out SF.out SL.out SO.out (by have := KQZ.out; have := KFZ.out; have := KLZ.out; omega) (by have := KOL.out; omega)).mono ?_
     rintro e qw21 ⟨rfl, bb⟩
     replace X := Lib.hid ((bb.block (B3) (Array.getElem?_eq_some_iff.1 X.out).1).trans X.out)
     replace Y := Lib.hid ((bb.block (B4) (Array.getElem?_eq_some_iff.1 Y.out).1).trans Y.out)
     replace RQ := Lib.hid (slR_below tQuery_law RQ.out bb)
     replace RF := Lib.hid (slR_below tSpanS_law RF.out bb)
     replace RL := Lib.hid (slR_below tRow_law RL.out bb)
     replace RB := Lib.hid (slR_below tInt_law RB.out bb)
     replace SQ := Lib.hid (slR_below tQuery_law SQ.out bb)
     replace SF := Lib.hid (slR_below tSpanS_law SF.out bb)
     replace SL := Lib.hid (slR_below tRow_law SL.out bb)
     replace SO := Lib.hid (slR_below tInt_law SO.out bb)
     replace RI := Lib.hid (slR_below tInt_law RI.out bb)
     replace RJ := Lib.hid (slR_below tInt_law RJ.out bb)
     replace CD := Lib.hid (code_below CD.out bb)
     replace D := Lib.hid (D.out.trans (bb.mono D.out.size))
     clear bb
     have p_X_0 := (cell_of_row qw21 _ 0 _ _ _ X.out).trans (show _ = some (Value.slice g0 qs3.length f0) from rfl)
     have p_X_1 := (cell_of_row qw21 _ 1 _ _ _ X.out).trans (show _ = some (Value.slice g1 fs3.length f1) from rfl)
     have p_Y_0 := (cell_of_row qw21 _ 0 _ _ _ Y.out).trans (show _ = some (Value.slice h0 qs4.length k0) from rfl)
     have p_Y_1 := (cell_of_row qw21 _ 1 _ _ _ Y.out).trans (show _ = some (Value.slice h1 fs4.length k1) from rfl)
     refine hK.out _ _ ⟨p_X_0, p_X_1, p_Y_0, p_Y_1⟩ (fun hHeld => ?_)
     clear p_X_0 p_X_1 p_Y_0 p_Y_1
     clear hK K
     try simp only [Act.put, lA, lB, lC]
     refine wpAnyH_ready (rs := [33]) (by kernel_rfl) (by simp) ?_
     refine (AllReadyH.cons (o := _) (by simp only [hA, hB, hC]; rfl) (fun K hK => ?_) AllReadyH.nil)
     go_simp
     refine (fitWorkOf qs4 fs4 rs4 os4 _ _ _ _ _ SQ.out SF.out SL.out SO.out (by have := KQZ.out; have := KFZ.out; have := KLZ.out; omega) (by have := KOL.out; omega)).mono ?_
     rintro e qw22 ⟨rfl, bb⟩
     replace X := Lib.hid ((bb.block (B3) (Array.getElem?_eq_some_iff.1 X.out).1).trans X.out)
     replace Y := Lib.hid ((bb.block (B4) (Array.getElem?_eq_some_iff.1 Y.out).1).trans Y.out)
     replace RQ := Lib.hid (slR_below tQuery_law RQ.out bb)
     replace RF := Lib.hid (slR_below tSpanS_law RF.out bb)
     replace RL := Lib.hid (slR_below tRow_law RL.out bb)
     replace RB := Lib.hid (slR_below tInt_law RB.out bb)
     replace SQ := Lib.hid (slR_below tQuery_law SQ.out bb)
     replace SF := Lib.hid (slR_below tSpanS_law SF.out bb)
     replace SL := Lib.hid (slR_below tRow_law SL.out bb)
     replace SO := Lib.hid (slR_below tInt_law SO.out bb)
     replace RI := Lib.hid (slR_below tInt_law RI.out bb)
     replace RJ := Lib.hid (slR_below tInt_law RJ.out bb)
     replace CD := Lib.hid (code_below CD.out bb)
     replace D := Lib.hid (D.out.trans (bb.mono D.out.size))
     clear bb
     have p_X_0 := (cell_of_row qw22 _ 0 _ _ _ X.out).trans (show _ = some (Value.slice g0 qs3.length f0) from rfl)
     have p_X_1 := (cell_of_row qw22 _ 1 _ _ _ X.out).trans (show _ = some (Value.slice g1 fs3.length f1) from rfl)
     have p_Y_0 := (cell_of_row qw22 _ 0 _ _ _ Y.out).trans (show _ = some (Value.slice h0 qs4.length k0) from rfl)
     have p_Y_1 := (cell_of_row qw22 _ 1 _ _ _ Y.out).trans (show _ = some (Value.slice h1 fs4.length k1) from rfl)
     refine hK.out _ _ ⟨p_X_0, p_X_1, p_Y_0, p_Y_1⟩ (fun hHeld => ?_)
     clear p_X_0 p_X_1 p_Y_0 p_Y_1
     clear hK K
     try simp only [Act.put, lA, lB, lC]
     refine tR (i := 34) (v := ?_) ?_ ?_; rotate_left
     ·
      intro w hSw; (try dsimp only at hSw); go_simp; try (with_reducible rfl)
     try simp only [Act.put, lA, lB, lC]
     refine tR (i := 35) (v := ?_) ?_ ?_; rotate_left
     ·
      intro w hSw; (try dsimp only at hSw); go_simp; try (with_reducible rfl)
     try simp only [Act.put, lA, lB, lC]
     refine tR (i := 36) (v := ?_) ?_ ?_; rotate_left
     ·
      intro w hSw; (try dsimp only at hSw); go_simp; try (with_reducible rfl)
     try simp only [Act.put, lA, lB, lC]
     refine wpAnyH_done (by kernel_rfl) ?_ _
     clear hHeld
     go_wp2
     go_ret
     exact ⟨rfl, D.out⟩
    ·
     have RJ0 := ownsN_lit qw17 qw17.heap.size (Nat.le_refl _) #[.int .i64 0, .int .i64 1, .int .i64 2] 3 [0, 1, 2] rfl rfl (by decide)
     go_simp
     have bb : Below qw17.heap.size qw17 (qw17.alloc (.cells #[.int .i64 0, .int .i64 1, .int .i64 2] 3)) := (Below.refl _ _).alloc (Nat.le_refl _) _
     replace X := Lib.hid ((bb.block (B3) (Array.getElem?_eq_some_iff.1 X.out).1).trans X.out)
     replace Y := Lib.hid ((bb.block (B4) (Array.getElem?_eq_some_iff.1 Y.out).1).trans Y.out)
     replace RQ := Lib.hid (slR_below tQuery_law RQ.out bb)
     replace RF := Lib.hid (slR_below tSpanS_law RF.out bb)
     replace RL := Lib.hid (slR_below tRow_law RL.out bb)
     replace RB := Lib.hid (slR_below tInt_law RB.out bb)
     replace SQ := Lib.hid (slR_below tQuery_law SQ.out bb)
     replace SF := Lib.hid (slR_below tSpanS_law SF.out bb)
     replace SL := Lib.hid (slR_below tRow_law SL.out bb)
     replace SO := Lib.hid (slR_below tInt_law SO.out bb)
     replace RI := Lib.hid (slR_below tInt_law RI.out bb)
     replace CD := Lib.hid (code_below CD.out bb)
     replace D := Lib.hid (D.out.trans (bb.mono D.out.size))
     clear bb
     have RJ := Lib.hid (ints_slR (ownsN_ints RJ0))
     clear RJ0
     generalize (qw17.alloc (.cells #[.int .i64 0, .int .i64 1, .int .i64 2] 3)) = qw18 at *
     have p_X_0 := (cell_of_row qw18 _ 0 _ _ _ X.out).trans (show _ = some (Value.slice g0 qs3.length f0) from rfl)
     have p_X_1 := (cell_of_row qw18 _ 1 _ _ _ X.out).trans (show _ = some (Value.slice g1 fs3.length f1) from rfl)
     have p_Y_0 := (cell_of_row qw18 _ 0 _ _ _ Y.out).trans (show _ = some (Value.slice h0 qs4.length k0) from rfl)
     have p_Y_1 := (cell_of_row qw18 _ 1 _ _ _ Y.out).trans (show _ = some (Value.slice h1 fs4.length k1) from rfl)
     refine hK.out _ _ ⟨p_X_0, p_X_1, p_Y_0, p_Y_1⟩ (fun hHeld => ?_)
     clear p_X_0 p_X_1 p_Y_0 p_Y_1
     clear hK K
     try simp only [Act.put, lA, lB, lC]
     refine wpAnyH_ready (rs := [17]) (by kernel_rfl) (by simp) ?_
     refine (AllReadyH.cons (o := _) (by simp only [hA, hB, hC]; rfl) (fun K hK => ?_) AllReadyH.nil)
     go_simp
     refine (resWorkOf HT.out qs3 fs3 rs3 M _ _ _ _ _ D.out RQ.out RF.out RL.out RB.out (by have := HQZ.out; have := HFZ.out; have := HLZ.out; omega) HBL.out).mono ?_
     rintro e qw19 ⟨rfl, bb⟩
     replace X := Lib.hid ((bb.block (B3) (Array.getElem?_eq_some_iff.1 X.out).1).trans X.out)
     replace Y := Lib.hid ((bb.block (B4) (Array.getElem?_eq_some_iff.1 Y.out).1).trans Y.out)
     replace RQ := Lib.hid (slR_below tQuery_law RQ.out bb)
     replace RF := Lib.hid (slR_below tSpanS_law RF.out bb)
     replace RL := Lib.hid (slR_below tRow_law RL.out bb)
     replace RB := Lib.hid (slR_below tInt_law RB.out bb)
     replace SQ := Lib.hid (slR_below tQuery_law SQ.out bb)
     replace SF := Lib.hid (slR_below tSpanS_law SF.out bb)
     replace SL := Lib.hid (slR_below tRow_law SL.out bb)
     replace SO := Lib.hid (slR_below tInt_law SO.out bb)
     replace RI := Lib.hid (slR_below tInt_law RI.out bb)
     replace RJ := Lib.hid (slR_below tInt_law RJ.out bb)
     replace CD := Lib.hid (code_below CD.out bb)
     replace D := Lib.hid (D.out.trans (bb.mono D.out.size))
     clear bb
     have p_X_0 := (cell_of_row qw19 _ 0 _ _ _ X.out).trans (show _ = some (Value.slice g0 qs3.length f0) from rfl)
     have p_X_1 := (cell_of_row qw19 _ 1 _ _ _ X.out).trans (show _ = some (Value.slice g1 fs3.length f1) from rfl)
     have p_Y_0 := (cell_of_row qw19 _ 0 _ _ _ Y.out).trans (show _ = some (Value.slice h0 qs4.length k0) from rfl)
     have p_Y_1 := (cell_of_row qw19 _ 1 _ _ _ Y.out).trans (show _ = some (Value.slice h1 fs4.length k1) from rfl)
     refine hK.out _ _ ⟨p_X_0, p_X_1, p_Y_0, p_Y_1⟩ (fun hHeld => ?_)
     clear p_X_0 p_X_1 p_Y_0 p_Y_1
     clear hK K
     try simp only [Act.put, lA, lB, lC]
     refine wpAnyH_ready (rs := [21]) (by kernel_rfl) (by simp) ?_
     refine (AllReadyH.cons (o := _) (by simp only [hA, hB, hC]; rfl) (fun K hK => ?_) AllReadyH.nil)
     go_simp
     refine (resWorkOf HT.out qs3 fs3 rs3 [0, 1, 2] _ _ _ _ _ D.out RQ.out RF.out RL.out RJ.out (by have := HQZ.out; have := HFZ.out; have := HLZ.out; omega) (by decide)).mono ?_
     rintro e qw20 ⟨rfl, bb⟩
     replace X := Lib.hid ((bb.block (B3) (Array.getElem?_eq_some_iff.1 X.out).1).trans X.out)
     replace Y := Lib.hid ((bb.block (B4) (Array.getElem?_eq_some_iff.1 Y.out).1).trans Y.out)
     replace RQ := Lib.hid (slR_below tQuery_law RQ.out bb)
     replace RF := Lib.hid (slR_below tSpanS_law RF.out bb)
     replace RL := Lib.hid (slR_below tRow_law RL.out bb)
     replace RB := Lib.hid (slR_below tInt_law RB.out bb)
     replace SQ := Lib.hid (slR_below tQuery_law SQ.out bb)
     replace SF := Lib.hid (slR_below tSpanS_law SF.out bb)
     replace SL := Lib.hid (slR_below tRow_law SL.out bb)
     replace SO := Lib.hid (slR_below tInt_law SO.out bb)
     replace RI := Lib.hid (slR_below tInt_law RI.out bb)
     replace RJ := Lib.hid (slR_below tInt_law RJ.out bb)
     replace CD := Lib.hid (code_below CD.out bb)
     replace D := Lib.hid (D.out.trans (bb.mono D.out.size))
     clear bb
     have p_X_0 := (cell_of_row qw20 _ 0 _ _ _ X.out).trans (show _ = some (Value.slice g0 qs3.length f0) from rfl)
     have p_X_1 := (cell_of_row qw20 _ 1 _ _ _ X.out).trans (show _ = some (Value.slice g1 fs3.length f1) from rfl)
     have p_Y_0 := (cell_of_row qw20 _ 0 _ _ _ Y.out).trans (show _ = some (Value.slice h0 qs4.length k0) from rfl)
     have p_Y_1 := (cell_of_row qw20 _ 1 _ _ _ Y.out).trans (show _ = some (Value.slice h1 fs4.length k1) from rfl)
     refine hK.out _ _ ⟨p_X_0, p_X_1, p_Y_0, p_Y_1⟩ (fun hHeld => ?_)
     clear p_X_0 p_X_1 p_Y_0 p_Y_1
     clear hK K
     try simp only [Act.put, lA, lB, lC]
     refine tR (i := 22) (v := .bool true) ?_ ?_
     ·
      intro w hSw; (try dsimp only at hSw); go_simp; all_goals first | (with_reducible rfl) | (rw [HL2.out]; done) | (simpa using HL2.out) | (simp [HL2.out]; done) | (simp; omega)
     try simp only [Act.put, lA, lB, lC]
     refine tR (i := 23) (v := ?_) ?_ ?_; rotate_left
     ·
      intro w hSw; (try dsimp only at hSw); go_simp; try (with_reducible rfl)
     try simp only [Act.put, lA, lB, lC]
     refine tR (i := 24) (v := ?_) ?_ ?_; rotate_left
     ·
      intro w hSw; (try dsimp only at hSw); go_simp; try (with_reducible rfl)
     try simp only [Act.put, lA, lB, lC]
     refine tR (i := 25) (v := ?_) ?_ ?_; rotate_left
     ·
      intro w hSw; (try dsimp only at hSw); go_simp; try (with_reducible rfl)
     try simp only [Act.put, lA, lB, lC]
     refine tR (i := 26) (v := ?_) ?_ ?_; rotate_left
     ·
      intro w hSw; (try dsimp only at hSw); go_simp; try (with_reducible rfl)
     try simp only [Act.put, lA, lB, lC]
     refine tR (i := 27) (v := ?_) ?_ ?_; rotate_left
     ·
      intro w hSw; (try dsimp only at hSw); go_simp; try (with_reducible rfl)
     try simp only [Act.put, lA, lB, lC]
     refine tR (i := 28) (v := ?_) ?_ ?_; rotate_left
     ·
      intro w hSw; (try dsimp only at hSw); go_simp; try (with_reducible rfl)
     try simp only [Act.put, lA, lB, lC]
     refine tR (i := 30) (v := ?_) ?_ ?_; rotate_left
     ·
      intro w hSw; (try dsimp only at hSw); go_simp; try (with_reducible rfl)
     try simp only [Act.put, lA, lB, lC]
     refine tR (i := 31) (v := ?_) ?_ ?_; rotate_left
     ·
      intro w hSw; (try dsimp only at hSw); go_simp; try (with_reducible rfl)
     try simp only [Act.put, lA, lB, lC]
     refine tR (i := 32) (v := ?_) ?_ ?_; rotate_left
     ·
      intro w hSw; (try dsimp only at hSw); go_simp; try (with_reducible rfl)
     try simp only [Act.put, lA, lB, lC]
     refine wpAnyH_ready (rs := [29]) (by kernel_rfl) (by simp) ?_
     refine (AllReadyH.cons (o := _) (by simp only [hA, hB, hC]; rfl) (fun K hK => ?_) AllReadyH.nil)
     go_simp
     refine (resWorkOf HT.out qs4 fs4 rs4 os4 _ _ _ _ _ D.out SQ.out SF.out SL.out SO.out (by have := KQZ.out; have := KFZ.out; have := KLZ.out; omega) (by have := KOL.out; omega)).mono ?_
     rintro e qw21 ⟨rfl, bb⟩
     replace X := Lib.hid ((bb.block (B3) (Array.getElem?_eq_some_iff.1 X.out).1).trans X.out)
     replace Y := Lib.hid ((bb.block (B4) (Array.getElem?_eq_some_iff.1 Y.out).1).trans Y.out)
     replace RQ := Lib.hid (slR_below tQuery_law RQ.out bb)
     replace RF := Lib.hid (slR_below tSpanS_law RF.out bb)
     replace RL := Lib.hid (slR_below tRow_law RL.out bb)
     replace RB := Lib.hid (slR_below tInt_law RB.out bb)
     replace SQ := Lib.hid (slR_below tQuery_law SQ.out bb)
     replace SF := Lib.hid (slR_below tSpanS_law SF.out bb)
     replace SL := Lib.hid (slR_below tRow_law SL.out bb)
     replace SO := Lib.hid (slR_below tInt_law SO.out bb)
     replace RI := Lib.hid (slR_below tInt_law RI.out bb)
     replace RJ := Lib.hid (slR_below tInt_law RJ.out bb)
     replace CD := Lib.hid (code_below CD.out bb)
     replace D := Lib.hid (D.out.trans (bb.mono D.out.size))
     clear bb
     have p_X_0 := (cell_of_row qw21 _ 0 _ _ _ X.out).trans (show _ = some (Value.slice g0 qs3.length f0) from rfl)
     have p_X_1 := (cell_of_row qw21 _ 1 _ _ _ X.out).trans (show _ = some (Value.slice g1 fs3.length f1) from rfl)
     have p_Y_0 := (cell_of_row qw21 _ 0 _ _ _ Y.out).trans (show _ = some (Value.slice h0 qs4.length k0) from rfl)
     have p_Y_1 := (cell_of_row qw21 _ 1 _ _ _ Y.out).trans (show _ = some (Value.slice h1 fs4.length k1) from rfl)
     refine hK.out _ _ ⟨p_X_0, p_X_1, p_Y_0, p_Y_1⟩ (fun hHeld => ?_)
     clear p_X_0 p_X_1 p_Y_0 p_Y_1
     clear hK K
     try simp only [Act.put, lA, lB, lC]
     refine wpAnyH_ready (rs := [33]) (by kernel_rfl) (by simp) ?_
     refine (AllReadyH.cons (o := _) (by simp only [hA, hB, hC]; rfl) (fun K hK => ?_) AllReadyH.nil)
     go_simp
     refine (fitWorkOf qs4 fs4 rs4 os4 _ _ _ _ _ SQ.out SF.out SL.out SO.out (by have := KQZ.out; have := KFZ.out; have := KLZ.out; omega) (by have := KOL.out; omega)).mono ?_
     rintro e qw22 ⟨rfl, bb⟩
     replace X := Lib.hid ((bb.block (B3) (Array.getElem?_eq_some_iff.1 X.out).1).trans X.out)
     replace Y := Lib.hid ((bb.block (B4) (Array.getElem?_eq_some_iff.1 Y.out).1).trans Y.out)
     replace RQ := Lib.hid (slR_below tQuery_law RQ.out bb)
     replace RF := Lib.hid (slR_below tSpanS_law RF.out bb)
     replace RL := Lib.hid (slR_below tRow_law RL.out bb)
     replace RB := Lib.hid (slR_below tInt_law RB.out bb)
     replace SQ := Lib.hid (slR_below tQuery_law SQ.out bb)
     replace SF := Lib.hid (slR_below tSpanS_law SF.out bb)
     replace SL := Lib.hid (slR_below tRow_law SL.out bb)
     replace SO := Lib.hid (slR_below tInt_law SO.out bb)
     replace RI := Lib.hid (slR_below tInt_law RI.out bb)
     replace RJ := Lib.hid (slR_below tInt_law RJ.out bb)
     replace CD := Lib.hid (code_below CD.out bb)
     replace D := Lib.hid (D.out.trans (bb.mono D.out.size))
     clear bb
     have p_X_0 := (cell_of_row qw22 _ 0 _ _ _ X.out).trans (show _ = some (Value.slice g0 qs3.length f0) from rfl)
     have p_X_1 := (cell_of_row qw22 _ 1 _ _ _ X.out).trans (show _ = some (Value.slice g1 fs3.length f1) from rfl)
     have p_Y_0 := (cell_of_row qw22 _ 0 _ _ _ Y.out).trans (show _ = some (Value.slice h0 qs4.length k0) from rfl)
     have p_Y_1 := (cell_of_row qw22 _ 1 _ _ _ Y.out).trans (show _ = some (Value.slice h1 fs4.length k1) from rfl)
     refine hK.out _ _ ⟨p_X_0, p_X_1, p_Y_0, p_Y_1⟩ (fun hHeld => ?_)
     clear p_X_0 p_X_1 p_Y_0 p_Y_1
     clear hK K
     try simp only [Act.put, lA, lB, lC]
     refine tR (i := 34) (v := ?_) ?_ ?_; rotate_left
     ·
      intro w hSw; (try dsimp only at hSw); go_simp; try (with_reducible rfl)
     try simp only [Act.put, lA, lB, lC]
     refine tR (i := 35) (v := ?_) ?_ ?_; rotate_left
     ·
      intro w hSw; (try dsimp only at hSw); go_simp; try (with_reducible rfl)
     try simp only [Act.put, lA, lB, lC]
     refine tR (i := 36) (v := ?_) ?_ ?_; rotate_left
     ·
      intro w hSw; (try dsimp only at hSw); go_simp; try (with_reducible rfl)
     try simp only [Act.put, lA, lB, lC]
     refine wpAnyH_done (by kernel_rfl) ?_ _
     clear hHeld
     go_wp2
     go_ret
     exact ⟨rfl, D.out⟩
 ·
  have HBG := Lib.hid (fun w => bigS p cap xs.length w)
  rw [show decide ((1048576 : Int) < (xs.length : Int)) = true from decide_eq_true (by omega)] at HBG
  clear hcode hby ht hl
  go_enter Tryd.func5, Tryd.ntmps5
  go_wp2_with fail
  refine (HBG.out _).mono ?_
  rintro e w0 ⟨rfl, rfl⟩
  go_wp2
  go_ret
  exact ⟨rfl, Below.refl _ _⟩
end Go.Proofs.YtededfficggkaaaDoor
