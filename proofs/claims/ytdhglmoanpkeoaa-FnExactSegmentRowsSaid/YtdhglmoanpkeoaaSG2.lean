/-
  Texts of the proof, merged: VerSpec4, BrRow, RowInsM, RowSort, VerSpec5, TStore, NewMath, VerSpec6, VerSpec7, VerSize, Rec, RecLim, RecEq, RowIsP, VerP1, VerP2, VerP3, VerP4, VerP5, VerP6, HasSeg, CopyEachRow, SegRowsP.
-/
import Derived.Test.YtdhglmoanpkeoaaSG1
import Derived.BigQuiet
import Derived.Deep.QuietTactic
import Derived.Deep.RegionHeld3
import Derived.Laws.CopyOwn
import Derived.Lib.MinMax
import Derived.Laws.StructEq
namespace Go.Proofs.Ytdhglmoanpkeoaa
open Go.RowKit
set_option linter.unusedVariables false
set_option linter.unusedSimpArgs false
set_option maxHeartbeats 8000000 in
set_option maxRecDepth 100000 in
theorem specIsStore (sv : Value) (ss : List (List VerD)) (now : Int) (w : World) (h : SlR tVersionS w sv ss) (hs : zL tVersionS ss ≤ 1048576) :
    Calls Try.prog 28 #[.agg #[sv, .int .i64 now]] w (fun e w' => e = .returned (.bool (storeB ss now)) ∧ Below w.heap.size w w') := by
  have hlen := zL_len hs
  obtain ⟨a, cap, rfl⟩ := slR_len h
  have HC := Lib.hid (fun W g => specL7All (.slice a ss.length cap) ss now W g hs)
  have HZF : Hid (zL tVersion ss.flatten ≤ 1048576) := Lib.hid (by have := zL_all ss; omega)
  have H := Lib.hid h
  have HS := Lib.hid hs
  have d0 := Lib.hid (show Below w.heap.size w (w.alloc (.cells #[.slice a ss.length cap, .int .i64 now] 30)) from (Below.refl _ _).alloc (Nat.le_refl _) _)
  have B0 : Hid ((w.alloc (.cells #[.slice a ss.length cap, .int .i64 now] 30)).heap[w.heap.size]? = some (.cells #[.slice a ss.length cap, .int .i64 now] 30 (0, 0))) := Lib.hid (heap_alloc_new w _)
  have Y0 : Hid (w.heap.size < (w.alloc (.cells #[.slice a ss.length cap, .int .i64 now] 30)).heap.size) := Lib.hid (by simp [World.size_alloc])
  clear h hs
  by_cases hc : 1 ≤ ss.length ∧ ss.length ≤ 8
  rotate_left
  · have HF := Lib.hid (store_no_count (now := now) hc)
    have HI := Lib.hid (fun W => in_no (ss.length : Int) 1 8 W (by omega))
    clear hc
    rw [HF.out]
    go_enter Try.func28, Try.ntmps28
    go_wp2_with fail
    refine (HI.out _).mono ?_
    rintro e wx ⟨rfl, rfl⟩
    go_wp2
    go_ret
    exact ⟨rfl, d0.out⟩
  have HI1 := Lib.hid (fun W => in_yes (ss.length : Int) 1 8 W (by omega) (by omega))
  have HCN := Lib.hid hc
  by_cases hn : 0 ≤ now ∧ now ≤ 100000
  rotate_left
  · have HF := Lib.hid (store_no_now (ss := ss) hn)
    have HI := Lib.hid (fun W => in_no now 0 100000 W hn)
    clear hn
    rw [HF.out]
    go_enter Try.func28, Try.ntmps28
    go_wp2_with fail
    refine (HI1.out _).mono ?_
    rintro e wx ⟨rfl, rfl⟩
    go_wp2_with fail
    refine (HI.out _).mono ?_
    rintro e wx ⟨rfl, rfl⟩
    go_wp2
    go_ret
    exact ⟨rfl, d0.out⟩
  have HI2 := Lib.hid (fun W => in_yes now 0 100000 W hn.1 hn.2)
  have HNN := Lib.hid hn
  clear hc hn
  go_enter Try.func28, Try.ntmps28
  go_wp2_with fail
  refine (HI1.out _).mono ?_
  rintro e wx ⟨rfl, rfl⟩
  go_wp2_with fail
  refine (HI2.out _).mono ?_
  rintro e wx ⟨rfl, rfl⟩
  go_wp2
  generalize w.alloc (.cells #[.slice a ss.length cap, .int .i64 now] 30) = W at *
  have q0 := (cell_of_row W _ 0 _ _ _ B0.out).trans (show _ = some (Value.slice a ss.length cap) from rfl)
  have q1 := (cell_of_row W _ 1 _ _ _ B0.out).trans (show _ = some (Value.int .i64 now) from rfl)
  have G0 := Lib.hid q0
  have G1 := Lib.hid q1
  have HW := Lib.hid (slR_below tVersionS_law H.out d0.out)
  clear q0 q1 B0
  go_loopw [3] (fun i wr => ∃ k : Nat, k ≤ ss.length ∧ i = .int .i64 k ∧ Hid (ShortP ss k) ∧ Below W.heap.size W wr) (fun i _ => ss.length - (intOf i).toNat)
  case atStart => exact ⟨0, Nat.zero_le _, rfl, Lib.hid (fun j hj => by omega), Below.refl _ _⟩
  case round =>
    obtain ⟨k, hk, rfl, hsh, hbel⟩ := hrel
    have p0 := (hbel.cell (p := ⟨w.heap.size, 0, none⟩) Y0.out).trans G0.out
    have p1 := (hbel.cell (p := ⟨w.heap.size, 1, none⟩) Y0.out).trans G1.out
    by_cases hlt : k < ss.length
    · have i1 : (0 : Int) ≤ (k : Int) := by omega
      have i2 : (k : Int) < (ss.length : Int) := by omega
      obtain ⟨b, off, cap', cs, hv, hbl, hcs, hR⟩ := slR_at HW.out hlt
      simp only [Value.slice.injEq] at hv
      obtain ⟨rfl, _, rfl⟩ := hv
      obtain ⟨u, rfl, hU⟩ := hR
      change SlR tVersion W u (ss.getD k []) at hU
      have pe : W.cell? ⟨b, off + k, none⟩ = some u := by have := hcs 0 Nat.one_pos; rw [show tVersionS.n = 1 from rfl, Nat.mul_one, Nat.add_zero] at this; exact this
      have he := (hbel.cell (p := ⟨b, off + k, none⟩) hbl).trans pe
      have HNO := Lib.hid (fun g => store_no_short (ss := ss) (now := now) hlt g)
      have HYS : Hid ((ss.getD k []).length ≤ 4 → ShortP ss (k + 1)) := Lib.hid (fun g j hj => by
        by_cases e : j = k
        · rw [e]; exact g
        · exact hsh.out j (by omega))
      have HML := Lib.hid (zL_len (show zL tVersion (ss.getD k []) ≤ 1048576 from Nat.le_trans (zL_seg hlt) HS.out))
      obtain ⟨ua, uc, rfl⟩ := slR_len hU
      have HB := Lib.hid hbel
      clear hcs pe hU hsh hbel
      generalize (ss.getD k []).length = m at *
      by_cases hm : m ≤ 4
      · have HY := Lib.hid (HYS.out hm)
        have hmi : ¬ (4 : Int) < (m : Int) := by omega
        clear HYS HNO
        go_wp2
        go_roundw
        case rel => exact ⟨k + 1, by omega, by go_num, HY, HB.out⟩
        case measure => simp [intOf]; omega
      · have HF := Lib.hid (HNO.out hm)
        have hmi : (4 : Int) < (m : Int) := by omega
        clear HYS HNO
        go_wp2
        go_ret
        exact ⟨ret_b HF.out.symm, d0.out.trans (HB.out.mono d0.out.size)⟩
    · obtain rfl : k = ss.length := by omega
      have HSH := Lib.hid hsh.out
      clear hsh
      have HB := Lib.hid hbel
      clear hbel
      go_wp2_with fail
      refine (HC.out wr (slR_below tVersionS_law HW.out HB.out)).mono ?_
      rintro e w1 ⟨v, L, rfl, hown, hshv, b1⟩
      have hVR := raw_reads (T := tVersion) (by decide) hown (sh_below tVersion_law hshv b1)
      obtain ⟨va, vc, rfl⟩ := slO_len hown
      rw [sh_len hshv] at *
      have V := Lib.hid hVR
      have b2 := HB.out.trans (b1.mono HB.out.size)
      have D1 := Lib.hid (d0.out.trans (b2.mono d0.out.size))
      have CN := Lib.hid ((b2.cell (p := ⟨w.heap.size, 1, none⟩) Y0.out).trans G1.out)
      have YN := Lib.hid (Nat.lt_of_lt_of_le Y0.out b2.size)
      have HFL := Lib.hid (zL_len HZF.out)
      clear hVR hown hshv b1 b2 HB p0 p1 HW G0 G1
      have hfl := HFL.out
      obtain ⟨l, hl⟩ : ∃ l, l = ss.flatten := ⟨_, rfl⟩
      have HLL := Lib.hid hl
      rw [← hl] at V HFL hfl ⊢
      clear hl
      go_wp2
      go_loopw [5] (fun i wr => ∃ k : Nat, k ≤ l.length ∧ i = .int .i64 k ∧ Hid (VersP l now k) ∧ Below w1.heap.size w1 wr) (fun i _ => l.length - (intOf i).toNat)
      case atStart => exact ⟨0, Nat.zero_le _, rfl, Lib.hid (fun j hj => by omega), Below.refl _ _⟩
      case round =>
        obtain ⟨k, hk, rfl, hvs, hbel⟩ := hrel
        by_cases hlt : k < l.length
        · have i1 : (0 : Int) ≤ (k : Int) := by omega
          have i2 : (k : Int) < (l.length : Int) := by omega
          obtain ⟨b, off, cap', xa, xc, hv, hbl, c0, c1, c2, c3, hx⟩ := verR_at V.out hlt
          simp only [Value.slice.injEq] at hv
          obtain ⟨rfl, _, rfl⟩ := hv
          have HXL := Lib.hid (ver_len (by rw [HLL.out]; exact HZF.out) hlt)
          have HNV : Hid (verB (l.getD k v0D) now = false → storeB ss now = false) := Lib.hid (fun g => store_no_ver (i := k) (by rw [← HLL.out]; exact hlt) (by rw [← HLL.out]; exact g))
          have HNA : Hid (∀ j, j < k → apartB (l.getD k v0D) (l.getD j v0D) = false → storeB ss now = false) := Lib.hid (fun j hj g => store_no_apart (i := k) (k := j) (by rw [← HLL.out]; exact hlt) hj (by rw [← HLL.out]; exact g))
          have HST : Hid (verB (l.getD k v0D) now = true → (∀ j, j < k → apartB (l.getD k v0D) (l.getD j v0D) = true) → VersP l now (k + 1)) := Lib.hid (fun g1 g2 => vers_step hvs.out g1 g2)
          have HRX : Hid (Ints w1 (.slice xa (l.getD k v0D).2.1.length xc) (l.getD k v0D).2.1) := Lib.hid hx
          obtain ⟨x, hxe⟩ : ∃ x, x = l.getD k v0D := ⟨_, rfl⟩
          rw [← hxe] at HXL HNV HNA HST HRX c0 c1 c2 c3
          obtain ⟨id, xs, born, died⟩ := x
          simp only at c0 c1 c2 c3
          have C0 := Lib.hid c0
          have C1 := Lib.hid c1
          have C2 := Lib.hid c2
          have C3 := Lib.hid c3
          have HBL := Lib.hid hbl
          have d := Lib.hid hbel
          clear hx hxe c0 c1 c2 c3 hbl hbel hvs
          cases hver : verB (id, xs, born, died) now with
          | false =>
            have HF := Lib.hid (HNV.out hver)
            have HCV := Lib.hid (fun W g => hver ▸ specVersion id born died now (.slice xa xs.length xc) xs W g HXL.out HNN.out.2)
            clear hver HNV HNA HST
            go_wp2
            have p_C0 := (d.out.cell (p := ⟨b, off + k * 4, none⟩) HBL.out).trans C0.out
            have p_C1 := (d.out.cell (p := ⟨b, off + k * 4 + 1, none⟩) HBL.out).trans C1.out
            have p_C2 := (d.out.cell (p := ⟨b, off + k * 4 + 2, none⟩) HBL.out).trans C2.out
            have p_C3 := (d.out.cell (p := ⟨b, off + k * 4 + 3, none⟩) HBL.out).trans C3.out
            have p_CN := (d.out.cell (p := ⟨w.heap.size, 1, none⟩) YN.out).trans CN.out
            refine wp_region_held_drew (S := fun w' => w'.cell? ⟨b, off + k * 4, none⟩ = some (Value.int .i64 id) ∧ w'.cell? ⟨b, off + k * 4 + 1, none⟩ = some (Value.slice xa xs.length xc) ∧ w'.cell? ⟨b, off + k * 4 + 2, none⟩ = some (Value.int .i64 born) ∧ w'.cell? ⟨b, off + k * 4 + 3, none⟩ = some (Value.int .i64 died) ∧ w'.cell? ⟨w.heap.size, 1, none⟩ = some (.int .i64 now)) (by kernel_rfl) ⟨p_C0, p_C1, p_C2, p_C3, p_CN⟩ (fun hHeld => ?_)
            clear p_C0 p_C1 p_C2 p_C3 p_CN
            have cdr : Below wr.heap.size wr wr.drew := below_drew (Below.refl _ _)
            replace d := Lib.hid (d.out.trans (cdr.mono d.out.size))
            clear cdr
            refine take_runs (i := 0) (v := ?_) (by simp only [List.getElem?_toArray, List.getElem?_cons_succ, List.getElem?_cons_zero]; rfl) (by kernel_rfl) (by kernel_rfl) (by kernel_rfl) rfl (by exact fun _ _ _ h => h) (by rfl) ?_ (by assumption) ?_
            rotate_left
            · intro w hSw; (try dsimp only at hSw); go_simp; try (with_reducible rfl)
            try simp only [Act.put, List.setIfInBounds_toArray, List.set_cons_zero, List.set_cons_succ]
            refine take_runs (i := 1) (v := ?_) (by simp only [List.getElem?_toArray, List.getElem?_cons_succ, List.getElem?_cons_zero]; rfl) (by kernel_rfl) (by kernel_rfl) (by kernel_rfl) rfl (by exact fun _ _ _ h => h) (by rfl) ?_ (by assumption) ?_
            rotate_left
            · intro w hSw; (try dsimp only at hSw); go_simp; try (with_reducible rfl)
            try simp only [Act.put, List.setIfInBounds_toArray, List.set_cons_zero, List.set_cons_succ]
            refine take_runs (i := 2) (v := ?_) (by simp only [List.getElem?_toArray, List.getElem?_cons_succ, List.getElem?_cons_zero]; rfl) (by kernel_rfl) (by kernel_rfl) (by kernel_rfl) rfl (by exact fun _ _ _ h => h) (by rfl) ?_ (by assumption) ?_
            rotate_left
            · intro w hSw; (try dsimp only at hSw); go_simp; try (with_reducible rfl)
            try simp only [Act.put, List.setIfInBounds_toArray, List.set_cons_zero, List.set_cons_succ]
            refine take_runs (i := 3) (v := ?_) (by simp only [List.getElem?_toArray, List.getElem?_cons_succ, List.getElem?_cons_zero]; rfl) (by kernel_rfl) (by kernel_rfl) (by kernel_rfl) rfl (by exact fun _ _ _ h => h) (by rfl) ?_ (by assumption) ?_
            rotate_left
            · intro w hSw; (try dsimp only at hSw); go_simp; try (with_reducible rfl)
            try simp only [Act.put, List.setIfInBounds_toArray, List.set_cons_zero, List.set_cons_succ]
            refine take_runs (i := 4) (v := ?_) (by simp only [List.getElem?_toArray, List.getElem?_cons_succ, List.getElem?_cons_zero]; rfl) (by kernel_rfl) (by kernel_rfl) (by kernel_rfl) rfl (by exact fun _ _ _ h => h) (by rfl) ?_ (by assumption) ?_
            rotate_left
            · intro w hSw; (try dsimp only at hSw); go_simp; try (with_reducible rfl)
            try simp only [Act.put, List.setIfInBounds_toArray, List.set_cons_zero, List.set_cons_succ]
            refine take_runs (i := 5) (v := ?_) (by simp only [List.getElem?_toArray, List.getElem?_cons_succ, List.getElem?_cons_zero]; rfl) (by kernel_rfl) (by kernel_rfl) (by kernel_rfl) rfl (by exact fun _ _ _ h => h) (by rfl) ?_ (by assumption) ?_
            rotate_left
            · intro w hSw; (try dsimp only at hSw); go_simp; try (with_reducible rfl)
            try simp only [Act.put, List.setIfInBounds_toArray, List.set_cons_zero, List.set_cons_succ]
            refine wpAnyH_ready (rs := [6]) (by kernel_rfl) (by simp) ?_
            refine (AllReadyH.cons (o := _) (by simp only [List.getElem?_toArray, List.getElem?_cons_succ, List.getElem?_cons_zero]; rfl) (fun K hK => ?_) AllReadyH.nil)
            go_simp
            refine (HCV.out (wr.drew) (ints_below HRX.out d.out)).mono ?_
            rintro e w5 ⟨rfl, c5⟩
            replace d := Lib.hid (d.out.trans (c5.mono d.out.size))
            have Z_w5 := Lib.hid (show wr.heap.size ≤ w5.heap.size from c5.size)
            clear c5
            have p_C0 := (d.out.cell (p := ⟨b, off + k * 4, none⟩) HBL.out).trans C0.out
            have p_C1 := (d.out.cell (p := ⟨b, off + k * 4 + 1, none⟩) HBL.out).trans C1.out
            have p_C2 := (d.out.cell (p := ⟨b, off + k * 4 + 2, none⟩) HBL.out).trans C2.out
            have p_C3 := (d.out.cell (p := ⟨b, off + k * 4 + 3, none⟩) HBL.out).trans C3.out
            have p_CN := (d.out.cell (p := ⟨w.heap.size, 1, none⟩) YN.out).trans CN.out
            refine hK.out _ _ ⟨p_C0, p_C1, p_C2, p_C3, p_CN⟩ (fun hHeld => ?_)
            clear p_C0 p_C1 p_C2 p_C3 p_CN
            clear hK K
            try simp only [Act.put, List.setIfInBounds_toArray, List.set_cons_zero, List.set_cons_succ]
            refine take_runs (i := 7) (v := ?_) (by simp only [List.getElem?_toArray, List.getElem?_cons_succ, List.getElem?_cons_zero]; rfl) (by kernel_rfl) (by kernel_rfl) (by kernel_rfl) rfl (by exact fun _ _ _ h => h) (by rfl) ?_ (by assumption) ?_
            rotate_left
            · intro w hSw; (try dsimp only at hSw); go_simp; try (with_reducible rfl)
            try simp only [Act.put, List.setIfInBounds_toArray, List.set_cons_zero, List.set_cons_succ]
            refine wpAnyH_done (by kernel_rfl) ?_ _
            clear hHeld
            go_wp2
            go_ret
            exact ⟨ret_b HF.out.symm, D1.out.trans (d.out.mono D1.out.size)⟩
          | true =>
            have HCV := Lib.hid (fun W g => hver ▸ specVersion id born died now (.slice xa xs.length xc) xs W g HXL.out HNN.out.2)
            have HST2 := Lib.hid (HST.out hver)
            clear hver HNV HST
            go_wp2
            have p_C0 := (d.out.cell (p := ⟨b, off + k * 4, none⟩) HBL.out).trans C0.out
            have p_C1 := (d.out.cell (p := ⟨b, off + k * 4 + 1, none⟩) HBL.out).trans C1.out
            have p_C2 := (d.out.cell (p := ⟨b, off + k * 4 + 2, none⟩) HBL.out).trans C2.out
            have p_C3 := (d.out.cell (p := ⟨b, off + k * 4 + 3, none⟩) HBL.out).trans C3.out
            have p_CN := (d.out.cell (p := ⟨w.heap.size, 1, none⟩) YN.out).trans CN.out
            refine wp_region_held_drew (S := fun w' => w'.cell? ⟨b, off + k * 4, none⟩ = some (Value.int .i64 id) ∧ w'.cell? ⟨b, off + k * 4 + 1, none⟩ = some (Value.slice xa xs.length xc) ∧ w'.cell? ⟨b, off + k * 4 + 2, none⟩ = some (Value.int .i64 born) ∧ w'.cell? ⟨b, off + k * 4 + 3, none⟩ = some (Value.int .i64 died) ∧ w'.cell? ⟨w.heap.size, 1, none⟩ = some (.int .i64 now)) (by kernel_rfl) ⟨p_C0, p_C1, p_C2, p_C3, p_CN⟩ (fun hHeld => ?_)
            clear p_C0 p_C1 p_C2 p_C3 p_CN
            have cdr : Below wr.heap.size wr wr.drew := below_drew (Below.refl _ _)
            replace d := Lib.hid (d.out.trans (cdr.mono d.out.size))
            clear cdr
            refine take_runs (i := 0) (v := ?_) (by simp only [List.getElem?_toArray, List.getElem?_cons_succ, List.getElem?_cons_zero]; rfl) (by kernel_rfl) (by kernel_rfl) (by kernel_rfl) rfl (by exact fun _ _ _ h => h) (by rfl) ?_ (by assumption) ?_
            rotate_left
            · intro w hSw; (try dsimp only at hSw); go_simp; try (with_reducible rfl)
            try simp only [Act.put, List.setIfInBounds_toArray, List.set_cons_zero, List.set_cons_succ]
            refine take_runs (i := 1) (v := ?_) (by simp only [List.getElem?_toArray, List.getElem?_cons_succ, List.getElem?_cons_zero]; rfl) (by kernel_rfl) (by kernel_rfl) (by kernel_rfl) rfl (by exact fun _ _ _ h => h) (by rfl) ?_ (by assumption) ?_
            rotate_left
            · intro w hSw; (try dsimp only at hSw); go_simp; try (with_reducible rfl)
            try simp only [Act.put, List.setIfInBounds_toArray, List.set_cons_zero, List.set_cons_succ]
            refine take_runs (i := 2) (v := ?_) (by simp only [List.getElem?_toArray, List.getElem?_cons_succ, List.getElem?_cons_zero]; rfl) (by kernel_rfl) (by kernel_rfl) (by kernel_rfl) rfl (by exact fun _ _ _ h => h) (by rfl) ?_ (by assumption) ?_
            rotate_left
            · intro w hSw; (try dsimp only at hSw); go_simp; try (with_reducible rfl)
            try simp only [Act.put, List.setIfInBounds_toArray, List.set_cons_zero, List.set_cons_succ]
            refine take_runs (i := 3) (v := ?_) (by simp only [List.getElem?_toArray, List.getElem?_cons_succ, List.getElem?_cons_zero]; rfl) (by kernel_rfl) (by kernel_rfl) (by kernel_rfl) rfl (by exact fun _ _ _ h => h) (by rfl) ?_ (by assumption) ?_
            rotate_left
            · intro w hSw; (try dsimp only at hSw); go_simp; try (with_reducible rfl)
            try simp only [Act.put, List.setIfInBounds_toArray, List.set_cons_zero, List.set_cons_succ]
            refine take_runs (i := 4) (v := ?_) (by simp only [List.getElem?_toArray, List.getElem?_cons_succ, List.getElem?_cons_zero]; rfl) (by kernel_rfl) (by kernel_rfl) (by kernel_rfl) rfl (by exact fun _ _ _ h => h) (by rfl) ?_ (by assumption) ?_
            rotate_left
            · intro w hSw; (try dsimp only at hSw); go_simp; try (with_reducible rfl)
            try simp only [Act.put, List.setIfInBounds_toArray, List.set_cons_zero, List.set_cons_succ]
            refine take_runs (i := 5) (v := ?_) (by simp only [List.getElem?_toArray, List.getElem?_cons_succ, List.getElem?_cons_zero]; rfl) (by kernel_rfl) (by kernel_rfl) (by kernel_rfl) rfl (by exact fun _ _ _ h => h) (by rfl) ?_ (by assumption) ?_
            rotate_left
            · intro w hSw; (try dsimp only at hSw); go_simp; try (with_reducible rfl)
            try simp only [Act.put, List.setIfInBounds_toArray, List.set_cons_zero, List.set_cons_succ]
            refine wpAnyH_ready (rs := [6]) (by kernel_rfl) (by simp) ?_
            refine (AllReadyH.cons (o := _) (by simp only [List.getElem?_toArray, List.getElem?_cons_succ, List.getElem?_cons_zero]; rfl) (fun K hK => ?_) AllReadyH.nil)
            go_simp
            refine (HCV.out (wr.drew) (ints_below HRX.out d.out)).mono ?_
            rintro e w5 ⟨rfl, c5⟩
            replace d := Lib.hid (d.out.trans (c5.mono d.out.size))
            have Z_w5 := Lib.hid (show wr.heap.size ≤ w5.heap.size from c5.size)
            clear c5
            have p_C0 := (d.out.cell (p := ⟨b, off + k * 4, none⟩) HBL.out).trans C0.out
            have p_C1 := (d.out.cell (p := ⟨b, off + k * 4 + 1, none⟩) HBL.out).trans C1.out
            have p_C2 := (d.out.cell (p := ⟨b, off + k * 4 + 2, none⟩) HBL.out).trans C2.out
            have p_C3 := (d.out.cell (p := ⟨b, off + k * 4 + 3, none⟩) HBL.out).trans C3.out
            have p_CN := (d.out.cell (p := ⟨w.heap.size, 1, none⟩) YN.out).trans CN.out
            refine hK.out _ _ ⟨p_C0, p_C1, p_C2, p_C3, p_CN⟩ (fun hHeld => ?_)
            clear p_C0 p_C1 p_C2 p_C3 p_CN
            clear hK K
            try simp only [Act.put, List.setIfInBounds_toArray, List.set_cons_zero, List.set_cons_succ]
            refine take_runs (i := 7) (v := ?_) (by simp only [List.getElem?_toArray, List.getElem?_cons_succ, List.getElem?_cons_zero]; rfl) (by kernel_rfl) (by kernel_rfl) (by kernel_rfl) rfl (by exact fun _ _ _ h => h) (by rfl) ?_ (by assumption) ?_
            rotate_left
            · intro w hSw; (try dsimp only at hSw); go_simp; try (with_reducible rfl)
            try simp only [Act.put, List.setIfInBounds_toArray, List.set_cons_zero, List.set_cons_succ]
            refine wpAnyH_done (by kernel_rfl) ?_ _
            clear hHeld
            go_wp2
            go_loopw [6] (fun i wr => ∃ m : Nat, m ≤ k ∧ i = .int .i64 m ∧ Hid (∀ j, j < m → apartB (id, xs, born, died) (l.getD j v0D) = true) ∧ Below w1.heap.size w1 wr) (fun i _ => k - (intOf i).toNat)
            case atStart => exact ⟨0, Nat.zero_le _, rfl, Lib.hid (fun j hj => by omega), d.out⟩
            case round =>
              obtain ⟨m, hm, rfl, hap, hbel⟩ := hrel
              clear d
              by_cases hml : m < k
              · have j1 : (0 : Int) ≤ (m : Int) := by omega
                have j2 : (m : Int) < (l.length : Int) := by omega
                have j3 : (m : Int) < (k : Int) := by omega
                obtain ⟨b2, off2, cap2, ya, yc, hv, hbl2, y0, y1, y2, y3, hy⟩ := verR_at V.out (k := m) (by omega)
                simp only [Value.slice.injEq, Option.some.injEq, Addr.mk.injEq] at hv
                obtain ⟨⟨rfl, rfl, _⟩, _, rfl⟩ := hv
                have HNX := Lib.hid (HNA.out m hml)
                have HYX : Hid (apartB (id, xs, born, died) (l.getD m v0D) = true → ∀ j, j < m + 1 → apartB (id, xs, born, died) (l.getD j v0D) = true) := Lib.hid (fun g j hj => by
                  by_cases e : j = m
                  · rw [e]; exact g
                  · exact hap.out j (by omega))
                generalize l.getD m v0D = y at *
                obtain ⟨id2, ys, born2, died2⟩ := y
                simp only at y0 y1 y2 y3
                have E0 := Lib.hid y0
                have E1 := Lib.hid y1
                have E2 := Lib.hid y2
                have E3 := Lib.hid y3
                have d := Lib.hid hbel
                clear y0 y1 y2 y3 hy hap hbel
                have HCA := Lib.hid (specApart id born died id2 born2 died2 (.slice xa xs.length xc) (.slice ya ys.length yc))
                cases hapt : decide (apartP id born died id2 born2 died2) with
                | false =>
                  have HF := Lib.hid (HNX.out hapt)
                  rw [hapt] at HCA
                  clear hapt HNX HYX
                  go_wp2
                  have p_C0 := (d.out.cell (p := ⟨b, off + k * 4, none⟩) HBL.out).trans C0.out
                  have p_C1 := (d.out.cell (p := ⟨b, off + k * 4 + 1, none⟩) HBL.out).trans C1.out
                  have p_C2 := (d.out.cell (p := ⟨b, off + k * 4 + 2, none⟩) HBL.out).trans C2.out
                  have p_C3 := (d.out.cell (p := ⟨b, off + k * 4 + 3, none⟩) HBL.out).trans C3.out
                  have p_E0 := (d.out.cell (p := ⟨b, off + m * 4, none⟩) HBL.out).trans E0.out
                  have p_E1 := (d.out.cell (p := ⟨b, off + m * 4 + 1, none⟩) HBL.out).trans E1.out
                  have p_E2 := (d.out.cell (p := ⟨b, off + m * 4 + 2, none⟩) HBL.out).trans E2.out
                  have p_E3 := (d.out.cell (p := ⟨b, off + m * 4 + 3, none⟩) HBL.out).trans E3.out
                  refine wp_region_held_drew (S := fun w' => w'.cell? ⟨b, off + k * 4, none⟩ = some (Value.int .i64 id) ∧ w'.cell? ⟨b, off + k * 4 + 1, none⟩ = some (Value.slice xa xs.length xc) ∧ w'.cell? ⟨b, off + k * 4 + 2, none⟩ = some (Value.int .i64 born) ∧ w'.cell? ⟨b, off + k * 4 + 3, none⟩ = some (Value.int .i64 died) ∧ w'.cell? ⟨b, off + m * 4, none⟩ = some (Value.int .i64 id2) ∧ w'.cell? ⟨b, off + m * 4 + 1, none⟩ = some (Value.slice ya ys.length yc) ∧ w'.cell? ⟨b, off + m * 4 + 2, none⟩ = some (Value.int .i64 born2) ∧ w'.cell? ⟨b, off + m * 4 + 3, none⟩ = some (Value.int .i64 died2)) (by kernel_rfl) ⟨p_C0, p_C1, p_C2, p_C3, p_E0, p_E1, p_E2, p_E3⟩ (fun hHeld => ?_)
                  clear p_C0 p_C1 p_C2 p_C3 p_E0 p_E1 p_E2 p_E3
                  have cdr : Below wr.heap.size wr wr.drew := below_drew (Below.refl _ _)
                  replace d := Lib.hid (d.out.trans (cdr.mono d.out.size))
                  clear cdr
                  refine take_runs (i := 0) (v := ?_) (by simp only [List.getElem?_toArray, List.getElem?_cons_succ, List.getElem?_cons_zero]; rfl) (by kernel_rfl) (by kernel_rfl) (by kernel_rfl) rfl (by exact fun _ _ _ h => h) (by rfl) ?_ (by assumption) ?_
                  rotate_left
                  · intro w hSw; (try dsimp only at hSw); go_simp; try (with_reducible rfl)
                  try simp only [Act.put, List.setIfInBounds_toArray, List.set_cons_zero, List.set_cons_succ]
                  refine take_runs (i := 1) (v := ?_) (by simp only [List.getElem?_toArray, List.getElem?_cons_succ, List.getElem?_cons_zero]; rfl) (by kernel_rfl) (by kernel_rfl) (by kernel_rfl) rfl (by exact fun _ _ _ h => h) (by rfl) ?_ (by assumption) ?_
                  rotate_left
                  · intro w hSw; (try dsimp only at hSw); go_simp; try (with_reducible rfl)
                  try simp only [Act.put, List.setIfInBounds_toArray, List.set_cons_zero, List.set_cons_succ]
                  refine take_runs (i := 2) (v := ?_) (by simp only [List.getElem?_toArray, List.getElem?_cons_succ, List.getElem?_cons_zero]; rfl) (by kernel_rfl) (by kernel_rfl) (by kernel_rfl) rfl (by exact fun _ _ _ h => h) (by rfl) ?_ (by assumption) ?_
                  rotate_left
                  · intro w hSw; (try dsimp only at hSw); go_simp; try (with_reducible rfl)
                  try simp only [Act.put, List.setIfInBounds_toArray, List.set_cons_zero, List.set_cons_succ]
                  refine take_runs (i := 3) (v := ?_) (by simp only [List.getElem?_toArray, List.getElem?_cons_succ, List.getElem?_cons_zero]; rfl) (by kernel_rfl) (by kernel_rfl) (by kernel_rfl) rfl (by exact fun _ _ _ h => h) (by rfl) ?_ (by assumption) ?_
                  rotate_left
                  · intro w hSw; (try dsimp only at hSw); go_simp; try (with_reducible rfl)
                  try simp only [Act.put, List.setIfInBounds_toArray, List.set_cons_zero, List.set_cons_succ]
                  refine take_runs (i := 4) (v := ?_) (by simp only [List.getElem?_toArray, List.getElem?_cons_succ, List.getElem?_cons_zero]; rfl) (by kernel_rfl) (by kernel_rfl) (by kernel_rfl) rfl (by exact fun _ _ _ h => h) (by rfl) ?_ (by assumption) ?_
                  rotate_left
                  · intro w hSw; (try dsimp only at hSw); go_simp; try (with_reducible rfl)
                  try simp only [Act.put, List.setIfInBounds_toArray, List.set_cons_zero, List.set_cons_succ]
                  refine take_runs (i := 5) (v := ?_) (by simp only [List.getElem?_toArray, List.getElem?_cons_succ, List.getElem?_cons_zero]; rfl) (by kernel_rfl) (by kernel_rfl) (by kernel_rfl) rfl (by exact fun _ _ _ h => h) (by rfl) ?_ (by assumption) ?_
                  rotate_left
                  · intro w hSw; (try dsimp only at hSw); go_simp; try (with_reducible rfl)
                  try simp only [Act.put, List.setIfInBounds_toArray, List.set_cons_zero, List.set_cons_succ]
                  refine take_runs (i := 6) (v := ?_) (by simp only [List.getElem?_toArray, List.getElem?_cons_succ, List.getElem?_cons_zero]; rfl) (by kernel_rfl) (by kernel_rfl) (by kernel_rfl) rfl (by exact fun _ _ _ h => h) (by rfl) ?_ (by assumption) ?_
                  rotate_left
                  · intro w hSw; (try dsimp only at hSw); go_simp; try (with_reducible rfl)
                  try simp only [Act.put, List.setIfInBounds_toArray, List.set_cons_zero, List.set_cons_succ]
                  refine take_runs (i := 7) (v := ?_) (by simp only [List.getElem?_toArray, List.getElem?_cons_succ, List.getElem?_cons_zero]; rfl) (by kernel_rfl) (by kernel_rfl) (by kernel_rfl) rfl (by exact fun _ _ _ h => h) (by rfl) ?_ (by assumption) ?_
                  rotate_left
                  · intro w hSw; (try dsimp only at hSw); go_simp; try (with_reducible rfl)
                  try simp only [Act.put, List.setIfInBounds_toArray, List.set_cons_zero, List.set_cons_succ]
                  refine wpAnyH_ready (rs := [8]) (by kernel_rfl) (by simp) ?_
                  refine (AllReadyH.cons (o := _) (by simp only [List.getElem?_toArray, List.getElem?_cons_succ, List.getElem?_cons_zero]; rfl) (fun K hK => ?_) AllReadyH.nil)
                  go_simp
                  refine (HCA.out (wr.drew)).mono ?_
                  rintro e w6 ⟨rfl, c6⟩
                  replace d := Lib.hid (d.out.trans (c6.mono d.out.size))
                  have Z_w6 := Lib.hid (show wr.heap.size ≤ w6.heap.size from c6.size)
                  clear c6
                  have p_C0 := (d.out.cell (p := ⟨b, off + k * 4, none⟩) HBL.out).trans C0.out
                  have p_C1 := (d.out.cell (p := ⟨b, off + k * 4 + 1, none⟩) HBL.out).trans C1.out
                  have p_C2 := (d.out.cell (p := ⟨b, off + k * 4 + 2, none⟩) HBL.out).trans C2.out
                  have p_C3 := (d.out.cell (p := ⟨b, off + k * 4 + 3, none⟩) HBL.out).trans C3.out
                  have p_E0 := (d.out.cell (p := ⟨b, off + m * 4, none⟩) HBL.out).trans E0.out
                  have p_E1 := (d.out.cell (p := ⟨b, off + m * 4 + 1, none⟩) HBL.out).trans E1.out
                  have p_E2 := (d.out.cell (p := ⟨b, off + m * 4 + 2, none⟩) HBL.out).trans E2.out
                  have p_E3 := (d.out.cell (p := ⟨b, off + m * 4 + 3, none⟩) HBL.out).trans E3.out
                  refine hK.out _ _ ⟨p_C0, p_C1, p_C2, p_C3, p_E0, p_E1, p_E2, p_E3⟩ (fun hHeld => ?_)
                  clear p_C0 p_C1 p_C2 p_C3 p_E0 p_E1 p_E2 p_E3
                  clear hK K
                  try simp only [Act.put, List.setIfInBounds_toArray, List.set_cons_zero, List.set_cons_succ]
                  refine take_runs (i := 9) (v := ?_) (by simp only [List.getElem?_toArray, List.getElem?_cons_succ, List.getElem?_cons_zero]; rfl) (by kernel_rfl) (by kernel_rfl) (by kernel_rfl) rfl (by exact fun _ _ _ h => h) (by rfl) ?_ (by assumption) ?_
                  rotate_left
                  · intro w hSw; (try dsimp only at hSw); go_simp; try (with_reducible rfl)
                  try simp only [Act.put, List.setIfInBounds_toArray, List.set_cons_zero, List.set_cons_succ]
                  refine wpAnyH_done (by kernel_rfl) ?_ _
                  clear hHeld
                  go_wp2
                  go_ret
                  exact ⟨ret_b HF.out.symm, D1.out.trans (d.out.mono D1.out.size)⟩
                | true =>
                  have HA2 := Lib.hid (HYX.out hapt)
                  rw [hapt] at HCA
                  clear hapt HNX HYX
                  go_wp2
                  have p_C0 := (d.out.cell (p := ⟨b, off + k * 4, none⟩) HBL.out).trans C0.out
                  have p_C1 := (d.out.cell (p := ⟨b, off + k * 4 + 1, none⟩) HBL.out).trans C1.out
                  have p_C2 := (d.out.cell (p := ⟨b, off + k * 4 + 2, none⟩) HBL.out).trans C2.out
                  have p_C3 := (d.out.cell (p := ⟨b, off + k * 4 + 3, none⟩) HBL.out).trans C3.out
                  have p_E0 := (d.out.cell (p := ⟨b, off + m * 4, none⟩) HBL.out).trans E0.out
                  have p_E1 := (d.out.cell (p := ⟨b, off + m * 4 + 1, none⟩) HBL.out).trans E1.out
                  have p_E2 := (d.out.cell (p := ⟨b, off + m * 4 + 2, none⟩) HBL.out).trans E2.out
                  have p_E3 := (d.out.cell (p := ⟨b, off + m * 4 + 3, none⟩) HBL.out).trans E3.out
                  refine wp_region_held_drew (S := fun w' => w'.cell? ⟨b, off + k * 4, none⟩ = some (Value.int .i64 id) ∧ w'.cell? ⟨b, off + k * 4 + 1, none⟩ = some (Value.slice xa xs.length xc) ∧ w'.cell? ⟨b, off + k * 4 + 2, none⟩ = some (Value.int .i64 born) ∧ w'.cell? ⟨b, off + k * 4 + 3, none⟩ = some (Value.int .i64 died) ∧ w'.cell? ⟨b, off + m * 4, none⟩ = some (Value.int .i64 id2) ∧ w'.cell? ⟨b, off + m * 4 + 1, none⟩ = some (Value.slice ya ys.length yc) ∧ w'.cell? ⟨b, off + m * 4 + 2, none⟩ = some (Value.int .i64 born2) ∧ w'.cell? ⟨b, off + m * 4 + 3, none⟩ = some (Value.int .i64 died2)) (by kernel_rfl) ⟨p_C0, p_C1, p_C2, p_C3, p_E0, p_E1, p_E2, p_E3⟩ (fun hHeld => ?_)
                  clear p_C0 p_C1 p_C2 p_C3 p_E0 p_E1 p_E2 p_E3
                  have cdr : Below wr.heap.size wr wr.drew := below_drew (Below.refl _ _)
                  replace d := Lib.hid (d.out.trans (cdr.mono d.out.size))
                  clear cdr
                  refine take_runs (i := 0) (v := ?_) (by simp only [List.getElem?_toArray, List.getElem?_cons_succ, List.getElem?_cons_zero]; rfl) (by kernel_rfl) (by kernel_rfl) (by kernel_rfl) rfl (by exact fun _ _ _ h => h) (by rfl) ?_ (by assumption) ?_
                  rotate_left
                  · intro w hSw; (try dsimp only at hSw); go_simp; try (with_reducible rfl)
                  try simp only [Act.put, List.setIfInBounds_toArray, List.set_cons_zero, List.set_cons_succ]
                  refine take_runs (i := 1) (v := ?_) (by simp only [List.getElem?_toArray, List.getElem?_cons_succ, List.getElem?_cons_zero]; rfl) (by kernel_rfl) (by kernel_rfl) (by kernel_rfl) rfl (by exact fun _ _ _ h => h) (by rfl) ?_ (by assumption) ?_
                  rotate_left
                  · intro w hSw; (try dsimp only at hSw); go_simp; try (with_reducible rfl)
                  try simp only [Act.put, List.setIfInBounds_toArray, List.set_cons_zero, List.set_cons_succ]
                  refine take_runs (i := 2) (v := ?_) (by simp only [List.getElem?_toArray, List.getElem?_cons_succ, List.getElem?_cons_zero]; rfl) (by kernel_rfl) (by kernel_rfl) (by kernel_rfl) rfl (by exact fun _ _ _ h => h) (by rfl) ?_ (by assumption) ?_
                  rotate_left
                  · intro w hSw; (try dsimp only at hSw); go_simp; try (with_reducible rfl)
                  try simp only [Act.put, List.setIfInBounds_toArray, List.set_cons_zero, List.set_cons_succ]
                  refine take_runs (i := 3) (v := ?_) (by simp only [List.getElem?_toArray, List.getElem?_cons_succ, List.getElem?_cons_zero]; rfl) (by kernel_rfl) (by kernel_rfl) (by kernel_rfl) rfl (by exact fun _ _ _ h => h) (by rfl) ?_ (by assumption) ?_
                  rotate_left
                  · intro w hSw; (try dsimp only at hSw); go_simp; try (with_reducible rfl)
                  try simp only [Act.put, List.setIfInBounds_toArray, List.set_cons_zero, List.set_cons_succ]
                  refine take_runs (i := 4) (v := ?_) (by simp only [List.getElem?_toArray, List.getElem?_cons_succ, List.getElem?_cons_zero]; rfl) (by kernel_rfl) (by kernel_rfl) (by kernel_rfl) rfl (by exact fun _ _ _ h => h) (by rfl) ?_ (by assumption) ?_
                  rotate_left
                  · intro w hSw; (try dsimp only at hSw); go_simp; try (with_reducible rfl)
                  try simp only [Act.put, List.setIfInBounds_toArray, List.set_cons_zero, List.set_cons_succ]
                  refine take_runs (i := 5) (v := ?_) (by simp only [List.getElem?_toArray, List.getElem?_cons_succ, List.getElem?_cons_zero]; rfl) (by kernel_rfl) (by kernel_rfl) (by kernel_rfl) rfl (by exact fun _ _ _ h => h) (by rfl) ?_ (by assumption) ?_
                  rotate_left
                  · intro w hSw; (try dsimp only at hSw); go_simp; try (with_reducible rfl)
                  try simp only [Act.put, List.setIfInBounds_toArray, List.set_cons_zero, List.set_cons_succ]
                  refine take_runs (i := 6) (v := ?_) (by simp only [List.getElem?_toArray, List.getElem?_cons_succ, List.getElem?_cons_zero]; rfl) (by kernel_rfl) (by kernel_rfl) (by kernel_rfl) rfl (by exact fun _ _ _ h => h) (by rfl) ?_ (by assumption) ?_
                  rotate_left
                  · intro w hSw; (try dsimp only at hSw); go_simp; try (with_reducible rfl)
                  try simp only [Act.put, List.setIfInBounds_toArray, List.set_cons_zero, List.set_cons_succ]
                  refine take_runs (i := 7) (v := ?_) (by simp only [List.getElem?_toArray, List.getElem?_cons_succ, List.getElem?_cons_zero]; rfl) (by kernel_rfl) (by kernel_rfl) (by kernel_rfl) rfl (by exact fun _ _ _ h => h) (by rfl) ?_ (by assumption) ?_
                  rotate_left
                  · intro w hSw; (try dsimp only at hSw); go_simp; try (with_reducible rfl)
                  try simp only [Act.put, List.setIfInBounds_toArray, List.set_cons_zero, List.set_cons_succ]
                  refine wpAnyH_ready (rs := [8]) (by kernel_rfl) (by simp) ?_
                  refine (AllReadyH.cons (o := _) (by simp only [List.getElem?_toArray, List.getElem?_cons_succ, List.getElem?_cons_zero]; rfl) (fun K hK => ?_) AllReadyH.nil)
                  go_simp
                  refine (HCA.out (wr.drew)).mono ?_
                  rintro e w6 ⟨rfl, c6⟩
                  replace d := Lib.hid (d.out.trans (c6.mono d.out.size))
                  have Z_w6 := Lib.hid (show wr.heap.size ≤ w6.heap.size from c6.size)
                  clear c6
                  have p_C0 := (d.out.cell (p := ⟨b, off + k * 4, none⟩) HBL.out).trans C0.out
                  have p_C1 := (d.out.cell (p := ⟨b, off + k * 4 + 1, none⟩) HBL.out).trans C1.out
                  have p_C2 := (d.out.cell (p := ⟨b, off + k * 4 + 2, none⟩) HBL.out).trans C2.out
                  have p_C3 := (d.out.cell (p := ⟨b, off + k * 4 + 3, none⟩) HBL.out).trans C3.out
                  have p_E0 := (d.out.cell (p := ⟨b, off + m * 4, none⟩) HBL.out).trans E0.out
                  have p_E1 := (d.out.cell (p := ⟨b, off + m * 4 + 1, none⟩) HBL.out).trans E1.out
                  have p_E2 := (d.out.cell (p := ⟨b, off + m * 4 + 2, none⟩) HBL.out).trans E2.out
                  have p_E3 := (d.out.cell (p := ⟨b, off + m * 4 + 3, none⟩) HBL.out).trans E3.out
                  refine hK.out _ _ ⟨p_C0, p_C1, p_C2, p_C3, p_E0, p_E1, p_E2, p_E3⟩ (fun hHeld => ?_)
                  clear p_C0 p_C1 p_C2 p_C3 p_E0 p_E1 p_E2 p_E3
                  clear hK K
                  try simp only [Act.put, List.setIfInBounds_toArray, List.set_cons_zero, List.set_cons_succ]
                  refine take_runs (i := 9) (v := ?_) (by simp only [List.getElem?_toArray, List.getElem?_cons_succ, List.getElem?_cons_zero]; rfl) (by kernel_rfl) (by kernel_rfl) (by kernel_rfl) rfl (by exact fun _ _ _ h => h) (by rfl) ?_ (by assumption) ?_
                  rotate_left
                  · intro w hSw; (try dsimp only at hSw); go_simp; try (with_reducible rfl)
                  try simp only [Act.put, List.setIfInBounds_toArray, List.set_cons_zero, List.set_cons_succ]
                  refine wpAnyH_done (by kernel_rfl) ?_ _
                  clear hHeld
                  go_wp2
                  go_roundw
                  case rel => exact ⟨m + 1, by omega, by go_num, HA2, d.out⟩
                  case measure => simp [intOf]; omega
              · obtain rfl : m = k := by omega
                have HVK := Lib.hid (HST2.out hap.out)
                have HB := Lib.hid hbel
                clear hap hbel
                go_wp2
                go_roundw
                case rel => exact ⟨m + 1, by omega, by go_num, HVK, HB.out⟩
                case measure => simp [intOf]; omega
        · obtain rfl : k = l.length := by omega
          have HT : Hid (storeB ss now = true) := Lib.hid (store_yes HCN.out HNN.out HSH.out (by rw [← HLL.out]; exact hvs.out))
          have HB := Lib.hid (D1.out.trans (hbel.mono D1.out.size))
          clear hvs hbel
          go_wp2
          go_ret
          exact ⟨ret_b HT.out.symm, HB.out⟩
end Go.Proofs.Ytdhglmoanpkeoaa
namespace Go.Proofs.Ytdhglmoanpkeoaa
open Go.RowKit
set_option linter.unusedVariables false
set_option linter.unusedSimpArgs false
end Go.Proofs.Ytdhglmoanpkeoaa
namespace Go.Proofs.Ytdhglmoanpkeoaa
open Go.RowKit
set_option linter.unusedVariables false
end Go.Proofs.Ytdhglmoanpkeoaa
namespace Go.Proofs.Ytdhglmoanpkeoaa
open Go.RowKit
set_option linter.unusedVariables false
set_option linter.unusedSimpArgs false
end Go.Proofs.Ytdhglmoanpkeoaa
namespace Go.Proofs.Ytdhglmoanpkeoaa
open Go.RowKit
set_option linter.unusedVariables false
set_option linter.unusedSimpArgs false
theorem segRows_no {ss : List (List VerD)} {now g t : Int} (h : ¬ (storeB ss now = true ∧ 0 ≤ g ∧ g < ss.length)) : segRowsL ss now g t = [] := if_neg h
theorem segRows_yes {ss : List (List VerD)} {now g t : Int} (h : storeB ss now = true ∧ 0 ≤ g ∧ g < ss.length) : segRowsL ss now g t = rowsV (ss.getD g.toNat []) t := if_pos h
set_option maxHeartbeats 8000000 in
set_option maxRecDepth 100000 in
theorem specSegmentRows (sv : Value) (ss : List (List VerD)) (now g t : Int) (w : World) (h : SlR tVersionS w sv ss) (hs : zL tVersionS ss ≤ 1048576) :
    Calls Try.prog 8 #[.agg #[sv, .int .i64 now], .int .i64 g, .int .i64 t] w (FreshS 73 tRow w (segRowsL ss now g t)) := by
  have hlen := zL_len hs
  obtain ⟨a, cap, rfl⟩ := slR_len h
  have HI := Lib.hid (fun W g => specIsStore (.slice a ss.length cap) ss now W g hs)
  have H := Lib.hid h
  have HS := Lib.hid hs
  have d0 := Lib.hid (show Below w.heap.size w (w.alloc (.cells #[.slice a ss.length cap, .int .i64 now] 30)) from (Below.refl _ _).alloc (Nat.le_refl _) _)
  have B0 : Hid ((w.alloc (.cells #[.slice a ss.length cap, .int .i64 now] 30)).heap[w.heap.size]? = some (.cells #[.slice a ss.length cap, .int .i64 now] 30 (0, 0))) := Lib.hid (heap_alloc_new w _)
  have Y0 : Hid (w.heap.size < (w.alloc (.cells #[.slice a ss.length cap, .int .i64 now] 30)).heap.size) := Lib.hid (by simp [World.size_alloc])
  clear h hs
  cases hst : storeB ss now with
  | false =>
    have HE := Lib.hid (segRows_no (g := g) (t := t) (fun q => by rw [hst] at q; cases q.1))
    rw [hst] at HI
    rw [HE.out]
    clear hst
    go_enter Try.func8, Try.ntmps8
    go_wp2_with fail
    generalize w.alloc (.cells #[.slice a ss.length cap, .int .i64 now] 30) = W at *
    refine (HI.out W (slR_below tVersionS_law H.out d0.out)).mono ?_
    rintro e w1 ⟨rfl, b1⟩
    have D1 := Lib.hid (d0.out.trans (b1.mono d0.out.size))
    have k0 := (b1.block w.heap.size Y0.out).trans B0.out
    have p0 := (cell_of_row w1 _ 0 _ _ _ k0).trans (show _ = some (Value.slice a ss.length cap) from rfl)
    have p1 := (cell_of_row w1 _ 1 _ _ _ k0).trans (show _ = some (Value.int .i64 now) from rfl)
    clear b1 k0
    go_wp2
    go_ret
    exact ⟨_, rfl, slO_empty w1 73 (since w) D1.out.size, D1.out.alloc D1.out.size _⟩
  | true =>
    have HT := Lib.hid hst
    rw [hst] at HI
    clear hst
    by_cases hg : 0 ≤ g ∧ g ≤ (ss.length : Int) - 1
    · have HE := Lib.hid (segRows_yes (t := t) ⟨HT.out, hg.1, by omega⟩)
      rw [HE.out]
      obtain ⟨k, rfl⟩ := Int.eq_ofNat_of_zero_le hg.1
      have HN := Lib.hid (fun W => in_yes (k : Int) 0 ((ss.length : Int) - 1) W hg.1 hg.2)
      have hlt : k < ss.length := by omega
      have i1 : (0 : Int) ≤ (k : Int) := by omega
      have i2 : (k : Int) < (ss.length : Int) := by omega
      clear hg HE
      show Calls _ _ _ _ (FreshS _ _ _ (rowsV (ss.getD ((k : Int)).toNat []) t))
      rw [Int.toNat_natCast]
      obtain ⟨b, off, cap', cs, hv, hbl, hcs, hR⟩ := slR_at H.out hlt
      simp only [Value.slice.injEq] at hv
      obtain ⟨rfl, _, rfl⟩ := hv
      obtain ⟨u, rfl, hU⟩ := hR
      have pe : w.cell? ⟨b, off + k, none⟩ = some u := by have := hcs 0 Nat.one_pos; rw [show tVersionS.n = 1 from rfl, Nat.mul_one, Nat.add_zero] at this; exact this
      have HU : Hid (SlR tVersion w u (ss.getD k [])) := Lib.hid hU
      have HZ := Lib.hid (Nat.le_trans (zL_seg hlt) HS.out)
      have PE := Lib.hid pe
      have HBL := Lib.hid hbl
      have HUL := Lib.hid (slR_len hU)
      clear hcs hU pe hbl
      change Hid (∃ a cap, u = .slice a (ss.getD k []).length cap) at HUL
      generalize ss.getD k [] = seg at *
      obtain ⟨ua, uc, rfl⟩ := HUL.out
      clear HUL
      go_enter Try.func8, Try.ntmps8
      go_wp2_with fail
      generalize w.alloc (.cells #[.slice (some ⟨b, off, none⟩) ss.length cap, .int .i64 now] 30) = W at *
      refine (HI.out W (slR_below tVersionS_law H.out d0.out)).mono ?_
      rintro e w1 ⟨rfl, b1⟩
      have D1 := Lib.hid (d0.out.trans (b1.mono d0.out.size))
      have k0 := (b1.block w.heap.size Y0.out).trans B0.out
      have p0 := (cell_of_row w1 _ 0 _ _ _ k0).trans (show _ = some (Value.slice (some ⟨b, off, none⟩) ss.length cap) from rfl)
      have p1 := (cell_of_row w1 _ 1 _ _ _ k0).trans (show _ = some (Value.int .i64 now) from rfl)
      clear b1 k0
      go_wp2_with fail
      refine (HN.out _).mono ?_
      rintro e wx ⟨rfl, rfl⟩
      have pe := (D1.out.cell (p := ⟨b, off + k, none⟩) HBL.out).trans PE.out
      go_wp2_with fail
      refine (specL7Rows (.slice ua seg.length uc) seg t wx (slR_below tVersion_law HU.out D1.out) HZ.out).mono ?_
      rintro e w3 ⟨v3, rfl, ho, b3⟩
      have D3 := Lib.hid (D1.out.trans (b3.mono D1.out.size))
      have HO := Lib.hid ho
      clear ho p0 p1 pe
      have hb3 := D1.out.size
      go_wp2
      go_ret
      exact ⟨_, rfl, slO_mono HO.out (fun b hb => Nat.le_trans hb3 hb), D3.out⟩
    · have HE := Lib.hid (segRows_no (ss := ss) (now := now) (t := t) (g := g) (fun q => hg ⟨q.2.1, by have := q.2.2; omega⟩))
      rw [HE.out]
      have HN := Lib.hid (fun W => in_no g 0 ((ss.length : Int) - 1) W hg)
      clear hg
      go_enter Try.func8, Try.ntmps8
      go_wp2_with fail
      generalize w.alloc (.cells #[.slice a ss.length cap, .int .i64 now] 30) = W at *
      refine (HI.out W (slR_below tVersionS_law H.out d0.out)).mono ?_
      rintro e w1 ⟨rfl, b1⟩
      have D1 := Lib.hid (d0.out.trans (b1.mono d0.out.size))
      have k0 := (b1.block w.heap.size Y0.out).trans B0.out
      have p0 := (cell_of_row w1 _ 0 _ _ _ k0).trans (show _ = some (Value.slice a ss.length cap) from rfl)
      have p1 := (cell_of_row w1 _ 1 _ _ _ k0).trans (show _ = some (Value.int .i64 now) from rfl)
      clear b1 k0
      go_wp2_with fail
      refine (HN.out _).mono ?_
      rintro e wx ⟨rfl, rfl⟩
      go_wp2
      go_ret
      exact ⟨_, rfl, slO_empty wx 73 (since w) D1.out.size, D1.out.alloc D1.out.size _⟩
end Go.Proofs.Ytdhglmoanpkeoaa
namespace Go.Proofs.Ytdhglmoanpkeoaa
open Go.RowKit
set_option linter.unusedVariables false
set_option linter.unusedSimpArgs false
def tStore : Ty (List (List (Int × List Int × Int × Int)) × Int) := tPair tVersionSS tInt
theorem tStore_law : tStore.Law := tPair_law tVersionSS_law tInt_law
theorem tStore_R {w : World} {cs : List Value} {x0 : List (List (Int × List Int × Int × Int))} {a1 : Int} (h : tStore.R w cs (x0, a1)) : ∃ v0, cs = [v0, .int .i64 a1] ∧ SlR tVersionS w v0 x0 := by
  obtain ⟨_, _, rfl, ⟨v0, rfl, h0⟩, rfl⟩ := h
  exact ⟨_, rfl, h0⟩
theorem tStore_O {w : World} {F : Nat → Prop} {cs : List Value} {x0 : List (List (Int × List Int × Int × Int))} {a1 : Int} (h : tStore.O w F cs (x0, a1)) : ∃ v0, ∃ F0 : Nat → Prop, cs = [v0, .int .i64 a1] ∧ SlO 61 tVersionS w F0 v0 x0 ∧ (∀ b, F0 b → F b) := by
  obtain ⟨_, _, F0_1, F0_2, rfl, ⟨v0, rfl, h0⟩, rfl, s0_1, s0_2, d0⟩ := h
  exact ⟨v0, F0_1, rfl, h0, fun b h => (s0_1 b h)⟩
theorem tStore_mkO {w : World} {F : Nat → Prop} {x0 : List (List (Int × List Int × Int × Int))} {a1 : Int} {v0 : Value} {F0 : Nat → Prop} (h0 : SlO 61 tVersionS w F0 v0 x0) (s0 : ∀ b, F0 b → F b)  : tStore.O w F [v0, .int .i64 a1] (x0, a1) := ⟨[v0], [.int .i64 a1], F0, fun _ => False, rfl, ⟨_, rfl, h0⟩, rfl, (fun b h => s0 b h), (fun b h => (False.elim h)), (fun b h g => (False.elim g))⟩
set_option maxHeartbeats 8000000 in
set_option maxRecDepth 100000 in
theorem szStore_Y (a1 : Int) (v0 : Value) (x0 : List (List (Int × List Int × Int × Int))) (k0 : Int) (w : World) (h0 : SlR tVersionS w v0 x0) (hs : ((zL tVersionS x0 : Nat) : Int) ≤ k0) (hk : k0 ≤ 1048576) :
    Calls Try.prog 7 #[.agg #[v0, .int .i64 a1], .int .i64 k0] w fun e w' => e = .returned (.int .i64 (k0 - ((zL tVersionS x0 : Nat) : Int))) ∧ Below w.heap.size w w' := by
  have H0 := Lib.hid h0
  clear h0
  have HZ0 : Hid (((zL tVersionS x0 : Nat) : Int) ≤ k0) := Lib.hid (by omega)
  have HK0 : Hid (k0 ≤ 1048576) := Lib.hid (by omega)
  have hn0 : ¬ k0 - ((zL tVersionS x0 : Nat) : Int) < 0 := by omega
  clear hs hk
  have hb : Below w.heap.size w (w.alloc (.cells #[v0, .int .i64 a1] 24)) := (Below.refl _ w).alloc (Nat.le_refl _) _
  have g0 : (w.alloc (.cells #[v0, .int .i64 a1] 24)).heap[w.heap.size]? = some (.cells #[v0, .int .i64 a1] 24 (0, 0)) := heap_alloc_new w _
  have hz0 : w.heap.size < (w.alloc (.cells #[v0, .int .i64 a1] 24)).heap.size := by simp
  go_enter Try.func7, Try.ntmps7
  go_wp2_with fail
  generalize (w.alloc (.cells #[v0, .int .i64 a1] 24)) = W at *
  refine (szVersionSS_Y v0 x0 (k0) W (slR_below tVersionS_law H0.out hb) HZ0.out HK0.out).mono ?_
  rintro e W1 ⟨rfl, b1⟩
  replace g0 := (b1.block w.heap.size hz0).trans g0
  replace hz0 := Nat.lt_of_lt_of_le hz0 b1.size
  replace hb := hb.trans (b1.mono hb.size)
  clear b1
  go_wp2
  go_ret
  exact ⟨rfl, hb⟩
set_option maxHeartbeats 8000000 in
set_option maxRecDepth 100000 in
theorem szStore_N (a1 : Int) (v0 : Value) (x0 : List (List (Int × List Int × Int × Int))) (k0 : Int) (w : World) (h0 : SlR tVersionS w v0 x0) (hs : k0 < ((zL tVersionS x0 : Nat) : Int)) (hk : k0 ≤ 1048576) (hp : 0 ≤ k0) (o0 : tVersionSS.ok x0) :
    Calls Try.prog 7 #[.agg #[v0, .int .i64 a1], .int .i64 k0] w fun e w' => e = .returned (.int .i64 (-1)) ∧ Below w.heap.size w w' := by
  have H0 := Lib.hid h0
  clear h0
  have HO0 := Lib.hid o0
  clear o0
  have HZ0 : Hid (k0 < ((zL tVersionS x0 : Nat) : Int)) := Lib.hid (by omega)
  have HP0 : Hid (0 ≤ k0) := Lib.hid (by omega)
  have HK0 : Hid (k0 ≤ 1048576) := Lib.hid (by omega)
  clear hs hk
  clear hp
  have hb : Below w.heap.size w (w.alloc (.cells #[v0, .int .i64 a1] 24)) := (Below.refl _ w).alloc (Nat.le_refl _) _
  have g0 : (w.alloc (.cells #[v0, .int .i64 a1] 24)).heap[w.heap.size]? = some (.cells #[v0, .int .i64 a1] 24 (0, 0)) := heap_alloc_new w _
  have hz0 : w.heap.size < (w.alloc (.cells #[v0, .int .i64 a1] 24)).heap.size := by simp
  go_enter Try.func7, Try.ntmps7
  go_wp2_with fail
  generalize (w.alloc (.cells #[v0, .int .i64 a1] 24)) = W at *
  refine (szVersionSS_N v0 x0 (k0) W (slR_below tVersionS_law H0.out hb) HZ0.out HK0.out HP0.out HO0.out).mono ?_
  rintro e W1 ⟨rfl, b1⟩
  replace g0 := (b1.block w.heap.size hz0).trans g0
  replace hz0 := Nat.lt_of_lt_of_le hz0 b1.size
  replace hb := hb.trans (b1.mono hb.size)
  clear b1
  go_wp2
  go_ret
  exact ⟨rfl, hb⟩
set_option maxHeartbeats 8000000 in
set_option maxRecDepth 100000 in
theorem toStore_T (a1 : Int) (v0 : Value) (x0 : List (List (Int × List Int × Int × Int))) (w : World) (h0 : SlR tVersionS w v0 x0) (s0 : zL tVersionS x0 ≤ 1048576) :
    Calls Try.prog 9 #[.agg #[v0, .int .i64 a1]] w (FreshT tStore (fun cs => .agg cs.toArray) w (x0, a1)) := by
  have H0 := Lib.hid h0
  clear h0
  have S0 := Lib.hid s0
  clear s0
  go_enter Try.func9, Try.ntmps9
  go_wp2_with fail
  have hb : Below w.heap.size w (((w.alloc (.cells #[v0, .int .i64 a1] 24)).alloc (.cells #[.slice none 0 0, .int .i64 0] 30)).alloc (.cells #[.slice none 0 0, .int .i64 0] 30)) := (((Below.refl _ w).alloc (Nat.le_refl _) _).alloc (by simp) _).alloc (by simp; omega) _
  have g2 : (((w.alloc (.cells #[v0, .int .i64 a1] 24)).alloc (.cells #[.slice none 0 0, .int .i64 0] 30)).alloc (.cells #[.slice none 0 0, .int .i64 0] 30)).heap[w.heap.size + 1 + 1]? = some (.cells #[.slice none 0 0, .int .i64 0] 30 (0, 0)) := by
    have := heap_alloc_new ((w.alloc (.cells #[v0, .int .i64 a1] 24)).alloc (.cells #[.slice none 0 0, .int .i64 0] 30)) (.cells #[.slice none 0 0, .int .i64 0] 30)
    simpa only [World.size_alloc] using this
  have g1 : (((w.alloc (.cells #[v0, .int .i64 a1] 24)).alloc (.cells #[.slice none 0 0, .int .i64 0] 30)).alloc (.cells #[.slice none 0 0, .int .i64 0] 30)).heap[w.heap.size + 1]? = some (.cells #[.slice none 0 0, .int .i64 0] 30 (0, 0)) := by
    have := heap_alloc_new (w.alloc (.cells #[v0, .int .i64 a1] 24)) (.cells #[.slice none 0 0, .int .i64 0] 30)
    rw [Below.heap_alloc _ _ _ (by simp)]
    simpa only [World.size_alloc] using this
  have g0 : (((w.alloc (.cells #[v0, .int .i64 a1] 24)).alloc (.cells #[.slice none 0 0, .int .i64 0] 30)).alloc (.cells #[.slice none 0 0, .int .i64 0] 30)).heap[w.heap.size]? = some (.cells #[v0, .int .i64 a1] 24 (0, 0)) := by
    rw [Below.heap_alloc _ _ _ (by simp; omega), Below.heap_alloc _ _ _ (by simp)]
    exact heap_alloc_new w _
  have hz : w.heap.size + 2 < (((w.alloc (.cells #[v0, .int .i64 a1] 24)).alloc (.cells #[.slice none 0 0, .int .i64 0] 30)).alloc (.cells #[.slice none 0 0, .int .i64 0] 30)).heap.size := by simp [World.size_alloc]
  generalize (((w.alloc (.cells #[v0, .int .i64 a1] 24)).alloc (.cells #[.slice none 0 0, .int .i64 0] 30)).alloc (.cells #[.slice none 0 0, .int .i64 0] 30)) = W at *
  refine (toVersionSS_S v0 x0 W (slR_below tVersionS_law H0.out hb) S0.out).mono ?_
  rintro e w1 ⟨u0, rfl, o0, b1⟩
  obtain ⟨ua0, uc0, rfl⟩ := slO_len o0
  replace o0 := slO_mono (slO_lt tVersionS_law o0) (F' := fun b => W.heap.size ≤ b ∧ b < w1.heap.size) (fun b h => h)
  replace g0 := (b1.block _ (by omega)).trans g0
  replace g1 := (b1.block _ (by omega)).trans g1
  replace g2 := (b1.block _ (by omega)).trans g2
  have zz1 := b1.size
  replace hb := hb.trans (b1.mono (by omega))
  clear b1
  have c2_0 := (cell_of_row w1 _ 0 _ _ _ g2).trans (show _ = some (Value.slice none 0 0) from rfl)
  have f2_0 := frozen_of_row w1 _ 0 _ _ g2
  have c2_1 := (cell_of_row w1 _ 1 _ _ _ g2).trans (show _ = some (Value.int .i64 0) from rfl)
  have f2_1 := frozen_of_row w1 _ 1 _ _ g2
  have ne1 : ¬ w.heap.size = w.heap.size + 1 + 1 := by omega
  have ne2 : ¬ w.heap.size + 1 = w.heap.size + 1 + 1 := by omega
  have ne3 : ¬ w.heap.size + 1 + 1 = w.heap.size + 1 := by omega
  have c0_1 := (cell_of_row w1 _ 1 _ _ _ g0).trans (show _ = some (Value.int .i64 a1) from rfl)
  have c1_0 := (cell_of_row w1 _ 0 _ _ _ g1).trans (show _ = some (Value.slice none 0 0) from rfl)
  have f1_0 := frozen_of_row w1 _ 0 _ _ g1
  have c1_1 := (cell_of_row w1 _ 1 _ _ _ g1).trans (show _ = some (Value.int .i64 0) from rfl)
  have f1_1 := frozen_of_row w1 _ 1 _ _ g1
  have l0_1 : (w1.setCell ⟨w.heap.size + 1 + 1, 0, none⟩ (.slice ua0 x0.length uc0)).cell? ⟨w.heap.size, 1, none⟩ = some (Value.int .i64 a1) := by
    have m : (w1.setCell ⟨w.heap.size + 1 + 1, 0, none⟩ (.slice ua0 x0.length uc0)).heap[w.heap.size]? = some (.cells #[v0, .int .i64 a1] 24 (0, 0)) := by
      repeat rw [heap_setCell_other _ _ _ _ (by simp <;> omega)]
      exact g0
    exact (cell_of_row _ _ 1 _ _ _ m).trans rfl
  go_wp2
  clear c2_0 f2_0 c2_1 f2_1 ne1 ne2 ne3 c0_1 c1_0 f1_0 c1_1 f1_1 l0_1
  have hw : Turn (fun b => b = w.heap.size + 1 ∨ b = w.heap.size + 1 + 1) w1 ((((w1.setCell ⟨w.heap.size + 1 + 1, 0, none⟩ (.slice ua0 x0.length uc0)).setCell ⟨w.heap.size + 1 + 1, 1, none⟩ (.int .i64 a1)).setCell ⟨w.heap.size + 1, 0, none⟩ (.slice ua0 x0.length uc0)).setCell ⟨w.heap.size + 1, 1, none⟩ (.int .i64 a1)) := by
    first | exact (((((Turn.refl _ _).trans (turn_set (g := w.heap.size + 1 + 1) (j := 0) (u := .slice ua0 x0.length uc0) (Or.inr rfl))).trans (turn_set (g := w.heap.size + 1 + 1) (j := 1) (u := .int .i64 a1) (Or.inr rfl))).trans (turn_set (g := w.heap.size + 1) (j := 0) (u := .slice ua0 x0.length uc0) (Or.inl rfl))).trans (turn_set (g := w.heap.size + 1) (j := 1) (u := .int .i64 a1) (Or.inl rfl))) | skip
  have r := (heap_setCell_same _ (w.heap.size + 1) 1 _ _ (.int .i64 a1) (heap_setCell_same _ (w.heap.size + 1) 0 _ _ (.slice ua0 x0.length uc0) ((heap_setCell_other _ ⟨w.heap.size + 1 + 1, 1, none⟩ (w.heap.size + 1) (.int .i64 a1) (by simp)).trans ((heap_setCell_other _ ⟨w.heap.size + 1 + 1, 0, none⟩ (w.heap.size + 1) (.slice ua0 x0.length uc0) (by simp)).trans g1))))
  have e0 := cell_of_row _ _ 0 _ _ _ r
  have e1 := cell_of_row _ _ 1 _ _ _ r
  simp at e0 e1
  replace o0 := slO_turn tVersionS_law o0 hw (fun b h1 h2 => by have := h1.1; omega)
  replace hb := below_turn hb hw (fun b h => by omega) (by omega)
  refine bodyPost_ret (v := .agg #[.slice ua0 x0.length uc0, .int .i64 a1]) ?_ rfl ?_
  · simp [results, Try.f9, go_sem, e0, e1]
  · exact ⟨[.slice ua0 x0.length uc0, .int .i64 a1], rfl, tStore_mkO o0 (fun b h => by show w.heap.size ≤ b; have := h.1; omega) , hb⟩
set_option maxHeartbeats 8000000 in
set_option maxRecDepth 100000 in
theorem eqStore_T (a1 : Int) (v0 : Value) (x0 : List (List (Int × List Int × Int × Int))) (u0 : Value) (w : World) (h0 : SlR tVersionS w v0 x0) (g0 : SlR tVersionS w u0 x0) (s0 : zL tVersionS x0 ≤ 1048576) :
    Calls Try.prog 12 #[.agg #[v0, .int .i64 a1], .agg #[u0, .int .i64 a1]] w fun e w' => e = .returned (.bool true) ∧ Below w.heap.size w w' := by
  have H0 := Lib.hid h0; have G0 := Lib.hid g0; have S0 := Lib.hid s0
  clear h0 g0 s0
  have e1 : (a1 != a1) = false := by simp
  go_enter Try.func12, Try.ntmps12
  go_wp2_with fail
  have hb : Below w.heap.size w ((w.alloc (.cells #[v0, .int .i64 a1] 30)).alloc (.cells #[u0, .int .i64 a1] 30)) := ((Below.refl _ w).alloc (Nat.le_refl _) _).alloc (by simp) _
  have g1 : ((w.alloc (.cells #[v0, .int .i64 a1] 30)).alloc (.cells #[u0, .int .i64 a1] 30)).heap[w.heap.size + 1]? = some (.cells #[u0, .int .i64 a1] 30 (0, 0)) := by
    have := heap_alloc_new (w.alloc (.cells #[v0, .int .i64 a1] 30)) (.cells #[u0, .int .i64 a1] 30)
    simpa only [World.size_alloc] using this
  have g0 : ((w.alloc (.cells #[v0, .int .i64 a1] 30)).alloc (.cells #[u0, .int .i64 a1] 30)).heap[w.heap.size]? = some (.cells #[v0, .int .i64 a1] 30 (0, 0)) := by
    rw [Below.heap_alloc _ _ _ (by simp)]
    exact heap_alloc_new w _
  have hz : w.heap.size + 1 < ((w.alloc (.cells #[v0, .int .i64 a1] 30)).alloc (.cells #[u0, .int .i64 a1] 30)).heap.size := by simp [World.size_alloc]
  generalize ((w.alloc (.cells #[v0, .int .i64 a1] 30)).alloc (.cells #[u0, .int .i64 a1] 30)) = W at *
  refine (eqVersionSS_S v0 u0 x0 W (slR_below tVersionS_law H0.out hb) (slR_below tVersionS_law G0.out hb) S0.out).mono ?_
  rintro e w1 ⟨rfl, b1⟩
  replace g0 := (b1.block _ (by omega)).trans g0
  replace g1 := (b1.block _ (by omega)).trans g1
  have zz0 := b1.size
  replace hb := hb.trans (b1.mono (by omega))
  clear b1
  have p0_1 := (cell_of_row w1 _ 1 _ _ _ g0).trans (show _ = some (Value.int .i64 a1) from rfl)
  have p1_1 := (cell_of_row w1 _ 1 _ _ _ g1).trans (show _ = some (Value.int .i64 a1) from rfl)
  go_wp2
  clear p0_1 p1_1
  go_ret
  exact ⟨rfl, hb⟩
set_option maxHeartbeats 8000000 in
set_option maxRecDepth 100000 in
theorem markStore_T (a1 : Int) (v0 : Value) (x0 : List (List (Int × List Int × Int × Int))) (F F0 : Nat → Prop) (k : Int) (w : World) (h0 : SlO 61 tVersionS w F0 v0 x0) (q0 : ∀ b, F0 b → F b)  (s0 : zL tVersionS x0 ≤ 1048576) (k0 : 0 ≤ k) (k1 : k ≤ 536870912) :
    Calls Try.prog 13 #[.agg #[v0, .int .i64 a1], .int .i64 k] w fun e w' => e = .returned (.int .i64 (k + (ndL tVersionS x0 : Int))) ∧ (SlO 61 tVersionS w' F0 v0 (mAll tVersionS x0 (k))) ∧ Turn F w w' := by
  have S0 := Lib.hid s0
  have N0 := ndL_le tVersionS_law (by decide) x0
  have R0 : Hid (0 ≤ k ∧ k ≤ 939524096) := Lib.hid (by omega)
  have RE : Hid (0 ≤ k + (ndL tVersionS x0 : Int)) := Lib.hid (by omega)
  clear N0
  have O0 := Lib.hid (slO_lt tVersionS_law h0)
  clear h0 s0
  go_enter Try.func13, Try.ntmps13
  go_wp2_with fail
  have hb : Below w.heap.size w (w.alloc (.cells #[v0, .int .i64 a1] 30)) := (Below.refl _ w).alloc (Nat.le_refl _) _
  have g0 : (w.alloc (.cells #[v0, .int .i64 a1] 30)).heap[w.heap.size]? = some (.cells #[v0, .int .i64 a1] 30 (0, 0)) := heap_alloc_new w _
  have hz : w.heap.size < (w.alloc (.cells #[v0, .int .i64 a1] 30)).heap.size := by simp [World.size_alloc]
  have ht : Turn F w (w.alloc (.cells #[v0, .int .i64 a1] 30)) := turn_below hb
  replace O0 := Lib.hid (slO_fresh tVersionS_law O0.out hb)
  generalize (w.alloc (.cells #[v0, .int .i64 a1] 30)) = W at *
  refine (markVersionSS_S v0 x0 _ (k) W O0.out S0.out R0.out.1 R0.out.2).mono ?_
  rintro e w1 ⟨rfl, m0, t1⟩
  replace g0 := (t1.block _ hz (fun h => absurd h.2 (Nat.lt_irrefl _))).trans g0
  have zz0 := t1.size
  replace hz := Nat.lt_of_lt_of_le hz t1.size
  replace ht := ht.trans (t1.mono (fun b h => q0 b h.1))
  replace O0 := Lib.hid m0
  clear m0 t1
  go_wp2
  go_ret
  exact ⟨rfl, slO_mono O0.out (fun b h => h.1), ht⟩
end Go.Proofs.Ytdhglmoanpkeoaa
namespace Go.Proofs.Ytdhglmoanpkeoaa
open Go.RowKit
set_option linter.unusedVariables false
set_option linter.unusedSimpArgs false
def newP (rs : List RowD) (g : Int) : Prop := areB rs = true ∧ (1 ≤ g ∧ g ≤ 8) ∧ (rs.length : Int) ≤ 4 * g
instance (rs : List RowD) (g : Int) : Decidable (newP rs g) := by unfold newP; infer_instance
end Go.Proofs.Ytdhglmoanpkeoaa
namespace Go.Proofs.Ytdhglmoanpkeoaa
open Go.RowKit
set_option linter.unusedVariables false
set_option linter.unusedSimpArgs false
end Go.Proofs.Ytdhglmoanpkeoaa
namespace Go.Proofs.Ytdhglmoanpkeoaa
open Go.RowKit
set_option linter.unusedVariables false
set_option linter.unusedSimpArgs false
end Go.Proofs.Ytdhglmoanpkeoaa
namespace Go.Proofs.Ytdhglmoanpkeoaa
open Go.RowKit
set_option linter.unusedVariables false
set_option linter.unusedSimpArgs false
theorem rowB_three {r : RowD} (h : rowB r = true) : r.2.length = 3 := by
  unfold rowB at h
  rw [Bool.and_eq_true, Bool.and_eq_true] at h
  exact of_decide_eq_true h.2.2
theorem verB_three {v : VerD} {now : Int} (h : verB v now = true) : v.2.1.length = 3 := by
  unfold verB at h
  rw [Bool.and_eq_true] at h
  exact rowB_three h.1
theorem sum_le_mul {c : Nat} : ∀ {l : List Nat}, (∀ x ∈ l, x ≤ c) → l.sum ≤ c * l.length
  | [], _ => by simp
  | x :: l, h => by
    have h1 := h x (by simp)
    have h2 := sum_le_mul (l := l) (c := c) (fun y hy => h y (by simp [hy]))
    simp only [List.sum_cons, List.length_cons, Nat.mul_add, Nat.mul_one]
    omega
theorem zL_threes {l : List VerD} (h : ∀ j, j < l.length → (l.getD j v0D).2.1.length ≤ 3) : zL tVersion l ≤ 4 * l.length := by
  rw [zL_sum]
  have := sum_le_mul (c := 3) (l := l.map tVersion.sz) (fun x hx => by
    obtain ⟨v, hv, rfl⟩ := List.mem_map.1 hx
    obtain ⟨j, hj, rfl⟩ := List.getElem_of_mem hv
    rw [ver_sz]
    have := h j hj
    simpa [List.getD, hj] using this)
  rw [List.length_map] at this
  omega
theorem flat_short {ss : List (List VerD)} (h : ShortP ss ss.length) : ss.flatten.length ≤ 4 * ss.length := by
  rw [List.length_flatten]
  have := sum_le_mul (c := 4) (l := ss.map List.length) (fun x hx => by
    obtain ⟨s, hs, rfl⟩ := List.mem_map.1 hx
    obtain ⟨j, hj, rfl⟩ := List.getElem_of_mem hs
    have := h j hj
    simpa [List.getD, hj] using this)
  rw [List.length_map] at this
  exact this
theorem store_small {ss : List (List VerD)} {now : Int} (h : storeB ss now = true) : zL tVersionS ss ≤ 136 := by
  obtain ⟨⟨h1, _⟩, h2, h3⟩ := store_iff h
  have g1 := flat_short h2
  have g2 := zL_threes (l := ss.flatten) (fun j hj => Nat.le_of_eq (verB_three (h3 j hj).1))
  have g3 := zL_all ss
  omega
theorem segRows_size (ss : List (List VerD)) (now g t : Int) : zL tRow (segRowsL ss now g t) ≤ 1048576 := by
  by_cases h : storeB ss now = true ∧ 0 ≤ g ∧ g < ss.length
  · rw [segRows_yes h]
    have h1 := zL_rowsV (ss.getD g.toNat []) t
    have h2 := zL_seg (ss := ss) (k := g.toNat) (by have := h.2; omega)
    have h3 := store_small h.1
    omega
  · rw [segRows_no h]; exact Nat.zero_le _
/-- An answer in new memory, in the laws' words. -/
theorem fitS {t : TypeId} {α : Type} {T : Ty α} {f : Nat} {args : Array Value} {w : World} {xs : List α} (h : Calls Try.prog f args w (FreshS t T w xs)) :
    Calls Try.prog f args w (fun e w' => ∃ (g0 : Value) (G0 : Nat → Prop), e = .returned g0 ∧ SlO t T w' G0 g0 xs ∧ (∀ b, G0 b → w.heap.size ≤ b) ∧ Below w.heap.size w w') :=
  h.mono (by
    rintro e w' ⟨v, he, ho, hb⟩
    exact ⟨v, since w, he, ho, fun b hb => hb, hb⟩)
end Go.Proofs.Ytdhglmoanpkeoaa
namespace Go.Proofs.Ytdhglmoanpkeoaa
open Go.RowKit
set_option linter.unusedVariables false
set_option linter.unusedSimpArgs false
/-- The record of a row. -/
def recV (id : Int) (xs : List Int) : Value := .agg #[.int .i64 id, .int .i64 xs.length, .int .i64 (xs.getD 0 0), .int .i64 (xs.getD 1 0), .int .i64 (xs.getD 2 0)]
theorem info_size {P : Program} {e : TypeId} {z : Option Value} {n b : Nat} (h : (P.info? e).map (fun i => (i.zero, i.size, i.bytes)) = some (z, n, b)) : (P.info? e).map (·.size) = some n := by
  cases hq : P.info? e with
  | none => rw [hq] at h; simp at h
  | some i => rw [hq] at h; simp at h; simp [h.2.1]
theorem copy_src {w : World} {a : Option Addr} {cap g : Nat} {xs : List Int} (h : Ints w (.slice a xs.length cap) xs) : 0 < ((xs.take 3).map (Value.int .i64)).length → (some ⟨g, 2, none⟩ : Option Addr) = some ⟨g, 2, none⟩ ∧ ∃ ad, a = some ad ∧ ∀ j v, ((xs.take 3).map (Value.int .i64))[j]? = some v → w.cell? (ad.add j) = some v := by
  intro h0
  refine ⟨rfl, ?_⟩
  rcases h with ⟨rfl, _⟩ | ⟨b, off, cap', e, _, _, hc⟩
  · simp at h0
  · simp only [Value.slice.injEq] at e
    obtain ⟨rfl, _, _⟩ := e
    refine ⟨_, rfl, fun j v hj => ?_⟩
    rw [Go.WideShapes.add_plain]
    rw [List.getElem?_map, List.getElem?_take] at hj
    by_cases hlt : j < 3
    · rw [if_pos hlt] at hj
      by_cases hl : j < xs.length
      · rw [hc j hl]
        rw [List.getElem?_eq_getElem hl] at hj
        simpa [List.getD, hl] using hj
      · rw [List.getElem?_eq_none (by omega)] at hj
        simp at hj
    · rw [if_neg hlt] at hj
      simp at hj
theorem splice_rec (a b : Value) (xs : List Int) : splice [a, b, .int .i64 0, .int .i64 0, .int .i64 0] 2 ((xs.take 3).map (Value.int .i64)) = [a, b, .int .i64 (xs.getD 0 0), .int .i64 (xs.getD 1 0), .int .i64 (xs.getD 2 0)] := by
  match xs with
  | [] => rfl
  | [x] => rfl
  | [x, y] => rfl
  | x :: y :: z :: r => rfl
set_option maxHeartbeats 4000000 in
set_option maxRecDepth 100000 in
theorem recordOf_any (id : Int) (vv : Value) (xs : List Int) (w : World) (h : Ints w vv xs) (hn : xs.length ≤ 1048576) :
    Calls Try.prog 146 #[.agg #[.int .i64 id, vv]] w fun e w' => e = .returned (recV id xs) ∧ Below w.heap.size w w' := by
  have H := Lib.hid h
  have HN := Lib.hid hn
  obtain ⟨va, vcap, rfl⟩ := ints_len h
  clear h hn
  go_enter Try.func146, Try.ntmps146
  go_wp2
  have hh : Below w.heap.size w (((w.alloc (.cells #[.int .i64 id, .slice va xs.length vcap] 73)).alloc (.cells #[.int .i64 0, .int .i64 0, .int .i64 0, .int .i64 0, .int .i64 0] 174)).alloc (.cells #[.int .i64 id, .int .i64 xs.length, .int .i64 0, .int .i64 0, .int .i64 0] 174)) := (((Below.refl _ w).alloc (Nat.le_refl _) _).alloc (by simp) _).alloc (by simp; omega) _
  have g2 : (((w.alloc (.cells #[.int .i64 id, .slice va xs.length vcap] 73)).alloc (.cells #[.int .i64 0, .int .i64 0, .int .i64 0, .int .i64 0, .int .i64 0] 174)).alloc (.cells #[.int .i64 id, .int .i64 xs.length, .int .i64 0, .int .i64 0, .int .i64 0] 174)).heap[w.heap.size + 2]? = some (.cells #[.int .i64 id, .int .i64 xs.length, .int .i64 0, .int .i64 0, .int .i64 0] 174 (0, 0)) := by
    have := heap_alloc_new ((w.alloc (.cells #[.int .i64 id, .slice va xs.length vcap] 73)).alloc (.cells #[.int .i64 0, .int .i64 0, .int .i64 0, .int .i64 0, .int .i64 0] 174)) (.cells #[.int .i64 id, .int .i64 xs.length, .int .i64 0, .int .i64 0, .int .i64 0] 174)
    simpa only [World.size_alloc] using this
  have g1 : (((w.alloc (.cells #[.int .i64 id, .slice va xs.length vcap] 73)).alloc (.cells #[.int .i64 0, .int .i64 0, .int .i64 0, .int .i64 0, .int .i64 0] 174)).alloc (.cells #[.int .i64 id, .int .i64 xs.length, .int .i64 0, .int .i64 0, .int .i64 0] 174)).heap[w.heap.size + 1]? = some (.cells #[.int .i64 0, .int .i64 0, .int .i64 0, .int .i64 0, .int .i64 0] 174 (0, 0)) := by
    rw [Below.heap_alloc _ _ _ (by simp)]
    have := heap_alloc_new (w.alloc (.cells #[.int .i64 id, .slice va xs.length vcap] 73)) (.cells #[.int .i64 0, .int .i64 0, .int .i64 0, .int .i64 0, .int .i64 0] 174)
    simpa only [World.size_alloc] using this
  have g0 : (((w.alloc (.cells #[.int .i64 id, .slice va xs.length vcap] 73)).alloc (.cells #[.int .i64 0, .int .i64 0, .int .i64 0, .int .i64 0, .int .i64 0] 174)).alloc (.cells #[.int .i64 id, .int .i64 xs.length, .int .i64 0, .int .i64 0, .int .i64 0] 174)).heap[w.heap.size]? = some (.cells #[.int .i64 id, .slice va xs.length vcap] 73 (0, 0)) := by
    rw [Below.heap_alloc _ _ _ (by simp; omega), Below.heap_alloc _ _ _ (by simp)]
    exact heap_alloc_new w _
  have hs : (((w.alloc (.cells #[.int .i64 id, .slice va xs.length vcap] 73)).alloc (.cells #[.int .i64 0, .int .i64 0, .int .i64 0, .int .i64 0, .int .i64 0] 174)).alloc (.cells #[.int .i64 id, .int .i64 xs.length, .int .i64 0, .int .i64 0, .int .i64 0] 174)).heap.size = w.heap.size + 3 := by simp [World.size_alloc]
  generalize (((w.alloc (.cells #[.int .i64 id, .slice va xs.length vcap] 73)).alloc (.cells #[.int .i64 0, .int .i64 0, .int .i64 0, .int .i64 0, .int .i64 0] 174)).alloc (.cells #[.int .i64 id, .int .i64 xs.length, .int .i64 0, .int .i64 0, .int .i64 0] 174)) = W at *
  have b0 := cell_of_row W _ 1 _ _ _ g0
  simp at b0
  have I2 := ints_below H.out hh
  refine wp_region_held_drew (S := fun w' => w'.cell? ⟨w.heap.size, 1, none⟩ = some (.slice va xs.length vcap)) (by kernel_rfl) b0 (fun hHeld => ?_)
  refine take_runs (i := 0) (v := ?_) (by simp only [List.getElem?_toArray, List.getElem?_cons_succ, List.getElem?_cons_zero]; rfl) (by kernel_rfl) (by kernel_rfl) (by kernel_rfl) rfl (by exact fun _ _ _ h => h) (by rfl) ?_ (by assumption) ?_
  rotate_left
  · intro w hSw; (try dsimp only at hSw); go_simp; try (with_reducible rfl)
  try simp only [Act.put, List.setIfInBounds_toArray, List.set_cons_zero, List.set_cons_succ]
  refine take_runs (i := 1) (v := ?_) (by simp only [List.getElem?_toArray, List.getElem?_cons_succ, List.getElem?_cons_zero]; rfl) (by kernel_rfl) (by kernel_rfl) (by kernel_rfl) rfl (by exact fun _ _ _ h => h) (by rfl) ?_ (by assumption) ?_
  rotate_left
  · intro w hSw; (try dsimp only at hSw); go_simp; try (with_reducible rfl)
  try simp only [Act.put, List.setIfInBounds_toArray, List.set_cons_zero, List.set_cons_succ]
  refine take_runs (i := 2) (v := ?_) (by simp only [List.getElem?_toArray, List.getElem?_cons_succ, List.getElem?_cons_zero]; rfl) (by kernel_rfl) (by kernel_rfl) (by kernel_rfl) rfl (by exact fun _ _ _ h => h) (by rfl) ?_ (by assumption) ?_
  rotate_left
  · intro w hSw; (try dsimp only at hSw); go_simp; try (with_reducible rfl)
  try simp only [Act.put, List.setIfInBounds_toArray, List.set_cons_zero, List.set_cons_succ]
  refine take_runs (i := 3) (v := ?_) (by simp only [List.getElem?_toArray, List.getElem?_cons_succ, List.getElem?_cons_zero]; rfl) (by kernel_rfl) (by kernel_rfl) (by kernel_rfl) rfl (by exact fun _ _ _ h => h) (by rfl) ?_ (by assumption) ?_
  rotate_left
  · intro w hSw; (try dsimp only at hSw); go_simp; try (with_reducible rfl)
  try simp only [Act.put, List.setIfInBounds_toArray, List.set_cons_zero, List.set_cons_succ]
  refine wpAnyH_ready (rs := [4]) (by kernel_rfl) (by simp) ?_
  refine AllReadyH.cons (o := _) (by simp only [List.getElem?_toArray, List.getElem?_cons_succ, List.getElem?_cons_zero]; rfl) (fun K hK => ?_) AllReadyH.nil
  refine step_copy_splice rfl (.tmp 11) (.tmp 13) 37 37 rfl 3 Try.underlying37 (info_size Try.infoI64) _ _ _ _ _ _ rfl rfl (w.heap.size + 2) 2 [.int .i64 id, .int .i64 xs.length, .int .i64 0, .int .i64 0, .int .i64 0] _ g2 ((xs.take 3).map (Value.int .i64)) (by simp [Nat.min_comm]) (copy_src I2) (by simp; omega) (fun u hu => by obtain ⟨y, _, rfl⟩ := List.mem_map.1 hu; rfl) (w.heap.size + 2) W (below_drew (Below.refl _ W)) (Nat.le_refl _) ?_
  intro W2 G2 bA
  rw [splice_rec] at G2
  have k0 := (bA.block w.heap.size (by omega)).trans g0
  have b1 := cell_of_row W2 _ 1 _ _ _ k0
  simp at b1
  refine hK.out _ _ b1 (fun hHeld2 => ?_)
  clear hK K hHeld
  try simp only [Act.put, List.setIfInBounds_toArray, List.set_cons_zero, List.set_cons_succ]
  refine wpAnyH_done (by kernel_rfl) ?_ _
  have k1 := (bA.block (w.heap.size + 1) (by omega)).trans g1
  have k2 := G2.out
  have hbb := hh.trans (bA.mono (by omega))
  clear G2 bA g0 g1 g2 I2 hHeld2 b0 b1 k0 hh hs
  obtain ⟨n, hn2⟩ : ∃ n : Nat, n = xs.length := ⟨_, rfl⟩
  have c0 := cell_of_row W2 _ 0 _ _ _ k2
  have d0 := cell_of_row W2 _ 0 _ _ _ k1
  have f0 := frozen_of_row W2 _ 0 _ _ k1
  have c1 := cell_of_row W2 _ 1 _ _ _ k2
  have d1 := cell_of_row W2 _ 1 _ _ _ k1
  have f1 := frozen_of_row W2 _ 1 _ _ k1
  have c2 := cell_of_row W2 _ 2 _ _ _ k2
  have d2 := cell_of_row W2 _ 2 _ _ _ k1
  have f2 := frozen_of_row W2 _ 2 _ _ k1
  have c3 := cell_of_row W2 _ 3 _ _ _ k2
  have d3 := cell_of_row W2 _ 3 _ _ _ k1
  have f3 := frozen_of_row W2 _ 3 _ _ k1
  have c4 := cell_of_row W2 _ 4 _ _ _ k2
  have d4 := cell_of_row W2 _ 4 _ _ _ k1
  have f4 := frozen_of_row W2 _ 4 _ _ k1
  simp at c0 c1 c2 c3 c4 d0 d1 d2 d3 d4
  clear k2 hn2
  generalize hx0 : xs[0]?.getD 0 = x0 at c2
  generalize hx1 : xs[1]?.getD 0 = x1 at c3
  generalize hx2 : xs[2]?.getD 0 = x2 at c4
  have HX := Lib.hid (And.intro hx0 (And.intro hx1 hx2))
  clear hx0 hx1 hx2
  go_wp2
  have r0 := heap_setCell_same W2 (w.heap.size + 1) 0 _ _ (.int .i64 id) k1
  have r1 := heap_setCell_same _ (w.heap.size + 1) 1 _ _ (.int .i64 xs.length) r0
  have r2 := heap_setCell_same _ (w.heap.size + 1) 2 _ _ (.int .i64 x0) r1
  have r3 := heap_setCell_same _ (w.heap.size + 1) 3 _ _ (.int .i64 x1) r2
  have r4 := heap_setCell_same _ (w.heap.size + 1) 4 _ _ (.int .i64 x2) r3
  have B4 := (((((hbb.setCell (p := ⟨w.heap.size + 1, 0, none⟩) (by simp) (.int .i64 id)).setCell (p := ⟨w.heap.size + 1, 1, none⟩) (by simp) (.int .i64 xs.length)).setCell (p := ⟨w.heap.size + 1, 2, none⟩) (by simp) (.int .i64 x0)).setCell (p := ⟨w.heap.size + 1, 3, none⟩) (by simp) (.int .i64 x1)).setCell (p := ⟨w.heap.size + 1, 4, none⟩) (by simp) (.int .i64 x2))
  clear r0 r1 r2 r3 k1
  have e0 := cell_of_row _ _ 0 _ _ _ r4
  have e1 := cell_of_row _ _ 1 _ _ _ r4
  have e2 := cell_of_row _ _ 2 _ _ _ r4
  have e3 := cell_of_row _ _ 3 _ _ _ r4
  have e4 := cell_of_row _ _ 4 _ _ _ r4
  simp at e0 e1 e2 e3 e4
  clear r4
  refine bodyPost_ret (v := .agg #[.int .i64 id, .int .i64 xs.length, .int .i64 x0, .int .i64 x1, .int .i64 x2]) ?_ rfl ?_
  · simp [results, Try.f146, go_sem, e0, e1, e2, e3, e4]
  · obtain ⟨rfl, rfl, rfl⟩ := HX.out
    exact ⟨by simp [recV], B4⟩
end Go.Proofs.Ytdhglmoanpkeoaa
namespace Go.Proofs.Ytdhglmoanpkeoaa
open Go.RowKit
set_option linter.unusedVariables false
set_option linter.unusedSimpArgs false
/-- A value moved into the range. -/
def limI (x : Int) : Int := min (max x 0) 99
theorem idx0 (a b c : Int) (w : World) : Sem.run Try.prog (Instr.index 172 (.agg #[.int .i64 a, .int .i64 b, .int .i64 c]) (.int .i64 0)) w = .ok (.int .i64 a) w := by
  have u := Try.underlying172
  have z := Try.sizeOf3
  have g := Try.isAgg3
  unfold Instr.index
  go_simp
theorem idx1 (a b c : Int) (w : World) : Sem.run Try.prog (Instr.index 172 (.agg #[.int .i64 a, .int .i64 b, .int .i64 c]) (.int .i64 1)) w = .ok (.int .i64 b) w := by
  have u := Try.underlying172
  have z := Try.sizeOf3
  have g := Try.isAgg3
  unfold Instr.index
  go_simp
theorem idx2 (a b c : Int) (w : World) : Sem.run Try.prog (Instr.index 172 (.agg #[.int .i64 a, .int .i64 b, .int .i64 c]) (.int .i64 2)) w = .ok (.int .i64 c) w := by
  have u := Try.underlying172
  have z := Try.sizeOf3
  have g := Try.isAgg3
  unfold Instr.index
  go_simp
set_option maxHeartbeats 4000000 in
set_option maxRecDepth 100000 in
theorem limited_any (a b c : Int) (w : World) :
    Calls Try.prog 152 #[.agg #[.int .i64 a, .int .i64 b, .int .i64 c]] w fun e w' => e = .returned (.agg #[.int .i64 (limI a), .int .i64 (limI b), .int .i64 (limI c)]) ∧ Below w.heap.size w w' := by
  have i0 := idx0 a b c
  have i1 := idx1 a b c
  have i2 := idx2 a b c
  go_enter Try.func152, Try.ntmps152
  go_wp2
  refine wp_loop_rounds 4 ?_
  rw [rounds_succ]
  go_wp2
  rw [rounds_succ]
  go_wp2
  rw [rounds_succ]
  go_wp2
  rw [rounds_succ]
  go_wp2
  refine bodyPost_ret (v := .agg #[.int .i64 (limI a), .int .i64 (limI b), .int .i64 (limI c)]) ?_ rfl ?_
  · simp [results, Try.f152, go_sem, limI]
  refine ⟨rfl, ?_⟩
  exact ((Below.refl _ w).alloc (Nat.le_refl _) _).alloc (by simp) _
end Go.Proofs.Ytdhglmoanpkeoaa
namespace Go.Proofs.Ytdhglmoanpkeoaa
open Go.RowKit
set_option linter.unusedVariables false
set_option linter.unusedSimpArgs false
theorem eqIn_arr (d : Nat) (a b c x y z : Int) (w : World) : (Op.equalIn (d + 2) 172 (.agg #[.int .i64 a, .int .i64 b, .int .i64 c]) (.agg #[.int .i64 x, .int .i64 y, .int .i64 z])).run Try.prog w = .ok (a == x && b == y && c == z) w := by
  have u := Try.underlying172
  have u3 := Try.underlying3
  have z3 := Try.sizeOf3
  have g := Try.isAgg3
  rw [Op.equalIn]
  simp only [Sem.run_bind, run_underlying u, Result.andThen_ok, z3]
  simp only [Std.Legacy.Range.forIn_eq_forIn_range', Std.Legacy.Range.size]
  simp [List.range', g, z3, go_sem, run_equalIn_int (P := Try.prog) _ d _ _ _ _ _ u3]
  by_cases h1 : a = x <;> by_cases h2 : b = y <;> by_cases h3 : c = z <;> simp [h1, h2, h3]
theorem eql_arr (a b c x y z : Int) (w : World) : Sem.run Try.prog (binOp .eql 172 (.agg #[.int .i64 a, .int .i64 b, .int .i64 c]) (.agg #[.int .i64 x, .int .i64 y, .int .i64 z])) w = .ok (.bool (a == x && b == y && c == z)) w := by
  rw [run_eql_struct, show (10000 : Nat) = 9998 + 2 from rfl, eqIn_arr]
  rfl
theorem guard_arr (o1 o2 : Operand) (xs ys : Array Value) (w : World) : Sem.run Try.prog (eqGuard .eql 172 o1 o2 (.agg xs) (.agg ys)) w = .ok () w := run_eqGuard_agg w _ _ _ _ _ _ (by kernel_rfl)
end Go.Proofs.Ytdhglmoanpkeoaa
namespace Go.Proofs.Ytdhglmoanpkeoaa
open Go.RowKit
set_option linter.unusedVariables false
set_option linter.unusedSimpArgs false
theorem isRowId_yes (id : Int) (w : World) (h1 : 0 ≤ id) (h2 : id ≤ 999) : Calls Try.prog 151 #[.int .i64 id] w fun e w' => e = .returned (.bool true) ∧ w' = w := by
  go_enter Try.func151, Try.ntmps151
  go_wp2
  go_ret
  exact ⟨rfl, rfl⟩
theorem isRowId_no (id : Int) (w : World) (h : ¬ (0 ≤ id ∧ id ≤ 999)) : Calls Try.prog 151 #[.int .i64 id] w fun e w' => e = .returned (.bool false) ∧ w' = w := by
  by_cases h1 : 0 ≤ id
  · have h2 : ¬ id ≤ 999 := fun g => h ⟨h1, g⟩
    clear h
    go_enter Try.func151, Try.ntmps151
    go_wp2
    go_ret
    exact ⟨rfl, rfl⟩
  · clear h
    go_enter Try.func151, Try.ntmps151
    go_wp2
    go_ret
    exact ⟨rfl, rfl⟩
/-- Is a record valid? -/
def recB (id n a b c : Int) : Bool := decide (0 ≤ id ∧ id ≤ 999) && (decide (n = 3) && (a == limI a && b == limI b && c == limI c))
theorem lim_in (x : Int) : (x == limI x) = decide (0 ≤ x ∧ x ≤ 99) := by
  unfold limI
  by_cases h : 0 ≤ x ∧ x ≤ 99
  · rw [decide_eq_true h, beq_iff_eq]; omega
  · rw [decide_eq_false h, beq_eq_false_iff_ne]; omega
theorem recB_row (id : Int) (xs : List Int) : recB id xs.length (xs.getD 0 0) (xs.getD 1 0) (xs.getD 2 0) = rowB (id, xs) := by
  unfold recB rowB
  simp only [lim_in]
  match xs with
  | [] => simp
  | [x] => simp
  | [x, y] => simp
  | [x, y, z] => simp [List.all, Bool.and_assoc]
  | x :: y :: z :: u :: r =>
    have : ¬ ((r.length : Int) + 1 + 1 + 1 + 1 = 3) := by omega
    simp [this]
theorem below_from {W w8 w9 : World} (h : w8 = W.drew) (b : Below w8.heap.size w8 w9) : Below W.heap.size W w9 := by subst h; exact ⟨b.os, b.tape, b.output, b.size, b.block⟩
set_option maxHeartbeats 8000000 in
set_option maxRecDepth 100000 in
theorem isValid_id (id n a b c : Int) (w : World) (h : ¬ (0 ≤ id ∧ id ≤ 999)) :
    Calls Try.prog 148 #[.agg #[.int .i64 id, .int .i64 n, .int .i64 a, .int .i64 b, .int .i64 c]] w fun e w' => e = .returned (.bool (false)) ∧ Below w.heap.size w w' := by
  have HI := Lib.hid (fun w => isRowId_no id w h)
  clear h
  go_enter Try.func148, Try.ntmps148
  go_wp2
  have hh : Below w.heap.size w (w.alloc (.cells #[.int .i64 id, .int .i64 n, .int .i64 a, .int .i64 b, .int .i64 c] 174)) := (Below.refl _ w).alloc (Nat.le_refl _) _
  have g0 := heap_alloc_new w (.cells #[.int .i64 id, .int .i64 n, .int .i64 a, .int .i64 b, .int .i64 c] 174)
  have hlt : w.heap.size < (w.alloc (.cells #[.int .i64 id, .int .i64 n, .int .i64 a, .int .i64 b, .int .i64 c] 174)).heap.size := by simp
  generalize w.alloc (.cells #[.int .i64 id, .int .i64 n, .int .i64 a, .int .i64 b, .int .i64 c] 174) = W at *
  have q0 := cell_of_row W _ 0 _ _ _ g0
  have q1 := cell_of_row W _ 1 _ _ _ g0
  have q2 := cell_of_row W _ 2 _ _ _ g0
  have q3 := cell_of_row W _ 3 _ _ _ g0
  have q4 := cell_of_row W _ 4 _ _ _ g0
  simp at q0 q1 q2 q3 q4
  refine wp_region_held_drew (S := fun w' => w'.cell? ⟨w.heap.size, 0, none⟩ = some (.int .i64 id) ∧ w'.cell? ⟨w.heap.size, 1, none⟩ = some (.int .i64 n) ∧ w'.cell? ⟨w.heap.size, 2, none⟩ = some (.int .i64 a) ∧ w'.cell? ⟨w.heap.size, 3, none⟩ = some (.int .i64 b) ∧ w'.cell? ⟨w.heap.size, 4, none⟩ = some (.int .i64 c)) (by kernel_rfl) ⟨q0, q1, q2, q3, q4⟩ (fun hHeld => ?_)
  refine take_runs (i := 0) (v := ?_) (by simp only [List.getElem?_toArray, List.getElem?_cons_succ, List.getElem?_cons_zero]; rfl) (by kernel_rfl) (by kernel_rfl) (by kernel_rfl) rfl (by exact fun _ _ _ h => h) (by rfl) ?_ (by assumption) ?_
  rotate_left
  · intro w hSw; (try dsimp only at hSw); go_simp; try (with_reducible rfl)
  try simp only [Act.put, List.setIfInBounds_toArray, List.set_cons_zero, List.set_cons_succ]
  refine take_runs (i := 1) (v := ?_) (by simp only [List.getElem?_toArray, List.getElem?_cons_succ, List.getElem?_cons_zero]; rfl) (by kernel_rfl) (by kernel_rfl) (by kernel_rfl) rfl (by exact fun _ _ _ h => h) (by rfl) ?_ (by assumption) ?_
  rotate_left
  · intro w hSw; (try dsimp only at hSw); go_simp; try (with_reducible rfl)
  try simp only [Act.put, List.setIfInBounds_toArray, List.set_cons_zero, List.set_cons_succ]
  refine wpAnyH_ready (rs := [2]) (by kernel_rfl) (by simp) ?_
  refine AllReadyH.cons (o := _) (by simp only [List.getElem?_toArray, List.getElem?_cons_succ, List.getElem?_cons_zero]; rfl) (fun K hK => ?_) AllReadyH.nil
  go_simp
  refine (HI.out _).mono ?_
  rintro e w8 ⟨rfl, rfl⟩
  refine hK.out _ _ ⟨q0, q1, q2, q3, q4⟩ (fun hHeld => ?_)
  clear hK K
  try simp only [Act.put, List.setIfInBounds_toArray, List.set_cons_zero, List.set_cons_succ]
  refine take_runs (i := 3) (v := ?_) (by simp only [List.getElem?_toArray, List.getElem?_cons_succ, List.getElem?_cons_zero]; rfl) (by kernel_rfl) (by kernel_rfl) (by kernel_rfl) rfl (by exact fun _ _ _ h => h) (by rfl) ?_ (by assumption) ?_
  rotate_left
  · intro w hSw; (try dsimp only at hSw); go_simp; try (with_reducible rfl)
  try simp only [Act.put, List.setIfInBounds_toArray, List.set_cons_zero, List.set_cons_succ]
  refine take_over (i := 4) (by simp only [List.getElem?_toArray, List.getElem?_cons_succ, List.getElem?_cons_zero]; rfl) (by kernel_rfl) (by kernel_rfl) (by kernel_rfl) rfl (by exact fun _ _ _ h => h) (by rfl) (by assumption) ?_
  try simp only [Act.put, List.setIfInBounds_toArray, List.set_cons_zero, List.set_cons_succ]
  refine take_over (i := 5) (by simp only [List.getElem?_toArray, List.getElem?_cons_succ, List.getElem?_cons_zero]; rfl) (by kernel_rfl) (by kernel_rfl) (by kernel_rfl) rfl (by exact fun _ _ _ h => h) (by rfl) (by assumption) ?_
  try simp only [Act.put, List.setIfInBounds_toArray, List.set_cons_zero, List.set_cons_succ]
  refine take_over (i := 6) (by simp only [List.getElem?_toArray, List.getElem?_cons_succ, List.getElem?_cons_zero]; rfl) (by kernel_rfl) (by kernel_rfl) (by kernel_rfl) rfl (by exact fun _ _ _ h => h) (by rfl) (by assumption) ?_
  try simp only [Act.put, List.setIfInBounds_toArray, List.set_cons_zero, List.set_cons_succ]
  refine take_runs (i := 7) (v := ?_) (by simp only [List.getElem?_toArray, List.getElem?_cons_succ, List.getElem?_cons_zero]; rfl) (by kernel_rfl) (by kernel_rfl) (by kernel_rfl) rfl (by exact fun _ _ _ h => h) (by rfl) ?_ (by assumption) ?_
  rotate_left
  · intro w hSw; (try dsimp only at hSw); go_simp; try (with_reducible rfl)
  try simp only [Act.put, List.setIfInBounds_toArray, List.set_cons_zero, List.set_cons_succ]
  refine take_runs (i := 8) (v := ?_) (by simp only [List.getElem?_toArray, List.getElem?_cons_succ, List.getElem?_cons_zero]; rfl) (by kernel_rfl) (by kernel_rfl) (by kernel_rfl) rfl (by exact fun _ _ _ h => h) (by rfl) ?_ (by assumption) ?_
  rotate_left
  · intro w hSw; (try dsimp only at hSw); go_simp; try (with_reducible rfl)
  try simp only [Act.put, List.setIfInBounds_toArray, List.set_cons_zero, List.set_cons_succ]
  refine take_over (i := 9) (by simp only [List.getElem?_toArray, List.getElem?_cons_succ, List.getElem?_cons_zero]; rfl) (by kernel_rfl) (by kernel_rfl) (by kernel_rfl) rfl (by exact fun _ _ _ h => h) (by rfl) (by assumption) ?_
  try simp only [Act.put, List.setIfInBounds_toArray, List.set_cons_zero, List.set_cons_succ]
  refine take_over (i := 10) (by simp only [List.getElem?_toArray, List.getElem?_cons_succ, List.getElem?_cons_zero]; rfl) (by kernel_rfl) (by kernel_rfl) (by kernel_rfl) rfl (by exact fun _ _ _ h => h) (by rfl) (by assumption) ?_
  try simp only [Act.put, List.setIfInBounds_toArray, List.set_cons_zero, List.set_cons_succ]
  refine take_over (i := 11) (by simp only [List.getElem?_toArray, List.getElem?_cons_succ, List.getElem?_cons_zero]; rfl) (by kernel_rfl) (by kernel_rfl) (by kernel_rfl) rfl (by exact fun _ _ _ h => h) (by rfl) (by assumption) ?_
  try simp only [Act.put, List.setIfInBounds_toArray, List.set_cons_zero, List.set_cons_succ]
  refine take_over (i := 12) (by simp only [List.getElem?_toArray, List.getElem?_cons_succ, List.getElem?_cons_zero]; rfl) (by kernel_rfl) (by kernel_rfl) (by kernel_rfl) rfl (by exact fun _ _ _ h => h) (by rfl) (by assumption) ?_
  try simp only [Act.put, List.setIfInBounds_toArray, List.set_cons_zero, List.set_cons_succ]
  refine take_over (i := 13) (by simp only [List.getElem?_toArray, List.getElem?_cons_succ, List.getElem?_cons_zero]; rfl) (by kernel_rfl) (by kernel_rfl) (by kernel_rfl) rfl (by exact fun _ _ _ h => h) (by rfl) (by assumption) ?_
  try simp only [Act.put, List.setIfInBounds_toArray, List.set_cons_zero, List.set_cons_succ]
  refine take_over (i := 14) (by simp only [List.getElem?_toArray, List.getElem?_cons_succ, List.getElem?_cons_zero]; rfl) (by kernel_rfl) (by kernel_rfl) (by kernel_rfl) rfl (by exact fun _ _ _ h => h) (by rfl) (by assumption) ?_
  try simp only [Act.put, List.setIfInBounds_toArray, List.set_cons_zero, List.set_cons_succ]
  refine take_runs (i := 15) (v := ?_) (by simp only [List.getElem?_toArray, List.getElem?_cons_succ, List.getElem?_cons_zero]; rfl) (by kernel_rfl) (by kernel_rfl) (by kernel_rfl) rfl (by exact fun _ _ _ h => h) (by rfl) ?_ (by assumption) ?_
  rotate_left
  · intro w hSw; (try dsimp only at hSw); go_simp; try (with_reducible rfl)
  try simp only [Act.put, List.setIfInBounds_toArray, List.set_cons_zero, List.set_cons_succ]
  refine take_runs (i := 16) (v := ?_) (by simp only [List.getElem?_toArray, List.getElem?_cons_succ, List.getElem?_cons_zero]; rfl) (by kernel_rfl) (by kernel_rfl) (by kernel_rfl) rfl (by exact fun _ _ _ h => h) (by rfl) ?_ (by assumption) ?_
  rotate_left
  · intro w hSw; (try dsimp only at hSw); go_simp; try (with_reducible rfl)
  try simp only [Act.put, List.setIfInBounds_toArray, List.set_cons_zero, List.set_cons_succ]
  refine wpAnyH_done (by kernel_rfl) ?_ _
  have b11 : Below w.heap.size w W.drew := below_drew hh
  clear hHeld
  go_wp2
  go_ret
  exact ⟨rfl, b11⟩
set_option maxHeartbeats 8000000 in
set_option maxRecDepth 100000 in
theorem isValid_count (id n a b c : Int) (w : World) (h1 : 0 ≤ id) (h2 : id ≤ 999) (h3 : ¬ n = 3) :
    Calls Try.prog 148 #[.agg #[.int .i64 id, .int .i64 n, .int .i64 a, .int .i64 b, .int .i64 c]] w fun e w' => e = .returned (.bool (false)) ∧ Below w.heap.size w w' := by
  have HI := Lib.hid (fun w => isRowId_yes id w h1 h2)
  clear h1 h2
  have hd : (n == 3) = false := by simpa using h3
  clear h3
  go_enter Try.func148, Try.ntmps148
  go_wp2
  have hh : Below w.heap.size w (w.alloc (.cells #[.int .i64 id, .int .i64 n, .int .i64 a, .int .i64 b, .int .i64 c] 174)) := (Below.refl _ w).alloc (Nat.le_refl _) _
  have g0 := heap_alloc_new w (.cells #[.int .i64 id, .int .i64 n, .int .i64 a, .int .i64 b, .int .i64 c] 174)
  have hlt : w.heap.size < (w.alloc (.cells #[.int .i64 id, .int .i64 n, .int .i64 a, .int .i64 b, .int .i64 c] 174)).heap.size := by simp
  generalize w.alloc (.cells #[.int .i64 id, .int .i64 n, .int .i64 a, .int .i64 b, .int .i64 c] 174) = W at *
  have q0 := cell_of_row W _ 0 _ _ _ g0
  have q1 := cell_of_row W _ 1 _ _ _ g0
  have q2 := cell_of_row W _ 2 _ _ _ g0
  have q3 := cell_of_row W _ 3 _ _ _ g0
  have q4 := cell_of_row W _ 4 _ _ _ g0
  simp at q0 q1 q2 q3 q4
  refine wp_region_held_drew (S := fun w' => w'.cell? ⟨w.heap.size, 0, none⟩ = some (.int .i64 id) ∧ w'.cell? ⟨w.heap.size, 1, none⟩ = some (.int .i64 n) ∧ w'.cell? ⟨w.heap.size, 2, none⟩ = some (.int .i64 a) ∧ w'.cell? ⟨w.heap.size, 3, none⟩ = some (.int .i64 b) ∧ w'.cell? ⟨w.heap.size, 4, none⟩ = some (.int .i64 c)) (by kernel_rfl) ⟨q0, q1, q2, q3, q4⟩ (fun hHeld => ?_)
  refine take_runs (i := 0) (v := ?_) (by simp only [List.getElem?_toArray, List.getElem?_cons_succ, List.getElem?_cons_zero]; rfl) (by kernel_rfl) (by kernel_rfl) (by kernel_rfl) rfl (by exact fun _ _ _ h => h) (by rfl) ?_ (by assumption) ?_
  rotate_left
  · intro w hSw; (try dsimp only at hSw); go_simp; try (with_reducible rfl)
  try simp only [Act.put, List.setIfInBounds_toArray, List.set_cons_zero, List.set_cons_succ]
  refine take_runs (i := 1) (v := ?_) (by simp only [List.getElem?_toArray, List.getElem?_cons_succ, List.getElem?_cons_zero]; rfl) (by kernel_rfl) (by kernel_rfl) (by kernel_rfl) rfl (by exact fun _ _ _ h => h) (by rfl) ?_ (by assumption) ?_
  rotate_left
  · intro w hSw; (try dsimp only at hSw); go_simp; try (with_reducible rfl)
  try simp only [Act.put, List.setIfInBounds_toArray, List.set_cons_zero, List.set_cons_succ]
  refine wpAnyH_ready (rs := [2]) (by kernel_rfl) (by simp) ?_
  refine AllReadyH.cons (o := _) (by simp only [List.getElem?_toArray, List.getElem?_cons_succ, List.getElem?_cons_zero]; rfl) (fun K hK => ?_) AllReadyH.nil
  go_simp
  refine (HI.out _).mono ?_
  rintro e w8 ⟨rfl, rfl⟩
  refine hK.out _ _ ⟨q0, q1, q2, q3, q4⟩ (fun hHeld => ?_)
  clear hK K
  try simp only [Act.put, List.setIfInBounds_toArray, List.set_cons_zero, List.set_cons_succ]
  refine take_runs (i := 3) (v := ?_) (by simp only [List.getElem?_toArray, List.getElem?_cons_succ, List.getElem?_cons_zero]; rfl) (by kernel_rfl) (by kernel_rfl) (by kernel_rfl) rfl (by exact fun _ _ _ h => h) (by rfl) ?_ (by assumption) ?_
  rotate_left
  · intro w hSw; (try dsimp only at hSw); go_simp; try (with_reducible rfl)
  try simp only [Act.put, List.setIfInBounds_toArray, List.set_cons_zero, List.set_cons_succ]
  refine take_runs (i := 4) (v := ?_) (by simp only [List.getElem?_toArray, List.getElem?_cons_succ, List.getElem?_cons_zero]; rfl) (by kernel_rfl) (by kernel_rfl) (by kernel_rfl) rfl (by exact fun _ _ _ h => h) (by rfl) ?_ (by assumption) ?_
  rotate_left
  · intro w hSw; (try dsimp only at hSw); go_simp; try (with_reducible rfl)
  try simp only [Act.put, List.setIfInBounds_toArray, List.set_cons_zero, List.set_cons_succ]
  refine take_runs (i := 5) (v := ?_) (by simp only [List.getElem?_toArray, List.getElem?_cons_succ, List.getElem?_cons_zero]; rfl) (by kernel_rfl) (by kernel_rfl) (by kernel_rfl) rfl (by exact fun _ _ _ h => h) (by rfl) ?_ (by assumption) ?_
  rotate_left
  · intro w hSw; (try dsimp only at hSw); go_simp; try (with_reducible rfl)
  try simp only [Act.put, List.setIfInBounds_toArray, List.set_cons_zero, List.set_cons_succ]
  refine take_runs (i := 6) (v := ?_) (by simp only [List.getElem?_toArray, List.getElem?_cons_succ, List.getElem?_cons_zero]; rfl) (by kernel_rfl) (by kernel_rfl) (by kernel_rfl) rfl (by exact fun _ _ _ h => h) (by rfl) ?_ (by assumption) ?_
  rotate_left
  · intro w hSw; (try dsimp only at hSw); go_simp; try (with_reducible rfl)
  try simp only [Act.put, List.setIfInBounds_toArray, List.set_cons_zero, List.set_cons_succ]
  refine take_runs (i := 7) (v := ?_) (by simp only [List.getElem?_toArray, List.getElem?_cons_succ, List.getElem?_cons_zero]; rfl) (by kernel_rfl) (by kernel_rfl) (by kernel_rfl) rfl (by exact fun _ _ _ h => h) (by rfl) ?_ (by assumption) ?_
  rotate_left
  · intro w hSw; (try dsimp only at hSw); go_simp; try (with_reducible rfl)
  try simp only [Act.put, List.setIfInBounds_toArray, List.set_cons_zero, List.set_cons_succ]
  refine take_runs (i := 8) (v := ?_) (by simp only [List.getElem?_toArray, List.getElem?_cons_succ, List.getElem?_cons_zero]; rfl) (by kernel_rfl) (by kernel_rfl) (by kernel_rfl) rfl (by exact fun _ _ _ h => h) (by rfl) ?_ (by assumption) ?_
  rotate_left
  · intro w hSw; (try dsimp only at hSw); go_simp; try (with_reducible rfl)
  try simp only [Act.put, List.setIfInBounds_toArray, List.set_cons_zero, List.set_cons_succ]
  refine take_over (i := 9) (by simp only [List.getElem?_toArray, List.getElem?_cons_succ, List.getElem?_cons_zero]; rfl) (by kernel_rfl) (by kernel_rfl) (by kernel_rfl) rfl (by exact fun _ _ _ h => h) (by rfl) (by assumption) ?_
  try simp only [Act.put, List.setIfInBounds_toArray, List.set_cons_zero, List.set_cons_succ]
  refine take_over (i := 10) (by simp only [List.getElem?_toArray, List.getElem?_cons_succ, List.getElem?_cons_zero]; rfl) (by kernel_rfl) (by kernel_rfl) (by kernel_rfl) rfl (by exact fun _ _ _ h => h) (by rfl) (by assumption) ?_
  try simp only [Act.put, List.setIfInBounds_toArray, List.set_cons_zero, List.set_cons_succ]
  refine take_over (i := 11) (by simp only [List.getElem?_toArray, List.getElem?_cons_succ, List.getElem?_cons_zero]; rfl) (by kernel_rfl) (by kernel_rfl) (by kernel_rfl) rfl (by exact fun _ _ _ h => h) (by rfl) (by assumption) ?_
  try simp only [Act.put, List.setIfInBounds_toArray, List.set_cons_zero, List.set_cons_succ]
  refine take_over (i := 12) (by simp only [List.getElem?_toArray, List.getElem?_cons_succ, List.getElem?_cons_zero]; rfl) (by kernel_rfl) (by kernel_rfl) (by kernel_rfl) rfl (by exact fun _ _ _ h => h) (by rfl) (by assumption) ?_
  try simp only [Act.put, List.setIfInBounds_toArray, List.set_cons_zero, List.set_cons_succ]
  refine take_over (i := 13) (by simp only [List.getElem?_toArray, List.getElem?_cons_succ, List.getElem?_cons_zero]; rfl) (by kernel_rfl) (by kernel_rfl) (by kernel_rfl) rfl (by exact fun _ _ _ h => h) (by rfl) (by assumption) ?_
  try simp only [Act.put, List.setIfInBounds_toArray, List.set_cons_zero, List.set_cons_succ]
  refine take_over (i := 14) (by simp only [List.getElem?_toArray, List.getElem?_cons_succ, List.getElem?_cons_zero]; rfl) (by kernel_rfl) (by kernel_rfl) (by kernel_rfl) rfl (by exact fun _ _ _ h => h) (by rfl) (by assumption) ?_
  try simp only [Act.put, List.setIfInBounds_toArray, List.set_cons_zero, List.set_cons_succ]
  refine take_runs (i := 15) (v := ?_) (by simp only [List.getElem?_toArray, List.getElem?_cons_succ, List.getElem?_cons_zero]; rfl) (by kernel_rfl) (by kernel_rfl) (by kernel_rfl) rfl (by exact fun _ _ _ h => h) (by rfl) ?_ (by assumption) ?_
  rotate_left
  · intro w hSw; (try dsimp only at hSw); go_simp; try (with_reducible rfl)
  try simp only [Act.put, List.setIfInBounds_toArray, List.set_cons_zero, List.set_cons_succ]
  refine take_runs (i := 16) (v := ?_) (by simp only [List.getElem?_toArray, List.getElem?_cons_succ, List.getElem?_cons_zero]; rfl) (by kernel_rfl) (by kernel_rfl) (by kernel_rfl) rfl (by exact fun _ _ _ h => h) (by rfl) ?_ (by assumption) ?_
  rotate_left
  · intro w hSw; (try dsimp only at hSw); go_simp; try (with_reducible rfl)
  try simp only [Act.put, List.setIfInBounds_toArray, List.set_cons_zero, List.set_cons_succ]
  refine wpAnyH_done (by kernel_rfl) ?_ _
  have b11 : Below w.heap.size w W.drew := below_drew hh
  clear hHeld
  go_wp2
  go_ret
  exact ⟨rfl, b11⟩
set_option maxHeartbeats 8000000 in
set_option maxRecDepth 100000 in
theorem isValid_all (id n a b c : Int) (w : World) (h1 : 0 ≤ id) (h2 : id ≤ 999) (h3 : n = 3) :
    Calls Try.prog 148 #[.agg #[.int .i64 id, .int .i64 n, .int .i64 a, .int .i64 b, .int .i64 c]] w fun e w' => e = .returned (.bool (a == limI a && b == limI b && c == limI c)) ∧ Below w.heap.size w w' := by
  have HI := Lib.hid (fun w => isRowId_yes id w h1 h2)
  clear h1 h2
  have hd : (n == 3) = true := by simpa using h3
  clear h3
  have HL := Lib.hid (fun w => limited_any a b c w)
  have he := fun w => eql_arr a b c (limI a) (limI b) (limI c) w
  have hgd := fun (o1 o2 : Operand) (xs ys : Array Value) (w : World) => guard_arr o1 o2 xs ys w
  generalize hr : (a == limI a && b == limI b && c == limI c) = r at he ⊢
  clear hr
  go_enter Try.func148, Try.ntmps148
  go_wp2
  have hh : Below w.heap.size w (w.alloc (.cells #[.int .i64 id, .int .i64 n, .int .i64 a, .int .i64 b, .int .i64 c] 174)) := (Below.refl _ w).alloc (Nat.le_refl _) _
  have g0 := heap_alloc_new w (.cells #[.int .i64 id, .int .i64 n, .int .i64 a, .int .i64 b, .int .i64 c] 174)
  have hlt : w.heap.size < (w.alloc (.cells #[.int .i64 id, .int .i64 n, .int .i64 a, .int .i64 b, .int .i64 c] 174)).heap.size := by simp
  generalize w.alloc (.cells #[.int .i64 id, .int .i64 n, .int .i64 a, .int .i64 b, .int .i64 c] 174) = W at *
  have q0 := cell_of_row W _ 0 _ _ _ g0
  have q1 := cell_of_row W _ 1 _ _ _ g0
  have q2 := cell_of_row W _ 2 _ _ _ g0
  have q3 := cell_of_row W _ 3 _ _ _ g0
  have q4 := cell_of_row W _ 4 _ _ _ g0
  simp at q0 q1 q2 q3 q4
  refine wp_region_held_drew (S := fun w' => w'.cell? ⟨w.heap.size, 0, none⟩ = some (.int .i64 id) ∧ w'.cell? ⟨w.heap.size, 1, none⟩ = some (.int .i64 n) ∧ w'.cell? ⟨w.heap.size, 2, none⟩ = some (.int .i64 a) ∧ w'.cell? ⟨w.heap.size, 3, none⟩ = some (.int .i64 b) ∧ w'.cell? ⟨w.heap.size, 4, none⟩ = some (.int .i64 c)) (by kernel_rfl) ⟨q0, q1, q2, q3, q4⟩ (fun hHeld => ?_)
  refine take_runs (i := 0) (v := ?_) (by simp only [List.getElem?_toArray, List.getElem?_cons_succ, List.getElem?_cons_zero]; rfl) (by kernel_rfl) (by kernel_rfl) (by kernel_rfl) rfl (by exact fun _ _ _ h => h) (by rfl) ?_ (by assumption) ?_
  rotate_left
  · intro w hSw; (try dsimp only at hSw); go_simp; try (with_reducible rfl)
  try simp only [Act.put, List.setIfInBounds_toArray, List.set_cons_zero, List.set_cons_succ]
  refine take_runs (i := 1) (v := ?_) (by simp only [List.getElem?_toArray, List.getElem?_cons_succ, List.getElem?_cons_zero]; rfl) (by kernel_rfl) (by kernel_rfl) (by kernel_rfl) rfl (by exact fun _ _ _ h => h) (by rfl) ?_ (by assumption) ?_
  rotate_left
  · intro w hSw; (try dsimp only at hSw); go_simp; try (with_reducible rfl)
  try simp only [Act.put, List.setIfInBounds_toArray, List.set_cons_zero, List.set_cons_succ]
  refine wpAnyH_ready (rs := [2]) (by kernel_rfl) (by simp) ?_
  refine AllReadyH.cons (o := _) (by simp only [List.getElem?_toArray, List.getElem?_cons_succ, List.getElem?_cons_zero]; rfl) (fun K hK => ?_) AllReadyH.nil
  go_simp
  refine (HI.out _).mono ?_
  rintro e w8 ⟨rfl, rfl⟩
  refine hK.out _ _ ⟨q0, q1, q2, q3, q4⟩ (fun hHeld => ?_)
  clear hK K
  try simp only [Act.put, List.setIfInBounds_toArray, List.set_cons_zero, List.set_cons_succ]
  refine take_runs (i := 3) (v := ?_) (by simp only [List.getElem?_toArray, List.getElem?_cons_succ, List.getElem?_cons_zero]; rfl) (by kernel_rfl) (by kernel_rfl) (by kernel_rfl) rfl (by exact fun _ _ _ h => h) (by rfl) ?_ (by assumption) ?_
  rotate_left
  · intro w hSw; (try dsimp only at hSw); go_simp; try (with_reducible rfl)
  try simp only [Act.put, List.setIfInBounds_toArray, List.set_cons_zero, List.set_cons_succ]
  refine take_runs (i := 4) (v := ?_) (by simp only [List.getElem?_toArray, List.getElem?_cons_succ, List.getElem?_cons_zero]; rfl) (by kernel_rfl) (by kernel_rfl) (by kernel_rfl) rfl (by exact fun _ _ _ h => h) (by rfl) ?_ (by assumption) ?_
  rotate_left
  · intro w hSw; (try dsimp only at hSw); go_simp; try (with_reducible rfl)
  try simp only [Act.put, List.setIfInBounds_toArray, List.set_cons_zero, List.set_cons_succ]
  refine take_runs (i := 5) (v := ?_) (by simp only [List.getElem?_toArray, List.getElem?_cons_succ, List.getElem?_cons_zero]; rfl) (by kernel_rfl) (by kernel_rfl) (by kernel_rfl) rfl (by exact fun _ _ _ h => h) (by rfl) ?_ (by assumption) ?_
  rotate_left
  · intro w hSw; (try dsimp only at hSw); go_simp; try (with_reducible rfl)
  try simp only [Act.put, List.setIfInBounds_toArray, List.set_cons_zero, List.set_cons_succ]
  refine take_runs (i := 6) (v := ?_) (by simp only [List.getElem?_toArray, List.getElem?_cons_succ, List.getElem?_cons_zero]; rfl) (by kernel_rfl) (by kernel_rfl) (by kernel_rfl) rfl (by exact fun _ _ _ h => h) (by rfl) ?_ (by assumption) ?_
  rotate_left
  · intro w hSw; (try dsimp only at hSw); go_simp; try (with_reducible rfl)
  try simp only [Act.put, List.setIfInBounds_toArray, List.set_cons_zero, List.set_cons_succ]
  refine take_runs (i := 7) (v := ?_) (by simp only [List.getElem?_toArray, List.getElem?_cons_succ, List.getElem?_cons_zero]; rfl) (by kernel_rfl) (by kernel_rfl) (by kernel_rfl) rfl (by exact fun _ _ _ h => h) (by rfl) ?_ (by assumption) ?_
  rotate_left
  · intro w hSw; (try dsimp only at hSw); go_simp; try (with_reducible rfl)
  try simp only [Act.put, List.setIfInBounds_toArray, List.set_cons_zero, List.set_cons_succ]
  refine take_runs (i := 8) (v := ?_) (by simp only [List.getElem?_toArray, List.getElem?_cons_succ, List.getElem?_cons_zero]; rfl) (by kernel_rfl) (by kernel_rfl) (by kernel_rfl) rfl (by exact fun _ _ _ h => h) (by rfl) ?_ (by assumption) ?_
  rotate_left
  · intro w hSw; (try dsimp only at hSw); go_simp; try (with_reducible rfl)
  try simp only [Act.put, List.setIfInBounds_toArray, List.set_cons_zero, List.set_cons_succ]
  refine take_runs (i := 9) (v := ?_) (by simp only [List.getElem?_toArray, List.getElem?_cons_succ, List.getElem?_cons_zero]; rfl) (by kernel_rfl) (by kernel_rfl) (by kernel_rfl) rfl (by exact fun _ _ _ h => h) (by rfl) ?_ (by assumption) ?_
  rotate_left
  · intro w hSw; (try dsimp only at hSw); go_simp; try (with_reducible rfl)
  try simp only [Act.put, List.setIfInBounds_toArray, List.set_cons_zero, List.set_cons_succ]
  refine take_runs (i := 10) (v := ?_) (by simp only [List.getElem?_toArray, List.getElem?_cons_succ, List.getElem?_cons_zero]; rfl) (by kernel_rfl) (by kernel_rfl) (by kernel_rfl) rfl (by exact fun _ _ _ h => h) (by rfl) ?_ (by assumption) ?_
  rotate_left
  · intro w hSw; (try dsimp only at hSw); go_simp; try (with_reducible rfl)
  try simp only [Act.put, List.setIfInBounds_toArray, List.set_cons_zero, List.set_cons_succ]
  refine take_runs (i := 11) (v := ?_) (by simp only [List.getElem?_toArray, List.getElem?_cons_succ, List.getElem?_cons_zero]; rfl) (by kernel_rfl) (by kernel_rfl) (by kernel_rfl) rfl (by exact fun _ _ _ h => h) (by rfl) ?_ (by assumption) ?_
  rotate_left
  · intro w hSw; (try dsimp only at hSw); go_simp; try (with_reducible rfl)
  try simp only [Act.put, List.setIfInBounds_toArray, List.set_cons_zero, List.set_cons_succ]
  refine take_runs (i := 12) (v := ?_) (by simp only [List.getElem?_toArray, List.getElem?_cons_succ, List.getElem?_cons_zero]; rfl) (by kernel_rfl) (by kernel_rfl) (by kernel_rfl) rfl (by exact fun _ _ _ h => h) (by rfl) ?_ (by assumption) ?_
  rotate_left
  · intro w hSw; (try dsimp only at hSw); go_simp; try (with_reducible rfl)
  try simp only [Act.put, List.setIfInBounds_toArray, List.set_cons_zero, List.set_cons_succ]
  refine wpAnyH_ready (rs := [13]) (by kernel_rfl) (by simp) ?_
  refine AllReadyH.cons (o := _) (by simp only [List.getElem?_toArray, List.getElem?_cons_succ, List.getElem?_cons_zero]; rfl) (fun K hK => ?_) AllReadyH.nil
  go_simp
  refine (HL.out _).mono ?_
  rintro e w9 ⟨rfl, b9⟩
  have b10 : Below W.heap.size W w9 := below_from rfl b9
  have g2 := (b10.block w.heap.size hlt).trans g0
  have r0 := cell_of_row w9 _ 0 _ _ _ g2
  have r1 := cell_of_row w9 _ 1 _ _ _ g2
  have r2 := cell_of_row w9 _ 2 _ _ _ g2
  have r3 := cell_of_row w9 _ 3 _ _ _ g2
  have r4 := cell_of_row w9 _ 4 _ _ _ g2
  simp at r0 r1 r2 r3 r4
  refine hK.out _ _ ⟨r0, r1, r2, r3, r4⟩ (fun hHeld => ?_)
  clear hK K
  try simp only [Act.put, List.setIfInBounds_toArray, List.set_cons_zero, List.set_cons_succ]
  refine take_runs (i := 14) (v := ?_) (by simp only [List.getElem?_toArray, List.getElem?_cons_succ, List.getElem?_cons_zero]; rfl) (by kernel_rfl) (by kernel_rfl) (by kernel_rfl) rfl (by exact fun _ _ _ h => h) (by rfl) ?_ (by assumption) ?_
  rotate_left
  · intro w hSw; (try dsimp only at hSw); go_simp; try (with_reducible rfl)
  try simp only [Act.put, List.setIfInBounds_toArray, List.set_cons_zero, List.set_cons_succ]
  refine take_runs (i := 15) (v := ?_) (by simp only [List.getElem?_toArray, List.getElem?_cons_succ, List.getElem?_cons_zero]; rfl) (by kernel_rfl) (by kernel_rfl) (by kernel_rfl) rfl (by exact fun _ _ _ h => h) (by rfl) ?_ (by assumption) ?_
  rotate_left
  · intro w hSw; (try dsimp only at hSw); go_simp; try (with_reducible rfl)
  try simp only [Act.put, List.setIfInBounds_toArray, List.set_cons_zero, List.set_cons_succ]
  refine take_runs (i := 16) (v := ?_) (by simp only [List.getElem?_toArray, List.getElem?_cons_succ, List.getElem?_cons_zero]; rfl) (by kernel_rfl) (by kernel_rfl) (by kernel_rfl) rfl (by exact fun _ _ _ h => h) (by rfl) ?_ (by assumption) ?_
  rotate_left
  · intro w hSw; (try dsimp only at hSw); go_simp; try (with_reducible rfl)
  try simp only [Act.put, List.setIfInBounds_toArray, List.set_cons_zero, List.set_cons_succ]
  refine wpAnyH_done (by kernel_rfl) ?_ _
  have b11 := hh.trans (b10.mono hh.size)
  clear hHeld b9 b10
  go_wp2
  go_ret
  exact ⟨rfl, b11⟩
theorem isValid_any (id n a b c : Int) (w : World) :
    Calls Try.prog 148 #[.agg #[.int .i64 id, .int .i64 n, .int .i64 a, .int .i64 b, .int .i64 c]] w fun e w' => e = .returned (.bool (recB id n a b c)) ∧ Below w.heap.size w w' := by
  by_cases h : 0 ≤ id ∧ id ≤ 999
  · by_cases h3 : n = 3
    · have e : recB id n a b c = (a == limI a && b == limI b && c == limI c) := by unfold recB; rw [decide_eq_true h, decide_eq_true h3]; simp
      rw [e]
      exact isValid_all id n a b c w h.1 h.2 h3
    · have e : recB id n a b c = false := by unfold recB; rw [decide_eq_false h3]; simp
      rw [e]
      exact isValid_count id n a b c w h.1 h.2 h3
  · have e : recB id n a b c = false := by unfold recB; rw [decide_eq_false h]; simp
    rw [e]
    exact isValid_id id n a b c w h
set_option maxHeartbeats 4000000 in
set_option maxRecDepth 100000 in
theorem implIsRow (id : Int) (vv : Value) (xs : List Int) (w : World) (h : Ints w vv xs) (hn : xs.length ≤ 1048576) :
    Calls Try.prog 139 #[.agg #[.int .i64 id, vv]] w fun e w' => e = .returned (.bool (rowB (id, xs))) ∧ Below w.heap.size w w' := by
  have HR := Lib.hid (fun w h => recordOf_any id vv xs w h hn)
  have HV := Lib.hid (fun w => isValid_any id xs.length (xs.getD 0 0) (xs.getD 1 0) (xs.getD 2 0) w)
  rw [recB_row] at HV
  have H := Lib.hid h
  unfold recV at HR
  clear h hn
  generalize xs.getD 0 0 = x0 at *
  generalize xs.getD 1 0 = x1 at *
  generalize xs.getD 2 0 = x2 at *
  generalize rowB (id, xs) = r at *
  go_enter Try.func139, Try.ntmps139
  go_wp2_with fail
  have hb : Below w.heap.size w (w.alloc (.cells #[.int .i64 id, vv] 73)) := (Below.refl _ w).alloc (Nat.le_refl _) _
  refine (HR.out _ (ints_below H.out hb)).mono ?_
  rintro e w1 ⟨rfl, b1⟩
  have b2 := hb.trans (b1.mono hb.size)
  clear hb b1
  go_wp2_with fail
  refine (HV.out _).mono ?_
  rintro e w2 ⟨rfl, b3⟩
  have b4 := b2.trans (b3.mono b2.size)
  clear b2 b3
  go_wp2
  go_ret
  exact ⟨rfl, b4⟩
end Go.Proofs.Ytdhglmoanpkeoaa
namespace Go.Proofs.Ytdhglmoanpkeoaa
open Go.RowKit
set_option linter.unusedVariables false
set_option linter.unusedSimpArgs false
set_option maxHeartbeats 4000000 in
set_option maxRecDepth 100000 in
theorem implVisible (id born died t : Int) (vv : Value) (w : World) :
    Calls Try.prog 87 #[.agg #[.int .i64 id, vv, .int .i64 born, .int .i64 died], .int .i64 t] w fun e w' => e = .returned (.bool (decide (visP born died t))) ∧ Below w.heap.size w w' := by
  have hb : Below w.heap.size w (w.alloc (.cells #[.int .i64 id, vv, .int .i64 born, .int .i64 died] 115)) := (Below.refl _ w).alloc (Nat.le_refl _) _
  by_cases h1 : born ≤ t
  · by_cases h2 : died = -1
    · have HD : Hid (decide (visP born died t) = true) := Lib.hid (decide_eq_true ⟨h1, Or.inl h2⟩)
      have e2 : (died == -1) = true := by simp [h2]
      clear h2
      rw [HD.out]
      go_enter Try.func87, Try.ntmps87
      go_wp2
      go_ret
      exact ⟨rfl, hb⟩
    · have e2 : (died == -1) = false := by simp [h2]
      by_cases h3 : t < died
      · have HD : Hid (decide (visP born died t) = true) := Lib.hid (decide_eq_true ⟨h1, Or.inr h3⟩)
        clear h2
        rw [HD.out]
        go_enter Try.func87, Try.ntmps87
        go_wp2
        go_ret
        exact ⟨ret_b (by simp [h3]), hb⟩
      · have HD : Hid (decide (visP born died t) = false) := Lib.hid (decide_eq_false (fun g => by unfold visP at g; omega))
        have e3 : decide (t < died) = false := decide_eq_false h3
        clear h2
        rw [HD.out]
        go_enter Try.func87, Try.ntmps87
        go_wp2
        go_ret
        exact ⟨ret_b (by first | rfl | simp [h3]), hb⟩
  · have HD : Hid (decide (visP born died t) = false) := Lib.hid (decide_eq_false (fun g => h1 g.1))
    rw [HD.out]
    go_enter Try.func87, Try.ntmps87
    go_wp2
    go_ret
    exact ⟨rfl, hb⟩
set_option maxHeartbeats 4000000 in
set_option maxRecDepth 100000 in
theorem verRow_any (id born died : Int) (va : Option Addr) (n vc : Nat) (w : World) :
    Calls Try.prog 88 #[.agg #[.int .i64 id, .slice va n vc, .int .i64 born, .int .i64 died]] w fun e w' => e = .returned (.agg #[.int .i64 id, .slice va n vc]) ∧ Below w.heap.size w w' := by
  have d0 := Lib.hid (show Below w.heap.size w ((w.alloc (.cells #[.int .i64 id, .slice va n vc, .int .i64 born, .int .i64 died] 115)).alloc (.cells #[.int .i64 id, .slice va n vc] 73)) from ((Below.refl _ w).alloc (Nat.le_refl _) _).alloc (by simp) _)
  have k1 : ((w.alloc (.cells #[.int .i64 id, .slice va n vc, .int .i64 born, .int .i64 died] 115)).alloc (.cells #[.int .i64 id, .slice va n vc] 73)).heap[w.heap.size + 1]? = some (.cells #[.int .i64 id, .slice va n vc] 73 (0, 0)) := by
    have := heap_alloc_new (w.alloc (.cells #[.int .i64 id, .slice va n vc, .int .i64 born, .int .i64 died] 115)) (.cells #[.int .i64 id, .slice va n vc] 73)
    simpa only [World.size_alloc] using this
  have e0 := cell_of_row _ _ 0 _ _ _ k1
  have e1 := cell_of_row _ _ 1 _ _ _ k1
  simp at e0 e1
  have E0 := Lib.hid e0
  have E1 := Lib.hid e1
  clear k1 e0 e1
  go_enter Try.func88, Try.ntmps88
  go_wp2
  refine bodyPost_ret (v := .agg #[.int .i64 id, .slice va n vc]) ?_ rfl ?_
  · have e0 := E0.out
    have e1 := E1.out
    simp [results, Try.f88, go_sem, e0, e1]
  · exact ⟨rfl, d0.out⟩
set_option maxHeartbeats 8000000 in
set_option maxRecDepth 100000 in
theorem isVersion_any (id born died now : Int) (vv : Value) (xs : List Int) (w : World) (h : Ints w vv xs) (hn : xs.length ≤ 1048576) :
    Calls Try.prog 123 #[.agg #[.int .i64 id, vv, .int .i64 born, .int .i64 died], .int .i64 now] w fun e w' => e = .returned (.bool (verB (id, xs, born, died) now)) ∧ Below w.heap.size w w' := by
  obtain ⟨va, vc, rfl⟩ := ints_len h
  have HR := Lib.hid (fun W g => implIsRow id (.slice va xs.length vc) xs W g hn)
  have H := Lib.hid h
  have d0 := Lib.hid (show Below w.heap.size w (w.alloc (.cells #[.int .i64 id, .slice va xs.length vc, .int .i64 born, .int .i64 died] 115)) from (Below.refl _ _).alloc (Nat.le_refl _) _)
  have B0 : Hid ((w.alloc (.cells #[.int .i64 id, .slice va xs.length vc, .int .i64 born, .int .i64 died] 115)).heap[w.heap.size]? = some (.cells #[.int .i64 id, .slice va xs.length vc, .int .i64 born, .int .i64 died] 115 (0, 0))) := Lib.hid (heap_alloc_new w _)
  have Y0 : Hid (w.heap.size < (w.alloc (.cells #[.int .i64 id, .slice va xs.length vc, .int .i64 born, .int .i64 died] 115)).heap.size) := Lib.hid (by simp [World.size_alloc])
  have HV : Hid (∀ r l, rowB (id, xs) = r → decide (lifeP born died now) = l → verB (id, xs, born, died) now = (r && l)) := Lib.hid (fun r l h1 h2 => by unfold verB; rw [h1]; show (r && decide (lifeP born died now)) = _; rw [h2])
  clear h hn
  cases hr : rowB (id, xs) with
  | false =>
    rw [hr] at HR
    rw [HV.out _ _ hr rfl, Bool.false_and]
    clear hr HV
    go_enter Try.func123, Try.ntmps123
    go_wp2_with fail
    generalize w.alloc (.cells #[.int .i64 id, .slice va xs.length vc, .int .i64 born, .int .i64 died] 115) = W at *
    refine (verRow_any id born died va xs.length vc W).mono ?_
    rintro e w0 ⟨rfl, b0⟩
    have D0 := Lib.hid (d0.out.trans (b0.mono d0.out.size))
    have K0 := Lib.hid ((b0.block w.heap.size Y0.out).trans B0.out)
    have YY := Lib.hid (Nat.lt_of_lt_of_le Y0.out b0.size)
    clear b0
    go_wp2_with fail
    refine (HR.out w0 (ints_below H.out D0.out)).mono ?_
    rintro e w1 ⟨rfl, b1⟩
    have k0 := (b1.block w.heap.size YY.out).trans K0.out
    have b2 := D0.out.trans (b1.mono D0.out.size)
    go_wp2
    go_ret
    exact ⟨rfl, b2⟩
  | true =>
    rw [hr] at HR
    have HV2 := Lib.hid (fun l => HV.out _ l hr)
    clear hr HV
    by_cases h1 : 0 ≤ born
    rotate_left
    · have e1 : decide (0 ≤ born) = false := decide_eq_false h1
      have hl : decide (lifeP born died now) = false := decide_eq_false (fun g => by unfold lifeP at g; omega)
      rw [HV2.out _ hl]
      clear hl
      go_enter Try.func123, Try.ntmps123
      go_wp2_with fail
      generalize w.alloc (.cells #[.int .i64 id, .slice va xs.length vc, .int .i64 born, .int .i64 died] 115) = W at *
      refine (verRow_any id born died va xs.length vc W).mono ?_
      rintro e w0 ⟨rfl, b0⟩
      have D0 := Lib.hid (d0.out.trans (b0.mono d0.out.size))
      have K0 := Lib.hid ((b0.block w.heap.size Y0.out).trans B0.out)
      have YY := Lib.hid (Nat.lt_of_lt_of_le Y0.out b0.size)
      clear b0
      go_wp2_with fail
      refine (HR.out w0 (ints_below H.out D0.out)).mono ?_
      rintro e w1 ⟨rfl, b1⟩
      have k0 := (b1.block w.heap.size YY.out).trans K0.out
      have b2 := D0.out.trans (b1.mono D0.out.size)
      have p0 := (cell_of_row w1 _ 0 _ _ _ k0).trans (show _ = some (Value.int .i64 id) from rfl)
      have p1 := (cell_of_row w1 _ 1 _ _ _ k0).trans (show _ = some (Value.slice va xs.length vc) from rfl)
      have p2 := (cell_of_row w1 _ 2 _ _ _ k0).trans (show _ = some (Value.int .i64 born) from rfl)
      have p3 := (cell_of_row w1 _ 3 _ _ _ k0).trans (show _ = some (Value.int .i64 died) from rfl)
      clear k0
      go_wp2
      go_ret
      exact ⟨ret_b (by first | rfl | simp [*]), b2⟩
    by_cases h2 : born ≤ now
    rotate_left
    · have e2 : decide (born ≤ now) = false := decide_eq_false h2
      have hl : decide (lifeP born died now) = false := decide_eq_false (fun g => by unfold lifeP at g; omega)
      rw [HV2.out _ hl]
      clear hl
      go_enter Try.func123, Try.ntmps123
      go_wp2_with fail
      generalize w.alloc (.cells #[.int .i64 id, .slice va xs.length vc, .int .i64 born, .int .i64 died] 115) = W at *
      refine (verRow_any id born died va xs.length vc W).mono ?_
      rintro e w0 ⟨rfl, b0⟩
      have D0 := Lib.hid (d0.out.trans (b0.mono d0.out.size))
      have K0 := Lib.hid ((b0.block w.heap.size Y0.out).trans B0.out)
      have YY := Lib.hid (Nat.lt_of_lt_of_le Y0.out b0.size)
      clear b0
      go_wp2_with fail
      refine (HR.out w0 (ints_below H.out D0.out)).mono ?_
      rintro e w1 ⟨rfl, b1⟩
      have k0 := (b1.block w.heap.size YY.out).trans K0.out
      have b2 := D0.out.trans (b1.mono D0.out.size)
      have p0 := (cell_of_row w1 _ 0 _ _ _ k0).trans (show _ = some (Value.int .i64 id) from rfl)
      have p1 := (cell_of_row w1 _ 1 _ _ _ k0).trans (show _ = some (Value.slice va xs.length vc) from rfl)
      have p2 := (cell_of_row w1 _ 2 _ _ _ k0).trans (show _ = some (Value.int .i64 born) from rfl)
      have p3 := (cell_of_row w1 _ 3 _ _ _ k0).trans (show _ = some (Value.int .i64 died) from rfl)
      clear k0
      go_wp2
      go_ret
      exact ⟨ret_b (by first | rfl | simp [*]), b2⟩
    by_cases h3 : died = -1
    · have e3 : (died == -1) = true := by simp [h3]
      have hl : decide (lifeP born died now) = true := decide_eq_true ⟨h1, h2, Or.inl h3⟩
      rw [HV2.out _ hl]
      clear hl h3
      go_enter Try.func123, Try.ntmps123
      go_wp2_with fail
      generalize w.alloc (.cells #[.int .i64 id, .slice va xs.length vc, .int .i64 born, .int .i64 died] 115) = W at *
      refine (verRow_any id born died va xs.length vc W).mono ?_
      rintro e w0 ⟨rfl, b0⟩
      have D0 := Lib.hid (d0.out.trans (b0.mono d0.out.size))
      have K0 := Lib.hid ((b0.block w.heap.size Y0.out).trans B0.out)
      have YY := Lib.hid (Nat.lt_of_lt_of_le Y0.out b0.size)
      clear b0
      go_wp2_with fail
      refine (HR.out w0 (ints_below H.out D0.out)).mono ?_
      rintro e w1 ⟨rfl, b1⟩
      have k0 := (b1.block w.heap.size YY.out).trans K0.out
      have b2 := D0.out.trans (b1.mono D0.out.size)
      have p0 := (cell_of_row w1 _ 0 _ _ _ k0).trans (show _ = some (Value.int .i64 id) from rfl)
      have p1 := (cell_of_row w1 _ 1 _ _ _ k0).trans (show _ = some (Value.slice va xs.length vc) from rfl)
      have p2 := (cell_of_row w1 _ 2 _ _ _ k0).trans (show _ = some (Value.int .i64 born) from rfl)
      have p3 := (cell_of_row w1 _ 3 _ _ _ k0).trans (show _ = some (Value.int .i64 died) from rfl)
      clear k0
      go_wp2
      go_ret
      exact ⟨ret_b (by first | rfl | simp [*]), b2⟩
    have e3 : (died == -1) = false := by simp [h3]
    by_cases h4 : born < died
    rotate_left
    · have e4 : decide (born < died) = false := decide_eq_false h4
      have hl : decide (lifeP born died now) = false := decide_eq_false (fun g => by unfold lifeP at g; omega)
      rw [HV2.out _ hl]
      clear hl h3
      go_enter Try.func123, Try.ntmps123
      go_wp2_with fail
      generalize w.alloc (.cells #[.int .i64 id, .slice va xs.length vc, .int .i64 born, .int .i64 died] 115) = W at *
      refine (verRow_any id born died va xs.length vc W).mono ?_
      rintro e w0 ⟨rfl, b0⟩
      have D0 := Lib.hid (d0.out.trans (b0.mono d0.out.size))
      have K0 := Lib.hid ((b0.block w.heap.size Y0.out).trans B0.out)
      have YY := Lib.hid (Nat.lt_of_lt_of_le Y0.out b0.size)
      clear b0
      go_wp2_with fail
      refine (HR.out w0 (ints_below H.out D0.out)).mono ?_
      rintro e w1 ⟨rfl, b1⟩
      have k0 := (b1.block w.heap.size YY.out).trans K0.out
      have b2 := D0.out.trans (b1.mono D0.out.size)
      have p0 := (cell_of_row w1 _ 0 _ _ _ k0).trans (show _ = some (Value.int .i64 id) from rfl)
      have p1 := (cell_of_row w1 _ 1 _ _ _ k0).trans (show _ = some (Value.slice va xs.length vc) from rfl)
      have p2 := (cell_of_row w1 _ 2 _ _ _ k0).trans (show _ = some (Value.int .i64 born) from rfl)
      have p3 := (cell_of_row w1 _ 3 _ _ _ k0).trans (show _ = some (Value.int .i64 died) from rfl)
      clear k0
      go_wp2
      go_ret
      exact ⟨ret_b (by first | rfl | simp [*]), b2⟩
    by_cases h5 : died ≤ now
    · have hl : decide (lifeP born died now) = true := decide_eq_true ⟨h1, h2, Or.inr ⟨h4, h5⟩⟩
      rw [HV2.out _ hl]
      clear hl h3
      go_enter Try.func123, Try.ntmps123
      go_wp2_with fail
      generalize w.alloc (.cells #[.int .i64 id, .slice va xs.length vc, .int .i64 born, .int .i64 died] 115) = W at *
      refine (verRow_any id born died va xs.length vc W).mono ?_
      rintro e w0 ⟨rfl, b0⟩
      have D0 := Lib.hid (d0.out.trans (b0.mono d0.out.size))
      have K0 := Lib.hid ((b0.block w.heap.size Y0.out).trans B0.out)
      have YY := Lib.hid (Nat.lt_of_lt_of_le Y0.out b0.size)
      clear b0
      go_wp2_with fail
      refine (HR.out w0 (ints_below H.out D0.out)).mono ?_
      rintro e w1 ⟨rfl, b1⟩
      have k0 := (b1.block w.heap.size YY.out).trans K0.out
      have b2 := D0.out.trans (b1.mono D0.out.size)
      have p0 := (cell_of_row w1 _ 0 _ _ _ k0).trans (show _ = some (Value.int .i64 id) from rfl)
      have p1 := (cell_of_row w1 _ 1 _ _ _ k0).trans (show _ = some (Value.slice va xs.length vc) from rfl)
      have p2 := (cell_of_row w1 _ 2 _ _ _ k0).trans (show _ = some (Value.int .i64 born) from rfl)
      have p3 := (cell_of_row w1 _ 3 _ _ _ k0).trans (show _ = some (Value.int .i64 died) from rfl)
      clear k0
      go_wp2
      go_ret
      exact ⟨ret_b (by first | rfl | simp [*]), b2⟩
    · have e5 : decide (died ≤ now) = false := decide_eq_false h5
      have hl : decide (lifeP born died now) = false := decide_eq_false (fun g => by unfold lifeP at g; omega)
      rw [HV2.out _ hl]
      clear hl h3
      go_enter Try.func123, Try.ntmps123
      go_wp2_with fail
      generalize w.alloc (.cells #[.int .i64 id, .slice va xs.length vc, .int .i64 born, .int .i64 died] 115) = W at *
      refine (verRow_any id born died va xs.length vc W).mono ?_
      rintro e w0 ⟨rfl, b0⟩
      have D0 := Lib.hid (d0.out.trans (b0.mono d0.out.size))
      have K0 := Lib.hid ((b0.block w.heap.size Y0.out).trans B0.out)
      have YY := Lib.hid (Nat.lt_of_lt_of_le Y0.out b0.size)
      clear b0
      go_wp2_with fail
      refine (HR.out w0 (ints_below H.out D0.out)).mono ?_
      rintro e w1 ⟨rfl, b1⟩
      have k0 := (b1.block w.heap.size YY.out).trans K0.out
      have b2 := D0.out.trans (b1.mono D0.out.size)
      have p0 := (cell_of_row w1 _ 0 _ _ _ k0).trans (show _ = some (Value.int .i64 id) from rfl)
      have p1 := (cell_of_row w1 _ 1 _ _ _ k0).trans (show _ = some (Value.slice va xs.length vc) from rfl)
      have p2 := (cell_of_row w1 _ 2 _ _ _ k0).trans (show _ = some (Value.int .i64 born) from rfl)
      have p3 := (cell_of_row w1 _ 3 _ _ _ k0).trans (show _ = some (Value.int .i64 died) from rfl)
      clear k0
      go_wp2
      go_ret
      exact ⟨ret_b (by first | rfl | simp [*]), b2⟩
end Go.Proofs.Ytdhglmoanpkeoaa
namespace Go.Proofs.Ytdhglmoanpkeoaa
open Go.RowKit
set_option linter.unusedVariables false
set_option linter.unusedSimpArgs false
set_option maxHeartbeats 8000000 in
set_option maxRecDepth 100000 in
theorem seenWith_any (i1 b1 d1 i2 b2 d2 : Int) (a1 a2 : Option Addr) (n1 c1 n2 c2 : Nat) (w : World) :
    Calls Try.prog 125 #[.agg #[.int .i64 i1, .slice a1 n1 c1, .int .i64 b1, .int .i64 d1], .agg #[.int .i64 i2, .slice a2 n2 c2, .int .i64 b2, .int .i64 d2]] w fun e w' => e = .returned (.bool (decide (seenP i1 b1 d1 i2 b2 d2))) ∧ Below w.heap.size w w' := by
  have d0 := Lib.hid (show Below w.heap.size w ((w.alloc (.cells #[.int .i64 i1, .slice a1 n1 c1, .int .i64 b1, .int .i64 d1] 115)).alloc (.cells #[.int .i64 i2, .slice a2 n2 c2, .int .i64 b2, .int .i64 d2] 115)) from ((Below.refl _ _).alloc (Nat.le_refl _) _).alloc (by simp) _)
  have B1 : Hid (((w.alloc (.cells #[.int .i64 i1, .slice a1 n1 c1, .int .i64 b1, .int .i64 d1] 115)).alloc (.cells #[.int .i64 i2, .slice a2 n2 c2, .int .i64 b2, .int .i64 d2] 115)).heap[w.heap.size + 1]? = some (.cells #[.int .i64 i2, .slice a2 n2 c2, .int .i64 b2, .int .i64 d2] 115 (0, 0))) := Lib.hid (by
    have := heap_alloc_new (w.alloc (.cells #[.int .i64 i1, .slice a1 n1 c1, .int .i64 b1, .int .i64 d1] 115)) (.cells #[.int .i64 i2, .slice a2 n2 c2, .int .i64 b2, .int .i64 d2] 115)
    simpa only [World.size_alloc] using this)
  have B0 : Hid (((w.alloc (.cells #[.int .i64 i1, .slice a1 n1 c1, .int .i64 b1, .int .i64 d1] 115)).alloc (.cells #[.int .i64 i2, .slice a2 n2 c2, .int .i64 b2, .int .i64 d2] 115)).heap[w.heap.size]? = some (.cells #[.int .i64 i1, .slice a1 n1 c1, .int .i64 b1, .int .i64 d1] 115 (0, 0))) := Lib.hid (by
    rw [Below.heap_alloc _ _ _ (by simp)]
    exact heap_alloc_new w _)
  have Y1 : Hid (w.heap.size + 1 < ((w.alloc (.cells #[.int .i64 i1, .slice a1 n1 c1, .int .i64 b1, .int .i64 d1] 115)).alloc (.cells #[.int .i64 i2, .slice a2 n2 c2, .int .i64 b2, .int .i64 d2] 115)).heap.size) := Lib.hid (by simp [World.size_alloc])
  by_cases q1 : i1 = i2
  rotate_left
  · have e1 : (i1 == i2) = false := by simp [q1]
    have HD : Hid (decide (seenP i1 b1 d1 i2 b2 d2) = false) := Lib.hid (decide_eq_false (fun g => q1 g.1))
    rw [HD.out]
    clear q1
    go_enter Try.func125, Try.ntmps125
    go_wp2
    go_ret
    exact ⟨rfl, d0.out⟩
  have e1 : (i1 == i2) = true := by simp [q1]
  have Q1 := Lib.hid q1
  clear q1
  have HV1 := Lib.hid (fun W => implVisible i1 b1 d1 (max b1 b2) (.slice a1 n1 c1) W)
  have HV2 := Lib.hid (fun W => implVisible i2 b2 d2 (max b1 b2) (.slice a2 n2 c2) W)
  have HM : Hid (∃ t, t = max b1 b2) := Lib.hid ⟨_, rfl⟩
  cases h1 : decide (visP b1 d1 (max b1 b2)) with
  | false =>
    have HD : Hid (decide (seenP i1 b1 d1 i2 b2 d2) = false) := Lib.hid (decide_eq_false (fun g => by have := decide_eq_true g.2.1; rw [h1] at this; cases this))
    rw [HD.out]
    rw [h1] at HV1
    clear h1
    go_enter Try.func125, Try.ntmps125
    go_wp2_with fail
    generalize ((w.alloc (.cells #[.int .i64 i1, .slice a1 n1 c1, .int .i64 b1, .int .i64 d1] 115)).alloc (.cells #[.int .i64 i2, .slice a2 n2 c2, .int .i64 b2, .int .i64 d2] 115)) = W at *
    refine (HV1.out W).mono ?_
    rintro e w1 ⟨rfl, c1⟩
    have D1 := d0.out.trans (c1.mono d0.out.size)
    go_wp2
    go_ret
    exact ⟨rfl, D1⟩
  | true =>
    rw [h1] at HV1
    have H1 := Lib.hid (of_decide_eq_true h1)
    clear h1
    obtain ⟨r, hr⟩ : ∃ r, r = decide (visP b2 d2 (max b1 b2)) := ⟨_, rfl⟩
    have HD : Hid (decide (seenP i1 b1 d1 i2 b2 d2) = r) := Lib.hid (by
      rw [hr]
      by_cases g : visP b2 d2 (max b1 b2)
      · rw [decide_eq_true g, decide_eq_true ⟨Q1.out, H1.out, g⟩]
      · rw [decide_eq_false g, decide_eq_false (fun q => g q.2.2)])
    rw [← hr] at HV2
    rw [HD.out]
    clear hr
    go_enter Try.func125, Try.ntmps125
    go_wp2_with fail
    generalize ((w.alloc (.cells #[.int .i64 i1, .slice a1 n1 c1, .int .i64 b1, .int .i64 d1] 115)).alloc (.cells #[.int .i64 i2, .slice a2 n2 c2, .int .i64 b2, .int .i64 d2] 115)) = W at *
    refine (HV1.out W).mono ?_
    rintro e w1 ⟨rfl, e9⟩
    have D1 := Lib.hid (d0.out.trans (e9.mono d0.out.size))
    have k1 := (e9.block (w.heap.size + 1) Y1.out).trans B1.out
    have p0 := (cell_of_row w1 _ 0 _ _ _ k1).trans (show _ = some (Value.int .i64 i2) from rfl)
    have p1 := (cell_of_row w1 _ 1 _ _ _ k1).trans (show _ = some (Value.slice a2 n2 c2) from rfl)
    have p2 := (cell_of_row w1 _ 2 _ _ _ k1).trans (show _ = some (Value.int .i64 b2) from rfl)
    have p3 := (cell_of_row w1 _ 3 _ _ _ k1).trans (show _ = some (Value.int .i64 d2) from rfl)
    clear k1 e9
    go_wp2_with fail
    refine (HV2.out w1).mono ?_
    rintro e w2 ⟨rfl, e8⟩
    have D2 := D1.out.trans (e8.mono D1.out.size)
    clear p0 p1 p2 p3
    go_wp2
    go_ret
    exact ⟨rfl, D2⟩
set_option maxHeartbeats 8000000 in
set_option maxRecDepth 100000 in
theorem isSegmentCount_any (n : Int) (w : World) : Calls Try.prog 92 #[.int .i64 n] w fun e w' => e = .returned (.bool (decide (1 ≤ n ∧ n ≤ 8))) ∧ w' = w := by
  by_cases h1 : 1 ≤ n
  · by_cases h2 : n ≤ 8
    · rw [decide_eq_true ⟨h1, h2⟩]
      go_enter Try.func92, Try.ntmps92
      go_wp2
      go_ret
      exact ⟨ret_b (by first | rfl | simp [h2]), rfl⟩
    · rw [decide_eq_false (fun g => h2 g.2)]
      go_enter Try.func92, Try.ntmps92
      go_wp2
      go_ret
      exact ⟨ret_b (by first | rfl | simp [h2] | (simp; omega)), rfl⟩
  · rw [decide_eq_false (fun g => h1 g.1)]
    go_enter Try.func92, Try.ntmps92
    go_wp2
    go_ret
    exact ⟨rfl, rfl⟩
set_option maxHeartbeats 8000000 in
set_option maxRecDepth 100000 in
theorem isTime_any (n : Int) (w : World) : Calls Try.prog 93 #[.int .i64 n] w fun e w' => e = .returned (.bool (decide (0 ≤ n ∧ n ≤ 100000))) ∧ w' = w := by
  by_cases h1 : 0 ≤ n
  · by_cases h2 : n ≤ 100000
    · rw [decide_eq_true ⟨h1, h2⟩]
      go_enter Try.func93, Try.ntmps93
      go_wp2
      go_ret
      exact ⟨ret_b (by first | rfl | simp [h2]), rfl⟩
    · rw [decide_eq_false (fun g => h2 g.2)]
      go_enter Try.func93, Try.ntmps93
      go_wp2
      go_ret
      exact ⟨ret_b (by first | rfl | simp [h2] | (simp; omega)), rfl⟩
  · rw [decide_eq_false (fun g => h1 g.1)]
    go_enter Try.func93, Try.ntmps93
    go_wp2
    go_ret
    exact ⟨rfl, rfl⟩
/-- Some version of the slice is seen with this one. -/
def anyB (x : VerD) (l : List VerD) : Bool := l.any (fun y => seenB x y)
theorem any_yes {x : VerD} {l : List VerD} {j : Nat} (hj : j < l.length) (h : seenB x (l.getD j v0D) = true) : anyB x l = true := by
  unfold anyB
  rw [List.any_eq_true]
  have e : l.getD j v0D = l[j] := by simp [List.getD, hj]
  exact ⟨l[j], List.getElem_mem _, by rw [← e]; exact h⟩
theorem any_no {x : VerD} {l : List VerD} (h : ∀ j, j < l.length → seenB x (l.getD j v0D) = false) : anyB x l = false := by
  unfold anyB
  rw [List.any_eq_false]
  intro y hy
  obtain ⟨j, hj, rfl⟩ := List.getElem_of_mem hy
  have := h j hj
  have e : l.getD j v0D = l[j] := by simp [List.getD, hj]
  rw [e] at this
  rw [this]; simp
set_option maxHeartbeats 8000000 in
set_option maxRecDepth 100000 in
theorem indexSeen (v : Value) (l : List VerD) (i1 b1 d1 : Int) (xs1 : List Int) (a1 : Option Addr) (n1 cc1 : Nat) (w : World) (h : SlR tVersion w v l) (hs : l.length ≤ 1048576) :
    Calls Try.prog 140 #[v, .func (.func 125) #[.agg #[.int .i64 i1, .slice a1 n1 cc1, .int .i64 b1, .int .i64 d1]] #[]] w fun e w' => (∃ r : Int, e = .returned (.int .i64 r) ∧ decide (0 ≤ r) = anyB (i1, xs1, b1, d1) l) ∧ Below w.heap.size w w' := by
  have H := Lib.hid h
  obtain ⟨a, cap, rfl⟩ := slR_len h
  clear h
  go_enter Try.func140, Try.ntmps140
  go_wp2
  go_loopw [8] (fun i wr => ∃ k : Nat, k ≤ l.length ∧ i = .int .i64 k ∧ Hid (∀ j, j < k → seenB (i1, xs1, b1, d1) (l.getD j v0D) = false) ∧ Below w.heap.size w wr) (fun i _ => l.length - (intOf i).toNat)
  case atStart => exact ⟨0, Nat.zero_le _, rfl, Lib.hid (fun j hj => by omega), Below.refl _ _⟩
  case round =>
    obtain ⟨k, hk, rfl, hall, hbel⟩ := hrel
    by_cases hlt : k < l.length
    · have i1' : (0 : Int) ≤ (k : Int) := by omega
      have i2' : (k : Int) < (l.length : Int) := by omega
      obtain ⟨b, off, cap', xa, xc, hv, hbl, c0, c1, c2, c3, hx⟩ := verR_at (slR_below tVersion_law H.out hbel) hlt
      simp only [Value.slice.injEq] at hv
      obtain ⟨rfl, _, rfl⟩ := hv
      have HYS := Lib.hid (fun g => any_yes (x := (i1, xs1, b1, d1)) hlt g)
      have HNO : Hid (seenB (i1, xs1, b1, d1) (l.getD k v0D) = false → ∀ j, j < k + 1 → seenB (i1, xs1, b1, d1) (l.getD j v0D) = false) := Lib.hid (fun g j hj => by
        by_cases e : j = k
        · rw [e]; exact g
        · exact hall.out j (by omega))
      have d := Lib.hid hbel
      clear hall hx hbel
      generalize l.getD k v0D = y at *
      obtain ⟨id2, ys, born2, died2⟩ := y
      simp only at c0 c1 c2 c3
      have HC := Lib.hid (fun W => seenWith_any i1 b1 d1 id2 born2 died2 a1 xa n1 cc1 ys.length xc W)
      cases hse : seenB (i1, xs1, b1, d1) (id2, ys, born2, died2) with
      | true =>
        have HT := Lib.hid (HYS.out hse)
        rw [show decide (seenP i1 b1 d1 id2 born2 died2) = true from hse] at HC
        clear hse HYS HNO
        go_wp2_with fail
        refine (HC.out _).mono ?_
        rintro e w2 ⟨rfl, b2⟩
        have d2 := Lib.hid (d.out.trans (b2.mono d.out.size))
        clear b2 c0 c1 c2 c3 d
        go_wp2
        go_ret
        exact ⟨⟨_, rfl, by rw [HT.out]; exact decide_eq_true i1'⟩, d2.out⟩
      | false =>
        have HN := Lib.hid (HNO.out hse)
        rw [show decide (seenP i1 b1 d1 id2 born2 died2) = false from hse] at HC
        clear hse HYS HNO
        go_wp2_with fail
        refine (HC.out _).mono ?_
        rintro e w2 ⟨rfl, b2⟩
        have d2 := Lib.hid (d.out.trans (b2.mono d.out.size))
        clear b2 c0 c1 c2 c3 d
        go_wp2
        go_roundw
        case rel => exact ⟨k + 1, by omega, by go_num, HN, d2.out⟩
        case measure => simp [intOf]; omega
    · obtain rfl : k = l.length := by omega
      have HF := Lib.hid (any_no hall.out)
      clear hall
      go_wp2
      go_ret
      exact ⟨⟨-1, rfl, by rw [HF.out]; rfl⟩, hbel⟩
set_option maxHeartbeats 8000000 in
set_option maxRecDepth 100000 in
theorem containsSeen (v : Value) (l : List VerD) (i1 b1 d1 : Int) (xs1 : List Int) (a1 : Option Addr) (n1 c1 : Nat) (w : World) (h : SlR tVersion w v l) (hs : l.length ≤ 1048576) :
    Calls Try.prog 124 #[v, .func (.func 125) #[.agg #[.int .i64 i1, .slice a1 n1 c1, .int .i64 b1, .int .i64 d1]] #[]] w fun e w' => e = .returned (.bool (anyB (i1, xs1, b1, d1) l)) ∧ Below w.heap.size w w' := by
  have HC := Lib.hid (indexSeen v l i1 b1 d1 xs1 a1 n1 c1 w h hs)
  clear h hs
  go_enter Try.func124, Try.ntmps124
  go_wp2_with fail
  refine HC.out.mono ?_
  rintro e w1 ⟨⟨r, rfl, hr⟩, b1⟩
  have HR := Lib.hid hr
  clear hr
  go_wp2
  go_ret
  exact ⟨ret_b (by rw [← HR.out]), b1⟩
end Go.Proofs.Ytdhglmoanpkeoaa
namespace Go.Proofs.Ytdhglmoanpkeoaa
open Go.RowKit
set_option linter.unusedVariables false
set_option linter.unusedSimpArgs false
theorem info_R_ptr : ElemInfo (tRaw 1) 69 (.pointer none) := elemInfo_of (by kernel_rfl)
/-- A slice as a value: its address, length and capacity. -/
abbrev SegV := Option Addr × Nat × Nat
def s0V : SegV := (none, 0, 0)
def segV (u : SegV) : Value := .slice u.1 u.2.1 u.2.2
def cutV (u : SegV) : Value := .slice u.1 u.2.1 u.2.1
def ptrV (b : Nat) : Value := .pointer (some ⟨b, 0, none⟩)
/-- A slice of slices is read. -/
def LsR (w : World) (v : Value) (us : List SegV) : Prop := SlR (tRaw 1) w v (us.map (fun u => [segV u])) ∧ ∀ j, j < us.length → (us.getD j s0V).2.1 ≤ (us.getD j s0V).2.2
theorem lsR_below {W w : World} {v : Value} {us : List SegV} (h : LsR W v us) (hb : Below W.heap.size W w) : LsR w v us := ⟨slR_below (tRaw_law (by decide)) h.1 hb, h.2⟩
theorem lsR_len {w : World} {v : Value} {us : List SegV} (h : LsR w v us) : ∃ a cap, v = .slice a us.length cap := by
  obtain ⟨a, cap, e⟩ := slR_len h.1
  rw [List.length_map] at e
  exact ⟨a, cap, e⟩
theorem lsR_at {w : World} {v : Value} {us : List SegV} (h : LsR w v us) {k : Nat} (hk : k < us.length) : ∃ b off cap, v = .slice (some ⟨b, off, none⟩) us.length cap ∧ b < w.heap.size ∧ w.cell? ⟨b, off + k, none⟩ = some (segV (us.getD k s0V)) ∧ (us.getD k s0V).2.1 ≤ (us.getD k s0V).2.2 := by
  obtain ⟨b, off, cap, cs, hv, hb, hc, hR⟩ := slR_at h.1 (k := k) (by rw [List.length_map]; exact hk)
  rw [List.length_map] at hv
  obtain ⟨e, _⟩ := hR
  have e2 : (us.map (fun u => [segV u])).getD k (tRaw 1).d = [segV (us.getD k s0V)] := by simp [List.getD, hk]
  rw [e2] at e
  have := hc 0 (by decide)
  rw [show (tRaw 1).n = 1 from rfl, Nat.mul_one, Nat.add_zero, e] at this
  exact ⟨b, off, cap, hv, hb, this, h.2 k hk⟩
/-- The row of a segment's block. -/
def segRow (u : SegV) : Obj := .cells #[cutV u] 122 (0, 0)
/-- What tableOf answers: new pointers to new segments. -/
def TabN (B : Nat) (w : World) (g : Nat) (bs : List Nat) (us : List SegV) : Prop :=
  B ≤ g ∧ g < w.heap.size ∧ bs.length = us.length ∧ (∀ j, j < us.length → w.cell? ⟨g, j, none⟩ = some (ptrV (bs.getD j 0)) ∧ w.heap[bs.getD j 0]? = some (segRow (us.getD j s0V)) ∧ g < bs.getD j 0) ∧ ∀ i j, i < us.length → j < us.length → i ≠ j → bs.getD i 0 ≠ bs.getD j 0
def FreshTab (w : World) (us : List SegV) (e : Ending) (w' : World) : Prop := ∃ g bs, e = .returned (.slice (some ⟨g, 0, none⟩) us.length us.length) ∧ TabN w.heap.size w' g bs us ∧ Below w.heap.size w w'
def FreshTabO (w : World) (us : List SegV) (e : Ending) (w' : World) : Prop := ∃ g bs, e = .returned (.slice (some ⟨g, 0, none⟩) us.length us.length) ∧ w'.ownsRow w.heap.size 69 1 (.slice (some ⟨g, 0, none⟩) us.length us.length) us.length (bs.map ptrV) ∧ TabN w.heap.size w' g bs us ∧ Below w.heap.size w w'
theorem ptr_set {bs : List Nat} {n k b : Nat} (hb : bs.length = k) (hk : k < n) : (bs.map ptrV ++ List.replicate (n - k) (Value.pointer none)).set k (ptrV b) = (bs ++ [b]).map ptrV ++ List.replicate (n - (k + 1)) (Value.pointer none) := by
  have hl : (bs.map ptrV).length = k := by rw [List.length_map]; exact hb
  rw [List.set_append_right _ _ (by omega), hl, Nat.sub_self, show n - k = (n - (k + 1)) + 1 by omega, List.replicate_succ, List.set_cons_zero, List.map_append, List.append_assoc]
  rfl
theorem getD_app_lt {bs : List Nat} {b j : Nat} (h : j < bs.length) : (bs ++ [b]).getD j 0 = bs.getD j 0 := by simp [List.getD, List.getElem?_append_left h]
theorem getD_app_eq {bs : List Nat} {b j : Nat} (h : j = bs.length) : (bs ++ [b]).getD j 0 = b := by subst h; simp [List.getD]
set_option maxHeartbeats 8000000 in
set_option maxRecDepth 100000 in
theorem tableOf_own (v : Value) (us : List SegV) (w : World) (h : LsR w v us) (hn : us.length ≤ 1048576) :
    Calls Try.prog 84 #[v] w (FreshTabO w us) := by
  obtain ⟨i0, hi, hz0, hz1, hz2⟩ := info_R_ptr
  have HI := Lib.hid hi; have HZ0 := Lib.hid hz0; have HZ1 : Hid (i0.size = 1) := Lib.hid hz1; have HZ2 := Lib.hid hz2
  clear hi hz0 hz1 hz2
  have H := Lib.hid h
  obtain ⟨a, cap, rfl⟩ := lsR_len h
  clear h
  go_enter Try.func84, Try.ntmps84
  go_wp2_with (at_make; refine wpList_make_full _ rfl (.tmp 7) (.tmp 7) 64 rfl w.heap.size 69 i0 (.pointer none) 1 Try.underlying64 HI.out HZ0.out HZ1.out _ _ _ _ us.length rfl rfl rfl rfl (by have := Nat.mul_le_mul HZ2.out hn; omega) (by unfold maxLen; omega) (Nat.le_refl _) ?_)
  intro w1 hown0 hg0
  have hbel1 := (Below.refl w.heap.size w).grown hg0 (Nat.le_refl _) (fun k hk => by cases hk)
  have hz : (madeCells #[Value.pointer none] us.length).toList = List.replicate us.length (Value.pointer none) := by
    apply List.ext_getElem?
    intro i
    unfold madeCells
    rw [Array.getElem?_toList, Array.getElem?_map]
    by_cases q : i < us.length
    · rw [Array.getElem?_range, if_pos q]
      simp [q, Nat.mod_one]
    · rw [Array.getElem?_range, if_neg q]
      simp [q]
  rw [hz] at hown0
  clear hg0 hz
  go_wp2
  go_loopw [11] (fun i wr => ∃ (k : Nat) (bs : List Nat), k ≤ us.length ∧ i = .int .i64 k ∧ bs.length = k ∧ wr.ownsRow w.heap.size 69 1 (.slice (some ⟨w.heap.size, 0, none⟩) us.length us.length) us.length (bs.map ptrV ++ List.replicate (us.length - k) (Value.pointer none)) ∧ Hid (∀ j, j < k → wr.heap[bs.getD j 0]? = some (segRow (us.getD j s0V)) ∧ w.heap.size < bs.getD j 0 ∧ bs.getD j 0 < wr.heap.size) ∧ Hid (∀ i j, i < k → j < k → i ≠ j → bs.getD i 0 ≠ bs.getD j 0) ∧ Below w.heap.size w wr ∧ w.heap.size < wr.heap.size) (fun i _ => us.length - (intOf i).toNat)
  case atStart => exact ⟨0, [], Nat.zero_le _, rfl, rfl, hown0, Lib.hid (fun j hj => by omega), Lib.hid (fun i j hi => by omega), hbel1, (hown0.lt w.heap.size rfl).2⟩
  case round =>
    obtain ⟨k, bs, hk, rfl, hbs, hown, hrow, hdis, hbel, hsz⟩ := hrel
    clear hown0 hbel1
    by_cases hlt : k < us.length
    · have i1 : (0 : Int) ≤ (k : Int) := by omega
      have i2 : (k : Int) < (us.length : Int) := by omega
      obtain ⟨b, off, cap', hv, hbl, c0, hle⟩ := lsR_at (lsR_below H.out hbel) hlt
      simp only [Value.slice.injEq] at hv
      obtain ⟨rfl, _, rfl⟩ := hv
      have hset := ptr_set (b := wr.heap.size) hbs hlt
      have r1 := (World.ownsRow.stored hown k (ptrV wr.heap.size)).1
      rw [hset] at r1
      have r2 := r1.alloc (.cells #[cutV (us.getD k s0V)] 122)
      have y0 : ∃ x, wr.cell? ⟨w.heap.size, k, none⟩ = some x := ⟨_, (World.ownsRow.cellAt hown k (by omega)).trans (List.getElem?_eq_getElem (by simp; omega))⟩
      obtain ⟨y, y0⟩ := y0
      have f0 := World.ownsRow.frozenAt hown k
      have tt : Turn (fun x => x = w.heap.size) wr (wr.setCell ⟨w.heap.size, k, none⟩ (ptrV wr.heap.size)) := turn_set (G := fun x => x = w.heap.size) (g := w.heap.size) (j := k) (u := ptrV wr.heap.size) rfl
      have hs0 : (wr.setCell ⟨w.heap.size, k, none⟩ (ptrV wr.heap.size)).heap.size = wr.heap.size := by simp [World.setCell]
      have hal : Below (wr.setCell ⟨w.heap.size, k, none⟩ (ptrV wr.heap.size)).heap.size (wr.setCell ⟨w.heap.size, k, none⟩ (ptrV wr.heap.size)) ((wr.setCell ⟨w.heap.size, k, none⟩ (ptrV wr.heap.size)).alloc (.cells #[cutV (us.getD k s0V)] 122)) := (Below.refl _ _).alloc (Nat.le_refl _) _
      have hnew : ((wr.setCell ⟨w.heap.size, k, none⟩ (ptrV wr.heap.size)).alloc (.cells #[cutV (us.getD k s0V)] 122)).heap[wr.heap.size]? = some (.cells #[cutV (us.getD k s0V)] 122 (0, 0)) := by
        have := heap_alloc_new (wr.setCell ⟨w.heap.size, k, none⟩ (ptrV wr.heap.size)) (.cells #[cutV (us.getD k s0V)] 122)
        rw [hs0] at this; exact this
      have hs1 : ((wr.setCell ⟨w.heap.size, k, none⟩ (ptrV wr.heap.size)).alloc (.cells #[cutV (us.getD k s0V)] 122)).heap.size = wr.heap.size + 1 := by rw [World.size_alloc, hs0]
      have R2 := Lib.hid r2
      have HROW : Hid (∀ j, j < k + 1 → ((wr.setCell ⟨w.heap.size, k, none⟩ (ptrV wr.heap.size)).alloc (.cells #[cutV (us.getD k s0V)] 122)).heap[(bs ++ [wr.heap.size]).getD j 0]? = some (segRow (us.getD j s0V)) ∧ w.heap.size < (bs ++ [wr.heap.size]).getD j 0 ∧ (bs ++ [wr.heap.size]).getD j 0 < ((wr.setCell ⟨w.heap.size, k, none⟩ (ptrV wr.heap.size)).alloc (.cells #[cutV (us.getD k s0V)] 122)).heap.size) := Lib.hid (fun j hj => by
        by_cases e : j = k
        · rw [getD_app_eq (by omega), e]
          exact ⟨hnew, hsz, by omega⟩
        · rw [getD_app_lt (by omega)]
          obtain ⟨g1, g2, g3⟩ := hrow.out j (by omega)
          exact ⟨(hal.block _ (by omega)).trans ((tt.block _ g3 (fun q => by omega)).trans g1), g2, by omega⟩)
      have HDIS : Hid (∀ i j, i < k + 1 → j < k + 1 → i ≠ j → (bs ++ [wr.heap.size]).getD i 0 ≠ (bs ++ [wr.heap.size]).getD j 0) := Lib.hid (fun i j hi hj hij => by
        by_cases e1 : i = k
        · rw [getD_app_eq (by omega), getD_app_lt (by omega)]
          have := (hrow.out j (by omega)).2.2; omega
        · by_cases e2 : j = k
          · rw [getD_app_lt (by omega), getD_app_eq (by omega)]
            have := (hrow.out i (by omega)).2.2; omega
          · rw [getD_app_lt (by omega), getD_app_lt (by omega)]
            exact hdis.out i j (by omega) (by omega) hij)
      have D2 : Hid (Below w.heap.size w ((wr.setCell ⟨w.heap.size, k, none⟩ (ptrV wr.heap.size)).alloc (.cells #[cutV (us.getD k s0V)] 122))) := Lib.hid ((below_turn hbel tt (fun x hx => by omega) (by omega)).trans (hal.mono (by omega)))
      have S2 : Hid (w.heap.size < ((wr.setCell ⟨w.heap.size, k, none⟩ (ptrV wr.heap.size)).alloc (.cells #[cutV (us.getD k s0V)] 122)).heap.size) := Lib.hid (by omega)
      have HBL : Hid ((bs ++ [wr.heap.size]).length = k + 1) := Lib.hid (by rw [List.length_append]; simp; omega)
      clear hset r1 r2 hal tt hnew hs0 hs1 hrow hdis hown hbel hbs
      generalize us.getD k s0V = u at *
      obtain ⟨ua, n, uc⟩ := u
      simp only [segV, cutV, ptrV] at *
      have j1 : (n : Int) ≤ (uc : Int) := by omega
      go_wp2
      go_roundw
      case rel => exact ⟨k + 1, _, by omega, by go_num, HBL.out, R2.out, HROW, HDIS, D2.out, S2.out⟩
      case measure => simp [intOf]; omega
    · obtain rfl : k = us.length := by omega
      have HO := Lib.hid hown
      clear hown
      go_wp2
      go_ret
      have ho := HO.out
      refine ⟨w.heap.size, bs, rfl, by simpa using ho, ⟨Nat.le_refl _, hsz, hbs, fun j hj => ⟨?_, (hrow.out j hj).1, (hrow.out j hj).2.1⟩, hdis.out⟩, hbel⟩
      refine (World.ownsRow.cellAt ho j (by omega)).trans ?_
      rw [List.getElem?_append_left (by rw [List.length_map]; omega), List.getElem?_map]
      simp [List.getD, show j < bs.length by omega]
theorem tableOf_any (v : Value) (us : List SegV) (w : World) (h : LsR w v us) (hn : us.length ≤ 1048576) :
    Calls Try.prog 84 #[v] w (FreshTab w us) :=
  (tableOf_own v us w h hn).mono (by
    rintro e w1 ⟨g, bs, he, _, ht, hb⟩
    exact ⟨g, bs, he, ht, hb⟩)
end Go.Proofs.Ytdhglmoanpkeoaa
namespace Go.Proofs.Ytdhglmoanpkeoaa
open Go.RowKit
set_option linter.unusedVariables false
set_option linter.unusedSimpArgs false
theorem info_R_Row : ElemInfo (tRaw 2) 73 (.agg #[.int .i64 0, .slice none 0 0]) := elemInfo_of (by kernel_rfl)
theorem tabN_below {B : Nat} {w w' : World} {g : Nat} {bs : List Nat} {us : List SegV} (h : TabN B w g bs us) (hb : Below w.heap.size w w') : TabN B w' g bs us := by
  obtain ⟨h1, h2, h3, h4, h5⟩ := h
  refine ⟨h1, Nat.lt_of_lt_of_le h2 hb.size, h3, fun j hj => ?_, h5⟩
  obtain ⟨g1, g2, g3⟩ := h4 j hj
  exact ⟨(hb.cell (p := ⟨g, j, none⟩) h2).trans g1, (hb.block _ (Array.getElem?_eq_some_iff.1 g2).1).trans g2, g3⟩
theorem slR_cut {α : Type} {T : Ty α} {w : World} {a : Option Addr} {n c : Nat} {xs : List α} (h : SlR T w (.slice a n c) xs) : SlR T w (.slice a n n) xs ∧ n = xs.length ∧ n ≤ c := by
  rcases h with ⟨rfl, a', cap, e⟩ | ⟨b, off, cap, us, e, h2, h3, h4⟩
  · simp only [Value.slice.injEq] at e
    obtain ⟨rfl, rfl, rfl⟩ := e
    exact ⟨Or.inl ⟨rfl, _, _, rfl⟩, rfl, Nat.zero_le _⟩
  · simp only [Value.slice.injEq] at e
    obtain ⟨rfl, rfl, rfl⟩ := e
    exact ⟨Or.inr ⟨b, off, _, us, rfl, Nat.le_refl _, h3, h4⟩, rfl, h2⟩
/-- The segments as they are named by values. -/
def SegsR (w : World) (us : List SegV) (ss : List (List VerD)) : Prop := us.length = ss.length ∧ ∀ j, j < ss.length → SlR tVersion w (cutV (us.getD j s0V)) (ss.getD j []) ∧ (us.getD j s0V).2.1 = (ss.getD j []).length
theorem segsR_below {W w : World} {us : List SegV} {ss : List (List VerD)} (h : SegsR W us ss) (hb : Below W.heap.size W w) : SegsR w us ss := ⟨h.1, fun j hj => ⟨slR_below tVersion_law (h.2 j hj).1 hb, (h.2 j hj).2⟩⟩
theorem slR_ls {w : World} {v : Value} {ss : List (List VerD)} (h : SlR tVersionS w v ss) : ∃ us, LsR w v us ∧ SegsR w us ss := by
  rcases h with ⟨rfl, a, cap, rfl⟩ | ⟨b, off, cap, us, rfl, h2, h3, h4⟩
  · exact ⟨[], ⟨Or.inl ⟨rfl, a, cap, rfl⟩, fun j hj => by simp at hj⟩, rfl, fun j hj => by simp at hj⟩
  · haveI : Inhabited SegV := ⟨s0V⟩
    obtain ⟨f, hf⟩ := Go.Deep.choose_lt (α := SegV) (n := ss.length) (p := fun j u => w.cell? ⟨b, off + j, none⟩ = some (segV u) ∧ SlR tVersion w (cutV u) (ss.getD j []) ∧ u.2.1 = (ss.getD j []).length ∧ u.2.1 ≤ u.2.2) (fun j hj => by
      obtain ⟨hc, hR⟩ := h4 j hj
      obtain ⟨v, e, hv⟩ := hR
      have h0 := hc 0 (by decide)
      rw [show tVersionS.n = 1 from rfl, Nat.mul_one, Nat.add_zero, e] at h0
      obtain ⟨a, c, rfl⟩ := slR_len hv
      obtain ⟨k1, k2, k3⟩ := slR_cut hv
      exact ⟨(a, (ss.getD j []).length, c), h0, k1, rfl, k3⟩)
    have hg : ∀ j, j < ss.length → ((List.range ss.length).map f).getD j s0V = f j := fun j hj => by simp [List.getD, hj]
    refine ⟨(List.range ss.length).map f, ⟨Or.inr ⟨b, off, cap, fun j => [segV (f j)], by simp, by simpa using h2, h3, fun j hj => ?_⟩, fun j hj => ?_⟩, by simp, fun j hj => ?_⟩
    · have hj' : j < ss.length := by simpa using hj
      refine ⟨fun i hi => ?_, ?_⟩
      · have hi0 : i = 0 := by have : i < 1 := hi; omega
        subst hi0
        rw [show (tRaw 1).n = 1 from rfl, Nat.mul_one, Nat.add_zero]
        exact (hf j hj').1
      · have e : (((List.range ss.length).map f).map (fun u => [segV u])).getD j (tRaw 1).d = [segV (f j)] := by simp [List.getD, hj']
        rw [e]
        exact ⟨rfl, rfl, fun u hu => by simp at hu; subst hu; rfl⟩
    · have hj' : j < ss.length := by simpa using hj
      rw [hg j hj']; exact (hf j hj').2.2.2
    · rw [hg j hj]; exact ⟨(hf j hj).2.1, (hf j hj).2.2.1⟩
/-- Rows in a slice of the call's own that name what was there. -/
def RowsRaw (w0 w : World) (rs : List RowD) (e : Ending) (w' : World) : Prop := ∃ (v : Value) (L : List (List Value)), e = .returned v ∧ SlO 73 (tRaw 2) w' (since w) v L ∧ Sh tRow w0 L rs ∧ Below w.heap.size w w'
set_option maxHeartbeats 8000000 in
set_option maxRecDepth 100000 in
theorem segRowsAt (b0 : Nat) (u : SegV) (l : List VerD) (t : Int) (w0 w : World) (hw : Below w0.heap.size w0 w) (hb0 : w.heap[b0]? = some (segRow u)) (h : SlR tVersion w0 (cutV u) l) (hlu : u.2.1 = l.length) (hs : zL tVersion l ≤ 1048576) :
    Calls Try.prog 35 #[ptrV b0, .int .i64 t] w (RowsRaw w0 w (rowsV l t)) := by
  have hlen := zL_len hs
  obtain ⟨a, un, uc⟩ := u
  simp only at hlu
  subst hlu
  have H : Hid (SlR tVersion w0 (.slice a l.length l.length) l) := Lib.hid h
  have HW := Lib.hid hw
  have HB : Hid (w.heap[b0]? = some (.cells #[.slice a l.length l.length] 122 (0, 0))) := Lib.hid hb0
  have q0 := (cell_of_row w _ 0 _ _ _ HB.out).trans (show _ = some (Value.slice a l.length l.length) from rfl)
  clear h hb0 hs hw
  unfold ptrV
  go_enter Try.func35, Try.ntmps35
  go_wp2
  clear q0
  go_loopw [5, 13] (fun o i wr => ∃ (k : Nat) (L : List (List Value)), k ≤ l.length ∧ i = .int .i64 k ∧ SlO 73 (tRaw 2) wr (since w) o L ∧ Hid (Sh tRow w0 L (rowsV (l.take k) t)) ∧ Below w.heap.size w wr) (fun _ i _ => l.length - (intOf i).toNat)
  case atStart => exact ⟨0, [], Nat.zero_le _, rfl, slO_nil _ _ _ _, Lib.hid (sh_nil w0), Below.refl _ _⟩
  case round =>
    obtain ⟨k, L, hk, rfl, hown, hsh, hbel⟩ := hrel
    obtain ⟨oa, oc, rfl⟩ := slO_len hown
    by_cases hlt : k < l.length
    · have i1 : (0 : Int) ≤ (k : Int) := by omega
      have i2 : (k : Int) < (l.length : Int) := by omega
      obtain ⟨b, off, cap', xa, xc, hv, hbl, c0, c1, c2, c3, hx⟩ := verR_at H.out hlt
      simp only [Value.slice.injEq] at hv
      obtain ⟨rfl, _, rfl⟩ := hv
      have HTY := Lib.hid (fun g => rowsV_yes (t := t) hlt g)
      have HTN := Lib.hid (fun g => rowsV_no (t := t) hlt g)
      have HLL : Hid (L.length ≤ 1048576) := Lib.hid (by have h1 := sh_len hsh.out; have h2 := rowsV_take l t k; omega)
      generalize l.getD k v0D = x at *
      obtain ⟨id, xs, born, died⟩ := x
      simp only at c0 c1 c2 c3
      have HX := Lib.hid (ints_slR hx)
      have HV := Lib.hid (fun W => implVisible id born died t (.slice xa xs.length xc) W)
      have e0 := ((HW.out.trans (hbel.mono HW.out.size)).cell (p := ⟨b, off + k * 4, none⟩) hbl).trans c0
      have e1 := ((HW.out.trans (hbel.mono HW.out.size)).cell (p := ⟨b, off + k * 4 + 1, none⟩) hbl).trans c1
      have e2 := ((HW.out.trans (hbel.mono HW.out.size)).cell (p := ⟨b, off + k * 4 + 2, none⟩) hbl).trans c2
      have e3 := ((HW.out.trans (hbel.mono HW.out.size)).cell (p := ⟨b, off + k * 4 + 3, none⟩) hbl).trans c3
      have hal : Below wr.heap.size wr (wr.alloc (.cells #[.int .i64 id, .slice xa xs.length xc, .int .i64 born, .int .i64 died] 115)) := (Below.refl _ _).alloc (Nat.le_refl _) _
      have BV : Hid ((wr.alloc (.cells #[.int .i64 id, .slice xa xs.length xc, .int .i64 born, .int .i64 died] 115)).heap[wr.heap.size]? = some (.cells #[.int .i64 id, .slice xa xs.length xc, .int .i64 born, .int .i64 died] 115 (0, 0))) := Lib.hid (heap_alloc_new wr _)
      have YV : Hid (wr.heap.size < (wr.alloc (.cells #[.int .i64 id, .slice xa xs.length xc, .int .i64 born, .int .i64 died] 115)).heap.size) := Lib.hid (by simp [World.size_alloc])
      have PF := Lib.hid (slO_fresh (tRaw_law (by decide)) (slO_lt (tRaw_law (by decide)) hown) hal)
      have d := Lib.hid (hbel.trans (hal.mono hbel.size))
      have DZ := Lib.hid hbel.size
      clear hown hbel hal hx c0 c1 c2 c3 hbl
      go_wp2_with fail
      clear e0 e1 e2 e3
      generalize wr.alloc (.cells #[.int .i64 id, .slice xa xs.length xc, .int .i64 born, .int .i64 died] 115) = W1 at *
      cases hvis : decide (visP born died t) with
      | false =>
        have HT2 := Lib.hid (HTN.out hvis)
        rw [hvis] at HV
        clear hvis HTY HTN
        refine (HV.out W1).mono ?_
        rintro e w2 ⟨rfl, b2⟩
        have PF2 := Lib.hid (slO_fresh (tRaw_law (by decide)) PF.out b2)
        have d2 := Lib.hid (d.out.trans (b2.mono d.out.size))
        clear PF d b2
        go_wp2
        go_roundw
        case rel => exact ⟨k + 1, L, by omega, by go_num, slO_mono PF2.out (fun b h => h.1), Lib.hid (by rw [HT2.out]; exact hsh.out), d2.out⟩
        case measure => simp [intOf]; omega
      | true =>
        have HT2 := Lib.hid (HTY.out hvis)
        rw [hvis] at HV
        clear hvis HTY HTN
        refine (HV.out W1).mono ?_
        rintro e w2 ⟨rfl, b2⟩
        have kv := (b2.block wr.heap.size YV.out).trans BV.out
        have p0 := (cell_of_row w2 _ 0 _ _ _ kv).trans (show _ = some (Value.int .i64 id) from rfl)
        have p1 := (cell_of_row w2 _ 1 _ _ _ kv).trans (show _ = some (Value.slice xa xs.length xc) from rfl)
        have p2 := (cell_of_row w2 _ 2 _ _ _ kv).trans (show _ = some (Value.int .i64 born) from rfl)
        have p3 := (cell_of_row w2 _ 3 _ _ _ kv).trans (show _ = some (Value.int .i64 died) from rfl)
        have PF2 := Lib.hid (slO_fresh (tRaw_law (by decide)) PF.out b2)
        have d2 := Lib.hid (d.out.trans (b2.mono d.out.size))
        have Z2 := Lib.hid b2.size
        clear PF d b2 kv
        go_wp2_with fail
        refine (verRow_any id born died xa xs.length xc w2).mono ?_
        rintro e w3 ⟨rfl, b3⟩
        clear p0 p1 p2 p3
        have PF3 := Lib.hid (slO_fresh (tRaw_law (by decide)) PF2.out b3)
        have d3 := Lib.hid (d2.out.trans (b3.mono d2.out.size))
        have Z3 := Lib.hid (Nat.le_trans (Nat.le_of_lt YV.out) (Nat.le_trans Z2.out b3.size))
        have ON : Hid ((tRaw 2).O w3 (fun b => wr.heap.size ≤ b) [.int .i64 id, .slice xa xs.length xc] [.int .i64 id, .slice xa xs.length xc]) := Lib.hid ⟨rfl, rfl, by simp [Value.oneCell']⟩
        clear PF2 d2 b3
        go_wp2_with (at_builtin; refine append_T (tRaw_law (by decide)) info_R_Row Try.underlying26 rfl rfl (.tmp 20) (.tmp 23) rfl (since w) wr.heap.size _ L rfl PF3.out Z3.out (fun b hb => Nat.le_trans DZ.out hb) HLL.out [.int .i64 id, .slice xa xs.length xc] [.int .i64 id, .slice xa xs.length xc] ON.out (by simp [Value.oneCell']) 1 _ rfl rfl ?_)
        intro v' w4 o4 t4
        have d4 := Lib.hid (below_turn d3.out t4 (fun b hb => hb.1) d3.out.size)
        have SH : Hid (Sh tRow w0 (L ++ [[.int .i64 id, .slice xa xs.length xc]]) (rowsV (List.take (k + 1) l) t)) := Lib.hid (by rw [HT2.out]; exact sh_app hsh.out (sh_one (tRow_mkR HX.out)))
        have O4 := Lib.hid o4
        clear PF3 d3 t4 o4
        go_wp2
        go_roundw
        case rel => exact ⟨k + 1, _, by omega, by go_num, O4.out, SH, d4.out⟩
        case measure => simp [intOf]; omega
    · obtain rfl : k = l.length := by omega
      rw [List.take_length] at hsh
      go_wp2
      go_ret
      exact ⟨_, L, rfl, hown, hsh.out, hbel⟩
end Go.Proofs.Ytdhglmoanpkeoaa
namespace Go.Proofs.Ytdhglmoanpkeoaa
open Go.RowKit
set_option linter.unusedVariables false
set_option linter.unusedSimpArgs false
def possP (ss : List (List VerD)) (now : Int) : Prop := ShortP ss ss.length ∧ VersP ss.flatten now ss.flatten.length
instance (ss : List (List VerD)) (now : Int) : Decidable (possP ss now) := by unfold possP; infer_instance
def possB (ss : List (List VerD)) (now : Int) : Bool := decide (possP ss now)
theorem poss_short {ss : List (List VerD)} {now : Int} {i : Nat} (hi : i < ss.length) (h : ¬ (ss.getD i []).length ≤ 4) : possB ss now = false := decide_eq_false (fun g => h (g.1 i hi))
theorem poss_ver {ss : List (List VerD)} {now : Int} {i : Nat} (hi : i < ss.flatten.length) (h : verB (ss.flatten.getD i v0D) now = false) : possB ss now = false := decide_eq_false (fun g => by
  have := (g.2 i hi).1; rw [h] at this; cases this)
theorem take_get {l : List VerD} {i j : Nat} (h : j < (l.take i).length) : (l.take i)[j] = l.getD j v0D := by
  have h2 : j < i ∧ j < l.length := by rw [List.length_take] at h; omega
  simp [List.getD, h2.1, h2.2]
/-- One that is seen with an earlier one: the store is not possible. -/
theorem poss_seen {ss : List (List VerD)} {now : Int} {i : Nat} (hv : VersP ss.flatten now i) (hi : i < ss.flatten.length) (h1 : verB (ss.flatten.getD i v0D) now = true) (h : anyB (ss.flatten.getD i v0D) (ss.flatten.take i) = true) : possB ss now = false := decide_eq_false (fun g => by
  unfold anyB at h
  rw [List.any_eq_true] at h
  obtain ⟨y, hy, hs⟩ := h
  obtain ⟨j, hj, rfl⟩ := List.getElem_of_mem hy
  have hji : j < i := by rw [List.length_take] at hj; omega
  have e : (ss.flatten.take i)[j] = ss.flatten.getD j v0D := take_get hj
  rw [e, seenB_apart h1 (hv j hji).1, (g.2 i hi).2 j hji] at hs
  cases hs)
theorem poss_step {ss : List (List VerD)} {now : Int} {i : Nat} (hv : VersP ss.flatten now i) (hi : i < ss.flatten.length) (h1 : verB (ss.flatten.getD i v0D) now = true) (h : anyB (ss.flatten.getD i v0D) (ss.flatten.take i) = false) : VersP ss.flatten now (i + 1) := by
  refine vers_step hv h1 (fun k hk => ?_)
  unfold anyB at h
  rw [List.any_eq_false] at h
  have hkl : k < (ss.flatten.take i).length := by rw [List.length_take]; omega
  have := h _ (List.getElem_mem hkl)
  have e : (ss.flatten.take i)[k] = ss.flatten.getD k v0D := take_get hkl
  rw [e, seenB_apart h1 (hv k hk).1] at this
  simpa using this
theorem poss_yes {ss : List (List VerD)} {now : Int} (h1 : ShortP ss ss.length) (h2 : VersP ss.flatten now ss.flatten.length) : possB ss now = true := decide_eq_true ⟨h1, h2⟩
theorem store_poss (ss : List (List VerD)) (now : Int) : storeB ss now = (decide (1 ≤ (ss.length : Int) ∧ (ss.length : Int) ≤ 8) && decide (0 ≤ now ∧ now ≤ 100000) && possB ss now) := by
  unfold storeB possB
  by_cases h1 : 1 ≤ ss.length ∧ ss.length ≤ 8
  · by_cases h2 : 0 ≤ now ∧ now ≤ 100000
    · rw [decide_eq_true (show 1 ≤ (ss.length : Int) ∧ (ss.length : Int) ≤ 8 by omega), decide_eq_true h2]
      by_cases h3 : possP ss now
      · rw [decide_eq_true h3, decide_eq_true ⟨⟨h1, h2⟩, h3⟩]; rfl
      · rw [decide_eq_false h3, decide_eq_false (fun g => h3 g.2)]; rfl
    · rw [decide_eq_false h2, decide_eq_false (fun g => h2 g.1.2), Bool.and_false]; rfl
  · rw [decide_eq_false (show ¬ (1 ≤ (ss.length : Int) ∧ (ss.length : Int) ≤ 8) by omega), decide_eq_false (fun g => h1 g.1.1)]; rfl
theorem cat_take (ss : List (List VerD)) (k : Nat) : ss.flatten.take (cat ss k).length = cat ss k := by
  unfold cat
  have e : ss.flatten = (ss.take k).flatten ++ (ss.drop k).flatten := by rw [← List.flatten_append, List.take_append_drop]
  rw [e, List.take_left]
set_option maxHeartbeats 16000000 in
set_option maxRecDepth 100000 in
theorem isPossible_any (B g : Nat) (bs : List Nat) (us : List SegV) (ss : List (List VerD)) (now : Int) (w : World) (ht : TabN B w g bs us) (hr : SegsR w us ss) (hs : zL tVersionS ss ≤ 1048576) :
    Calls Try.prog 94 #[.slice (some ⟨g, 0, none⟩) us.length us.length, .int .i64 now] w (fun e w' => e = .returned (.bool (possB ss now)) ∧ Below w.heap.size w w') := by
  have hlen := zL_len hs
  have HZF : Hid (zL tVersion ss.flatten ≤ 1048576) := Lib.hid (by have := zL_all ss; omega)
  have HFL := Lib.hid (zL_len HZF.out)
  have HS := Lib.hid hs
  have hul := hr.1
  have HR := Lib.hid hr
  have HT := Lib.hid ht
  rw [hul]
  have HUL := Lib.hid hul
  clear ht hr hs hul
  go_enter Try.func94, Try.ntmps94
  go_wp2
  go_loopw [5, 12] (fun o i wr => ∃ (k : Nat) (L : List (List Value)), k ≤ ss.length ∧ i = .int .i64 k ∧ SlO 115 (tRaw 4) wr (since w) o L ∧ Hid (Sh tVersion w L (cat ss k)) ∧ Hid (ShortP ss k) ∧ Hid (VersP ss.flatten now (cat ss k).length) ∧ Below w.heap.size w wr) (fun _ i _ => ss.length - (intOf i).toNat)
  case atStart => exact ⟨0, [], Nat.zero_le _, rfl, slO_nil _ _ _ _, Lib.hid (by rw [cat_zero]; exact sh_nil w), Lib.hid (fun j hj => by omega), Lib.hid (by rw [cat_zero]; exact fun j hj => by simp at hj), Below.refl _ _⟩
  case round =>
    obtain ⟨k, L, hk, rfl, hown, hsh, hshort, hvers, hbel⟩ := hrel
    obtain ⟨oa, oc, rfl⟩ := slO_len hown
    by_cases hlt : k < ss.length
    · have i1 : (0 : Int) ≤ (k : Int) := by omega
      have i2 : (k : Int) < (ss.length : Int) := by omega
      obtain ⟨_, tg, tl, trow, _⟩ := tabN_below HT.out hbel
      obtain ⟨r0, r1, _⟩ := trow k (by have := HUL.out; omega)
      obtain ⟨s1, s2⟩ := HR.out.2 k hlt
      have HSM := Lib.hid (zL_seg hlt)
      have HCI := Lib.hid (fun j hj => cat_in (ss := ss) (k := k) (j := j) hlt hj)
      have HCL := Lib.hid (cat_len hlt)
      have HCF := Lib.hid (cat_le ss (k + 1))
      have HNS := Lib.hid (fun h => poss_short (ss := ss) (now := now) hlt h)
      have HYS : Hid ((ss.getD k []).length ≤ 4 → ShortP ss (k + 1)) := Lib.hid (fun g j hj => by
        by_cases e : j = k
        · rw [e]; exact g
        · exact hshort.out j (by omega))
      have HVS := hvers
      have HSH := hsh
      have HOW := Lib.hid hown
      have HB := Lib.hid hbel
      clear trow tg tl hown hbel hshort hvers hsh
      generalize us.getD k s0V = u at *
      generalize bs.getD k 0 = pb at *
      obtain ⟨ua, m0, uc⟩ := u
      simp only at s2
      subst s2
      have p1 := (cell_of_row wr _ 0 _ _ _ r1).trans (show _ = some (Value.slice ua (ss.getD k []).length (ss.getD k []).length) from rfl)
      have P1 := Lib.hid p1
      have RS : Hid (SlR tVersion w (.slice ua (ss.getD k []).length (ss.getD k []).length) (ss.getD k [])) := Lib.hid s1
      have RR := Lib.hid r0
      unfold ptrV at r0
      clear s1 r1
      have HML : Hid ((ss.getD k []).length ≤ 1048576) := Lib.hid (zL_len (T := tVersion) (Nat.le_trans HSM.out HS.out))
      generalize ss.getD k [] = seg at *
      obtain ⟨m, hm⟩ : ∃ m, m = seg.length := ⟨_, rfl⟩
      have HM := Lib.hid hm
      rw [← hm] at p1 P1 RS HCL HML HNS HYS
      clear hm
      by_cases h4 : m ≤ 4
      rotate_left
      · have HF := Lib.hid (HNS.out h4)
        have h5 : (4 : Int) < (m : Int) := by omega
        clear HNS HYS
        go_wp2
        go_ret
        exact ⟨ret_b HF.out.symm, HB.out⟩
      have HSK := Lib.hid (HYS.out h4)
      have h5 : ¬ (4 : Int) < (m : Int) := by omega
      clear HNS HYS
      go_wp2
      clear r0 p1 h5
      go_loopw [5, 27] (fun o i wi => ∃ (j : Nat) (L : List (List Value)), j ≤ m ∧ i = .int .i64 j ∧ SlO 115 (tRaw 4) wi (since w) o L ∧ Hid (Sh tVersion w L (ss.flatten.take ((cat ss k).length + j))) ∧ Hid (VersP ss.flatten now ((cat ss k).length + j)) ∧ Below w.heap.size w wi) (fun _ i _ => m - (intOf i).toNat)
      case atStart => exact ⟨0, L, Nat.zero_le _, rfl, HOW.out, Lib.hid (by rw [Nat.add_zero, cat_take]; exact HSH.out), Lib.hid (by rw [Nat.add_zero]; exact HVS.out), HB.out⟩
      case round =>
        obtain ⟨j, L2, hj, rfl, hown, hsh, hvers, hbel⟩ := hrel
        clear HOW HSH HVS HB
        obtain ⟨oa2, oc2, rfl⟩ := slO_len hown
        by_cases hjl : j < m
        · have j1 : (0 : Int) ≤ (j : Int) := by omega
          have j2 : (j : Int) < (m : Int) := by omega
          have hjs : j < seg.length := by have := HM.out; omega
          obtain ⟨b, off, cap', xa, xc, hv, hbl, c0, c1, c2, c3, hx⟩ := verR_at RS.out hjs
          simp only [Value.slice.injEq] at hv
          obtain ⟨rfl, hm1, hm2⟩ := hv
          clear hm1 hm2
          have hif : (cat ss k).length + j < ss.flatten.length := by have := HCL.out; have := HCF.out; omega
          have hci := HCI.out j hjs
          have HXL := Lib.hid (ver_len (l := ss.flatten) HZF.out hif)
          have HNV := Lib.hid (fun q => poss_ver (ss := ss) (now := now) hif q)
          have HNA := Lib.hid (fun q r => poss_seen (ss := ss) (now := now) hvers.out hif q r)
          have HST := Lib.hid (fun q r => poss_step (ss := ss) (now := now) hvers.out hif q r)
          have HTK := Lib.hid (take_getD hif)
          rw [hci] at HXL HNV HNA HST HTK
          have HLL : Hid (L2.length ≤ 1048576 ∧ (ss.flatten.take ((cat ss k).length + j)).length ≤ 1048576) := Lib.hid (by
            have h1 := sh_len hsh.out; have h2 := HFL.out; rw [List.length_take] at h1 ⊢; omega)
          clear hci hif hvers
          generalize seg.getD j v0D = x at *
          obtain ⟨id, xs, born, died⟩ := x
          simp only at c0 c1 c2 c3 HXL
          have e0 := (hbel.cell (p := ⟨b, off + j * 4, none⟩) hbl).trans c0
          have e1 := (hbel.cell (p := ⟨b, off + j * 4 + 1, none⟩) hbl).trans c1
          have e2 := (hbel.cell (p := ⟨b, off + j * 4 + 2, none⟩) hbl).trans c2
          have e3 := (hbel.cell (p := ⟨b, off + j * 4 + 3, none⟩) hbl).trans c3
          have hal : Below wr.heap.size wr (wr.alloc (.cells #[.int .i64 id, .slice xa xs.length xc, .int .i64 born, .int .i64 died] 115)) := (Below.refl _ _).alloc (Nat.le_refl _) _
          have BV : Hid ((wr.alloc (.cells #[.int .i64 id, .slice xa xs.length xc, .int .i64 born, .int .i64 died] 115)).heap[wr.heap.size]? = some (.cells #[.int .i64 id, .slice xa xs.length xc, .int .i64 born, .int .i64 died] 115 (0, 0))) := Lib.hid (heap_alloc_new wr _)
          have YV : Hid (wr.heap.size < (wr.alloc (.cells #[.int .i64 id, .slice xa xs.length xc, .int .i64 born, .int .i64 died] 115)).heap.size) := Lib.hid (by simp [World.size_alloc])
          have PF := Lib.hid (slO_fresh (tRaw_law (by decide)) (slO_lt (tRaw_law (by decide)) hown) hal)
          have d := Lib.hid (hbel.trans (hal.mono hbel.size))
          have DZ := Lib.hid hbel.size
          have HX : Hid (Ints w (.slice xa xs.length xc) xs) := Lib.hid hx
          have HSH := hsh
          have HIV := Lib.hid (fun W h => isVersion_any id born died now (.slice xa xs.length xc) xs W h HXL.out)
          clear hown hbel hal hx c0 c1 c2 c3 hbl hsh
          cases hver : verB (id, xs, born, died) now with
          | false =>
            have HF := Lib.hid (HNV.out hver)
            rw [hver] at HIV
            clear hver HNV HNA HST
            go_wp2_with fail
            clear e0 e1 e2 e3
            generalize wr.alloc (.cells #[.int .i64 id, .slice xa xs.length xc, .int .i64 born, .int .i64 died] 115) = W1 at *
            refine (HIV.out W1 (ints_below HX.out d.out)).mono ?_
            rintro e w2 ⟨rfl, b2⟩
            have d2 := d.out.trans (b2.mono d.out.size)
            go_wp2
            go_ret
            exact ⟨ret_b HF.out.symm, d2⟩
          | true =>
            have HNA2 := Lib.hid (fun r => HNA.out hver r)
            have HST2 := Lib.hid (fun r => HST.out hver r)
            rw [hver] at HIV
            clear hver HNV HNA HST
            go_wp2_with fail
            clear e0 e1 e2 e3
            generalize wr.alloc (.cells #[.int .i64 id, .slice xa xs.length xc, .int .i64 born, .int .i64 died] 115) = W1 at *
            refine (HIV.out W1 (ints_below HX.out d.out)).mono ?_
            rintro e w2 ⟨rfl, b2⟩
            have kv := (b2.block wr.heap.size YV.out).trans BV.out
            have p0 := (cell_of_row w2 _ 0 _ _ _ kv).trans (show _ = some (Value.int .i64 id) from rfl)
            have p1 := (cell_of_row w2 _ 1 _ _ _ kv).trans (show _ = some (Value.slice xa xs.length xc) from rfl)
            have p2 := (cell_of_row w2 _ 2 _ _ _ kv).trans (show _ = some (Value.int .i64 born) from rfl)
            have p3 := (cell_of_row w2 _ 3 _ _ _ kv).trans (show _ = some (Value.int .i64 died) from rfl)
            have KV := Lib.hid kv
            have PF2 := Lib.hid (slO_fresh (tRaw_law (by decide)) PF.out b2)
            have d2 := Lib.hid (d.out.trans (b2.mono d.out.size))
            have Z2 := Lib.hid (Nat.lt_of_lt_of_le YV.out b2.size)
            have HO := Lib.hid (raw_reads (T := tVersion) (by decide) PF2.out (sh_below tVersion_law HSH.out d2.out))
            have HCS := Lib.hid (fun W h => containsSeen (.slice oa2 L2.length oc2) (ss.flatten.take ((cat ss k).length + j)) id born died xs xa xs.length xc W h HLL.out.2)
            clear PF d b2 kv
            cases hany : anyB (id, xs, born, died) (ss.flatten.take ((cat ss k).length + j)) with
            | true =>
              have HF := Lib.hid (HNA2.out hany)
              rw [hany] at HCS
              clear hany HNA2 HST2
              go_wp2_with fail
              refine (HCS.out w2 HO.out).mono ?_
              rintro e w3 ⟨rfl, b3⟩
              have d3 := d2.out.trans (b3.mono d2.out.size)
              clear p0 p1 p2 p3
              go_wp2
              go_ret
              exact ⟨ret_b HF.out.symm, d3⟩
            | false =>
              have HV2 := Lib.hid (HST2.out hany)
              rw [hany] at HCS
              clear hany HNA2 HST2
              go_wp2_with fail
              refine (HCS.out w2 HO.out).mono ?_
              rintro e w3 ⟨rfl, b3⟩
              have kv := (b3.block wr.heap.size Z2.out).trans KV.out
              clear p0 p1 p2 p3
              have p0 := (cell_of_row w3 _ 0 _ _ _ kv).trans (show _ = some (Value.int .i64 id) from rfl)
              have p1 := (cell_of_row w3 _ 1 _ _ _ kv).trans (show _ = some (Value.slice xa xs.length xc) from rfl)
              have p2 := (cell_of_row w3 _ 2 _ _ _ kv).trans (show _ = some (Value.int .i64 born) from rfl)
              have p3 := (cell_of_row w3 _ 3 _ _ _ kv).trans (show _ = some (Value.int .i64 died) from rfl)
              have PF3 := Lib.hid (slO_fresh (tRaw_law (by decide)) PF2.out b3)
              have d3 := Lib.hid (d2.out.trans (b3.mono d2.out.size))
              have Z3 := Lib.hid (Nat.le_trans (Nat.le_of_lt Z2.out) b3.size)
              have ON : Hid ((tRaw 4).O w3 (fun b => wr.heap.size ≤ b) [.int .i64 id, .slice xa xs.length xc, .int .i64 born, .int .i64 died] [.int .i64 id, .slice xa xs.length xc, .int .i64 born, .int .i64 died]) := Lib.hid ⟨rfl, rfl, by simp [Value.oneCell']⟩
              clear PF2 d2 b3 kv KV HO
              go_wp2_with (at_builtin; refine append_T (tRaw_law (by decide)) info_R_Version Try.underlying61 rfl rfl (.tmp 41) (.tmp 43) rfl (since w) wr.heap.size _ L2 rfl PF3.out Z3.out (fun b hb => Nat.le_trans DZ.out hb) HLL.out.1 [.int .i64 id, .slice xa xs.length xc, .int .i64 born, .int .i64 died] [.int .i64 id, .slice xa xs.length xc, .int .i64 born, .int .i64 died] ON.out (by simp [Value.oneCell']) 1 _ rfl rfl ?_)
              intro v' w4 o4 t4
              have d4 := Lib.hid (below_turn d3.out t4 (fun b hb => hb.1) d3.out.size)
              have SH : Hid (Sh tVersion w (L2 ++ [[.int .i64 id, .slice xa xs.length xc, .int .i64 born, .int .i64 died]]) (ss.flatten.take ((cat ss k).length + (j + 1)))) := Lib.hid (by rw [← Nat.add_assoc, HTK.out]; exact sh_app HSH.out (sh_one (tVersion_mkR (ints_slR HX.out))))
              have O4 := Lib.hid o4
              clear PF3 d3 t4 o4 p0 p1 p2 p3
              go_wp2
              go_roundw
              case rel => exact ⟨j + 1, _, by omega, by go_num, O4.out, SH, HV2, d4.out⟩
              case measure => simp [intOf]; omega
        · obtain rfl : j = m := by omega
          have SH : Hid (Sh tVersion w L2 (cat ss (k + 1))) := Lib.hid (by have := hsh.out; rw [← HCL.out, cat_take] at this; exact this)
          have HV2 : Hid (VersP ss.flatten now (cat ss (k + 1)).length) := Lib.hid (by rw [HCL.out]; exact hvers.out)
          have O2 := Lib.hid hown
          have HB := Lib.hid hbel
          clear hsh hvers hown hbel
          go_wp2
          go_roundw
          case rel => exact ⟨k + 1, L2, by omega, by go_num, O2.out, SH, HSK, HV2, HB.out⟩
          case measure => simp [intOf]; omega
    · obtain rfl : k = ss.length := by omega
      have HY := Lib.hid (poss_yes hshort.out (by have := hvers.out; rw [cat_all] at this; exact this))
      clear hsh hshort hvers
      go_wp2
      go_ret
      exact ⟨ret_b HY.out.symm, hbel⟩
end Go.Proofs.Ytdhglmoanpkeoaa
namespace Go.Proofs.Ytdhglmoanpkeoaa
open Go.RowKit
set_option linter.unusedVariables false
set_option linter.unusedSimpArgs false
set_option maxHeartbeats 8000000 in
set_option maxRecDepth 100000 in
theorem implIsStore (sv : Value) (ss : List (List VerD)) (now : Int) (w : World) (h : SlR tVersionS w sv ss) (hs : zL tVersionS ss ≤ 1048576) :
    Calls Try.prog 42 #[.agg #[sv, .int .i64 now]] w (fun e w' => e = .returned (.bool (storeB ss now)) ∧ Below w.heap.size w w') := by
  obtain ⟨us, hls, hsr⟩ := slR_ls h
  have HUL := Lib.hid hsr.1
  obtain ⟨a, cap, rfl⟩ := slR_len h
  have hlen := zL_len hs
  have HSS := Lib.hid hs
  have H := Lib.hid h
  have HLS := Lib.hid hls
  have HSR := Lib.hid hsr
  have d0 := Lib.hid (show Below w.heap.size w (w.alloc (.cells #[.slice a ss.length cap, .int .i64 now] 30)) from (Below.refl _ _).alloc (Nat.le_refl _) _)
  have B0 : Hid ((w.alloc (.cells #[.slice a ss.length cap, .int .i64 now] 30)).heap[w.heap.size]? = some (.cells #[.slice a ss.length cap, .int .i64 now] 30 (0, 0))) := Lib.hid (heap_alloc_new w _)
  have Y0 : Hid (w.heap.size < (w.alloc (.cells #[.slice a ss.length cap, .int .i64 now] 30)).heap.size) := Lib.hid (by simp [World.size_alloc])
  clear hls hsr h hs
  rw [store_poss]
  have HC1 := Lib.hid (isSegmentCount_any (ss.length : Int))
  have HC2 := Lib.hid (isTime_any now)
  have HPS : Hid (∀ (B g : Nat) (bs : List Nat) (W : World), TabN B W g bs us → SegsR W us ss → Calls Try.prog 94 #[.slice (some ⟨g, 0, none⟩) us.length us.length, .int .i64 now] W (fun e w' => e = .returned (.bool (possB ss now)) ∧ Below W.heap.size W w')) := Lib.hid (fun B g bs W h1 h2 => isPossible_any B g bs us ss now W h1 h2 HSS.out)
  have HTB := Lib.hid (fun W h => tableOf_any (.slice a ss.length cap) us W h (by have := HUL.out; omega))
  generalize possB ss now = pb at *
  have B1 := B0
  have d := d0
  cases hc1 : decide (1 ≤ (ss.length : Int) ∧ (ss.length : Int) ≤ 8) with
  | false =>
    rw [hc1] at HC1
    rw [Bool.false_and, Bool.false_and]
    clear hc1
    go_enter Try.func42, Try.ntmps42
    go_wp2
    generalize w.alloc (.cells #[.slice a ss.length cap, .int .i64 now] 30) = W at *
    have p_B0_0 := (cell_of_row W _ 0 _ _ _ B0.out).trans (show _ = some (Value.slice a ss.length cap) from rfl)
    have p_B0_1 := (cell_of_row W _ 1 _ _ _ B0.out).trans (show _ = some (Value.int .i64 now) from rfl)
    refine wp_region_held_drew (S := fun w' => w'.cell? ⟨w.heap.size, 0, none⟩ = some (Value.slice a ss.length cap) ∧ w'.cell? ⟨w.heap.size, 1, none⟩ = some (Value.int .i64 now)) (by kernel_rfl) ⟨p_B0_0, p_B0_1⟩ (fun hHeld => ?_)
    clear p_B0_0 p_B0_1
    have cdr : Below W.heap.size W W.drew := below_drew (Below.refl _ _)
    replace B0 := Lib.hid ((cdr.block w.heap.size (Array.getElem?_eq_some_iff.1 B0.out).1).trans B0.out)
    replace d := Lib.hid (d.out.trans (cdr.mono d.out.size))
    clear cdr
    refine take_runs (i := 0) (v := ?_) (by simp only [List.getElem?_toArray, List.getElem?_cons_succ, List.getElem?_cons_zero]; rfl) (by kernel_rfl) (by kernel_rfl) (by kernel_rfl) rfl (by exact fun _ _ _ h => h) (by rfl) ?_ (by assumption) ?_
    rotate_left
    · intro w hSw; (try dsimp only at hSw); go_simp; try (with_reducible rfl)
    try simp only [Act.put, List.setIfInBounds_toArray, List.set_cons_zero, List.set_cons_succ]
    refine take_runs (i := 1) (v := ?_) (by simp only [List.getElem?_toArray, List.getElem?_cons_succ, List.getElem?_cons_zero]; rfl) (by kernel_rfl) (by kernel_rfl) (by kernel_rfl) rfl (by exact fun _ _ _ h => h) (by rfl) ?_ (by assumption) ?_
    rotate_left
    · intro w hSw; (try dsimp only at hSw); go_simp; try (with_reducible rfl)
    try simp only [Act.put, List.setIfInBounds_toArray, List.set_cons_zero, List.set_cons_succ]
    refine take_runs (i := 2) (v := ?_) (by simp only [List.getElem?_toArray, List.getElem?_cons_succ, List.getElem?_cons_zero]; rfl) (by kernel_rfl) (by kernel_rfl) (by kernel_rfl) rfl (by exact fun _ _ _ h => h) (by rfl) ?_ (by assumption) ?_
    rotate_left
    · intro w hSw; (try dsimp only at hSw); go_simp; try (with_reducible rfl)
    try simp only [Act.put, List.setIfInBounds_toArray, List.set_cons_zero, List.set_cons_succ]
    refine wpAnyH_ready (rs := [3]) (by kernel_rfl) (by simp) ?_
    refine (AllReadyH.cons (o := _) (by simp only [List.getElem?_toArray, List.getElem?_cons_succ, List.getElem?_cons_zero]; rfl) (fun K hK => ?_) AllReadyH.nil)
    go_simp
    refine (HC1.out (W.drew)).mono ?_
    rintro e wx ⟨rfl, rfl⟩
    have p_B0_0 := (cell_of_row (W.drew) _ 0 _ _ _ B0.out).trans (show _ = some (Value.slice a ss.length cap) from rfl)
    have p_B0_1 := (cell_of_row (W.drew) _ 1 _ _ _ B0.out).trans (show _ = some (Value.int .i64 now) from rfl)
    refine hK.out _ _ ⟨p_B0_0, p_B0_1⟩ (fun hHeld => ?_)
    clear p_B0_0 p_B0_1
    clear hK K
    try simp only [Act.put, List.setIfInBounds_toArray, List.set_cons_zero, List.set_cons_succ]
    refine take_runs (i := 4) (v := ?_) (by simp only [List.getElem?_toArray, List.getElem?_cons_succ, List.getElem?_cons_zero]; rfl) (by kernel_rfl) (by kernel_rfl) (by kernel_rfl) rfl (by exact fun _ _ _ h => h) (by rfl) ?_ (by assumption) ?_
    rotate_left
    · intro w hSw; (try dsimp only at hSw); go_simp; try (with_reducible rfl)
    try simp only [Act.put, List.setIfInBounds_toArray, List.set_cons_zero, List.set_cons_succ]
    refine take_over (i := 5) (by simp only [List.getElem?_toArray, List.getElem?_cons_succ, List.getElem?_cons_zero]; rfl) (by kernel_rfl) (by kernel_rfl) (by kernel_rfl) rfl (by exact fun _ _ _ h => h) (by rfl) (by assumption) ?_
    try simp only [Act.put, List.setIfInBounds_toArray, List.set_cons_zero, List.set_cons_succ]
    refine take_over (i := 6) (by simp only [List.getElem?_toArray, List.getElem?_cons_succ, List.getElem?_cons_zero]; rfl) (by kernel_rfl) (by kernel_rfl) (by kernel_rfl) rfl (by exact fun _ _ _ h => h) (by rfl) (by assumption) ?_
    try simp only [Act.put, List.setIfInBounds_toArray, List.set_cons_zero, List.set_cons_succ]
    refine take_over (i := 7) (by simp only [List.getElem?_toArray, List.getElem?_cons_succ, List.getElem?_cons_zero]; rfl) (by kernel_rfl) (by kernel_rfl) (by kernel_rfl) rfl (by exact fun _ _ _ h => h) (by rfl) (by assumption) ?_
    try simp only [Act.put, List.setIfInBounds_toArray, List.set_cons_zero, List.set_cons_succ]
    refine take_runs (i := 8) (v := ?_) (by simp only [List.getElem?_toArray, List.getElem?_cons_succ, List.getElem?_cons_zero]; rfl) (by kernel_rfl) (by kernel_rfl) (by kernel_rfl) rfl (by exact fun _ _ _ h => h) (by rfl) ?_ (by assumption) ?_
    rotate_left
    · intro w hSw; (try dsimp only at hSw); go_simp; try (with_reducible rfl)
    try simp only [Act.put, List.setIfInBounds_toArray, List.set_cons_zero, List.set_cons_succ]
    refine take_runs (i := 9) (v := ?_) (by simp only [List.getElem?_toArray, List.getElem?_cons_succ, List.getElem?_cons_zero]; rfl) (by kernel_rfl) (by kernel_rfl) (by kernel_rfl) rfl (by exact fun _ _ _ h => h) (by rfl) ?_ (by assumption) ?_
    rotate_left
    · intro w hSw; (try dsimp only at hSw); go_simp; try (with_reducible rfl)
    try simp only [Act.put, List.setIfInBounds_toArray, List.set_cons_zero, List.set_cons_succ]
    refine take_over (i := 10) (by simp only [List.getElem?_toArray, List.getElem?_cons_succ, List.getElem?_cons_zero]; rfl) (by kernel_rfl) (by kernel_rfl) (by kernel_rfl) rfl (by exact fun _ _ _ h => h) (by rfl) (by assumption) ?_
    try simp only [Act.put, List.setIfInBounds_toArray, List.set_cons_zero, List.set_cons_succ]
    refine take_over (i := 11) (by simp only [List.getElem?_toArray, List.getElem?_cons_succ, List.getElem?_cons_zero]; rfl) (by kernel_rfl) (by kernel_rfl) (by kernel_rfl) rfl (by exact fun _ _ _ h => h) (by rfl) (by assumption) ?_
    try simp only [Act.put, List.setIfInBounds_toArray, List.set_cons_zero, List.set_cons_succ]
    refine take_over (i := 12) (by simp only [List.getElem?_toArray, List.getElem?_cons_succ, List.getElem?_cons_zero]; rfl) (by kernel_rfl) (by kernel_rfl) (by kernel_rfl) rfl (by exact fun _ _ _ h => h) (by rfl) (by assumption) ?_
    try simp only [Act.put, List.setIfInBounds_toArray, List.set_cons_zero, List.set_cons_succ]
    refine take_over (i := 13) (by simp only [List.getElem?_toArray, List.getElem?_cons_succ, List.getElem?_cons_zero]; rfl) (by kernel_rfl) (by kernel_rfl) (by kernel_rfl) rfl (by exact fun _ _ _ h => h) (by rfl) (by assumption) ?_
    try simp only [Act.put, List.setIfInBounds_toArray, List.set_cons_zero, List.set_cons_succ]
    refine take_over (i := 14) (by simp only [List.getElem?_toArray, List.getElem?_cons_succ, List.getElem?_cons_zero]; rfl) (by kernel_rfl) (by kernel_rfl) (by kernel_rfl) rfl (by exact fun _ _ _ h => h) (by rfl) (by assumption) ?_
    try simp only [Act.put, List.setIfInBounds_toArray, List.set_cons_zero, List.set_cons_succ]
    refine take_over (i := 15) (by simp only [List.getElem?_toArray, List.getElem?_cons_succ, List.getElem?_cons_zero]; rfl) (by kernel_rfl) (by kernel_rfl) (by kernel_rfl) rfl (by exact fun _ _ _ h => h) (by rfl) (by assumption) ?_
    try simp only [Act.put, List.setIfInBounds_toArray, List.set_cons_zero, List.set_cons_succ]
    refine take_runs (i := 16) (v := ?_) (by simp only [List.getElem?_toArray, List.getElem?_cons_succ, List.getElem?_cons_zero]; rfl) (by kernel_rfl) (by kernel_rfl) (by kernel_rfl) rfl (by exact fun _ _ _ h => h) (by rfl) ?_ (by assumption) ?_
    rotate_left
    · intro w hSw; (try dsimp only at hSw); go_simp; try (with_reducible rfl)
    try simp only [Act.put, List.setIfInBounds_toArray, List.set_cons_zero, List.set_cons_succ]
    refine take_runs (i := 17) (v := ?_) (by simp only [List.getElem?_toArray, List.getElem?_cons_succ, List.getElem?_cons_zero]; rfl) (by kernel_rfl) (by kernel_rfl) (by kernel_rfl) rfl (by exact fun _ _ _ h => h) (by rfl) ?_ (by assumption) ?_
    rotate_left
    · intro w hSw; (try dsimp only at hSw); go_simp; try (with_reducible rfl)
    try simp only [Act.put, List.setIfInBounds_toArray, List.set_cons_zero, List.set_cons_succ]
    refine wpAnyH_done (by kernel_rfl) ?_ _
    clear hHeld
    go_wp2
    go_ret
    exact ⟨rfl, d.out⟩
  | true =>
    rw [hc1] at HC1
    rw [Bool.true_and]
    clear hc1
    cases hc2 : decide (0 ≤ now ∧ now ≤ 100000) with
    | false =>
      rw [hc2] at HC2
      rw [Bool.false_and]
      clear hc2
      go_enter Try.func42, Try.ntmps42
      go_wp2
      generalize w.alloc (.cells #[.slice a ss.length cap, .int .i64 now] 30) = W at *
      have p_B0_0 := (cell_of_row W _ 0 _ _ _ B0.out).trans (show _ = some (Value.slice a ss.length cap) from rfl)
      have p_B0_1 := (cell_of_row W _ 1 _ _ _ B0.out).trans (show _ = some (Value.int .i64 now) from rfl)
      refine wp_region_held_drew (S := fun w' => w'.cell? ⟨w.heap.size, 0, none⟩ = some (Value.slice a ss.length cap) ∧ w'.cell? ⟨w.heap.size, 1, none⟩ = some (Value.int .i64 now)) (by kernel_rfl) ⟨p_B0_0, p_B0_1⟩ (fun hHeld => ?_)
      clear p_B0_0 p_B0_1
      have cdr : Below W.heap.size W W.drew := below_drew (Below.refl _ _)
      replace B0 := Lib.hid ((cdr.block w.heap.size (Array.getElem?_eq_some_iff.1 B0.out).1).trans B0.out)
      replace d := Lib.hid (d.out.trans (cdr.mono d.out.size))
      clear cdr
      refine take_runs (i := 0) (v := ?_) (by simp only [List.getElem?_toArray, List.getElem?_cons_succ, List.getElem?_cons_zero]; rfl) (by kernel_rfl) (by kernel_rfl) (by kernel_rfl) rfl (by exact fun _ _ _ h => h) (by rfl) ?_ (by assumption) ?_
      rotate_left
      · intro w hSw; (try dsimp only at hSw); go_simp; try (with_reducible rfl)
      try simp only [Act.put, List.setIfInBounds_toArray, List.set_cons_zero, List.set_cons_succ]
      refine take_runs (i := 1) (v := ?_) (by simp only [List.getElem?_toArray, List.getElem?_cons_succ, List.getElem?_cons_zero]; rfl) (by kernel_rfl) (by kernel_rfl) (by kernel_rfl) rfl (by exact fun _ _ _ h => h) (by rfl) ?_ (by assumption) ?_
      rotate_left
      · intro w hSw; (try dsimp only at hSw); go_simp; try (with_reducible rfl)
      try simp only [Act.put, List.setIfInBounds_toArray, List.set_cons_zero, List.set_cons_succ]
      refine take_runs (i := 2) (v := ?_) (by simp only [List.getElem?_toArray, List.getElem?_cons_succ, List.getElem?_cons_zero]; rfl) (by kernel_rfl) (by kernel_rfl) (by kernel_rfl) rfl (by exact fun _ _ _ h => h) (by rfl) ?_ (by assumption) ?_
      rotate_left
      · intro w hSw; (try dsimp only at hSw); go_simp; try (with_reducible rfl)
      try simp only [Act.put, List.setIfInBounds_toArray, List.set_cons_zero, List.set_cons_succ]
      refine wpAnyH_ready (rs := [3]) (by kernel_rfl) (by simp) ?_
      refine (AllReadyH.cons (o := _) (by simp only [List.getElem?_toArray, List.getElem?_cons_succ, List.getElem?_cons_zero]; rfl) (fun K hK => ?_) AllReadyH.nil)
      go_simp
      refine (HC1.out (W.drew)).mono ?_
      rintro e wx ⟨rfl, rfl⟩
      have p_B0_0 := (cell_of_row (W.drew) _ 0 _ _ _ B0.out).trans (show _ = some (Value.slice a ss.length cap) from rfl)
      have p_B0_1 := (cell_of_row (W.drew) _ 1 _ _ _ B0.out).trans (show _ = some (Value.int .i64 now) from rfl)
      refine hK.out _ _ ⟨p_B0_0, p_B0_1⟩ (fun hHeld => ?_)
      clear p_B0_0 p_B0_1
      clear hK K
      try simp only [Act.put, List.setIfInBounds_toArray, List.set_cons_zero, List.set_cons_succ]
      refine take_runs (i := 4) (v := ?_) (by simp only [List.getElem?_toArray, List.getElem?_cons_succ, List.getElem?_cons_zero]; rfl) (by kernel_rfl) (by kernel_rfl) (by kernel_rfl) rfl (by exact fun _ _ _ h => h) (by rfl) ?_ (by assumption) ?_
      rotate_left
      · intro w hSw; (try dsimp only at hSw); go_simp; try (with_reducible rfl)
      try simp only [Act.put, List.setIfInBounds_toArray, List.set_cons_zero, List.set_cons_succ]
      refine take_runs (i := 5) (v := ?_) (by simp only [List.getElem?_toArray, List.getElem?_cons_succ, List.getElem?_cons_zero]; rfl) (by kernel_rfl) (by kernel_rfl) (by kernel_rfl) rfl (by exact fun _ _ _ h => h) (by rfl) ?_ (by assumption) ?_
      rotate_left
      · intro w hSw; (try dsimp only at hSw); go_simp; try (with_reducible rfl)
      try simp only [Act.put, List.setIfInBounds_toArray, List.set_cons_zero, List.set_cons_succ]
      refine take_runs (i := 6) (v := ?_) (by simp only [List.getElem?_toArray, List.getElem?_cons_succ, List.getElem?_cons_zero]; rfl) (by kernel_rfl) (by kernel_rfl) (by kernel_rfl) rfl (by exact fun _ _ _ h => h) (by rfl) ?_ (by assumption) ?_
      rotate_left
      · intro w hSw; (try dsimp only at hSw); go_simp; try (with_reducible rfl)
      try simp only [Act.put, List.setIfInBounds_toArray, List.set_cons_zero, List.set_cons_succ]
      refine wpAnyH_ready (rs := [7]) (by kernel_rfl) (by simp) ?_
      refine (AllReadyH.cons (o := _) (by simp only [List.getElem?_toArray, List.getElem?_cons_succ, List.getElem?_cons_zero]; rfl) (fun K hK => ?_) AllReadyH.nil)
      go_simp
      refine (HC2.out (W.drew)).mono ?_
      rintro e wx ⟨rfl, rfl⟩
      have p_B0_0 := (cell_of_row (W.drew) _ 0 _ _ _ B0.out).trans (show _ = some (Value.slice a ss.length cap) from rfl)
      have p_B0_1 := (cell_of_row (W.drew) _ 1 _ _ _ B0.out).trans (show _ = some (Value.int .i64 now) from rfl)
      refine hK.out _ _ ⟨p_B0_0, p_B0_1⟩ (fun hHeld => ?_)
      clear p_B0_0 p_B0_1
      clear hK K
      try simp only [Act.put, List.setIfInBounds_toArray, List.set_cons_zero, List.set_cons_succ]
      refine take_runs (i := 8) (v := ?_) (by simp only [List.getElem?_toArray, List.getElem?_cons_succ, List.getElem?_cons_zero]; rfl) (by kernel_rfl) (by kernel_rfl) (by kernel_rfl) rfl (by exact fun _ _ _ h => h) (by rfl) ?_ (by assumption) ?_
      rotate_left
      · intro w hSw; (try dsimp only at hSw); go_simp; try (with_reducible rfl)
      try simp only [Act.put, List.setIfInBounds_toArray, List.set_cons_zero, List.set_cons_succ]
      refine take_runs (i := 9) (v := ?_) (by simp only [List.getElem?_toArray, List.getElem?_cons_succ, List.getElem?_cons_zero]; rfl) (by kernel_rfl) (by kernel_rfl) (by kernel_rfl) rfl (by exact fun _ _ _ h => h) (by rfl) ?_ (by assumption) ?_
      rotate_left
      · intro w hSw; (try dsimp only at hSw); go_simp; try (with_reducible rfl)
      try simp only [Act.put, List.setIfInBounds_toArray, List.set_cons_zero, List.set_cons_succ]
      refine take_over (i := 10) (by simp only [List.getElem?_toArray, List.getElem?_cons_succ, List.getElem?_cons_zero]; rfl) (by kernel_rfl) (by kernel_rfl) (by kernel_rfl) rfl (by exact fun _ _ _ h => h) (by rfl) (by assumption) ?_
      try simp only [Act.put, List.setIfInBounds_toArray, List.set_cons_zero, List.set_cons_succ]
      refine take_over (i := 11) (by simp only [List.getElem?_toArray, List.getElem?_cons_succ, List.getElem?_cons_zero]; rfl) (by kernel_rfl) (by kernel_rfl) (by kernel_rfl) rfl (by exact fun _ _ _ h => h) (by rfl) (by assumption) ?_
      try simp only [Act.put, List.setIfInBounds_toArray, List.set_cons_zero, List.set_cons_succ]
      refine take_over (i := 12) (by simp only [List.getElem?_toArray, List.getElem?_cons_succ, List.getElem?_cons_zero]; rfl) (by kernel_rfl) (by kernel_rfl) (by kernel_rfl) rfl (by exact fun _ _ _ h => h) (by rfl) (by assumption) ?_
      try simp only [Act.put, List.setIfInBounds_toArray, List.set_cons_zero, List.set_cons_succ]
      refine take_over (i := 13) (by simp only [List.getElem?_toArray, List.getElem?_cons_succ, List.getElem?_cons_zero]; rfl) (by kernel_rfl) (by kernel_rfl) (by kernel_rfl) rfl (by exact fun _ _ _ h => h) (by rfl) (by assumption) ?_
      try simp only [Act.put, List.setIfInBounds_toArray, List.set_cons_zero, List.set_cons_succ]
      refine take_over (i := 14) (by simp only [List.getElem?_toArray, List.getElem?_cons_succ, List.getElem?_cons_zero]; rfl) (by kernel_rfl) (by kernel_rfl) (by kernel_rfl) rfl (by exact fun _ _ _ h => h) (by rfl) (by assumption) ?_
      try simp only [Act.put, List.setIfInBounds_toArray, List.set_cons_zero, List.set_cons_succ]
      refine take_over (i := 15) (by simp only [List.getElem?_toArray, List.getElem?_cons_succ, List.getElem?_cons_zero]; rfl) (by kernel_rfl) (by kernel_rfl) (by kernel_rfl) rfl (by exact fun _ _ _ h => h) (by rfl) (by assumption) ?_
      try simp only [Act.put, List.setIfInBounds_toArray, List.set_cons_zero, List.set_cons_succ]
      refine take_runs (i := 16) (v := ?_) (by simp only [List.getElem?_toArray, List.getElem?_cons_succ, List.getElem?_cons_zero]; rfl) (by kernel_rfl) (by kernel_rfl) (by kernel_rfl) rfl (by exact fun _ _ _ h => h) (by rfl) ?_ (by assumption) ?_
      rotate_left
      · intro w hSw; (try dsimp only at hSw); go_simp; try (with_reducible rfl)
      try simp only [Act.put, List.setIfInBounds_toArray, List.set_cons_zero, List.set_cons_succ]
      refine take_runs (i := 17) (v := ?_) (by simp only [List.getElem?_toArray, List.getElem?_cons_succ, List.getElem?_cons_zero]; rfl) (by kernel_rfl) (by kernel_rfl) (by kernel_rfl) rfl (by exact fun _ _ _ h => h) (by rfl) ?_ (by assumption) ?_
      rotate_left
      · intro w hSw; (try dsimp only at hSw); go_simp; try (with_reducible rfl)
      try simp only [Act.put, List.setIfInBounds_toArray, List.set_cons_zero, List.set_cons_succ]
      refine wpAnyH_done (by kernel_rfl) ?_ _
      clear hHeld
      go_wp2
      go_ret
      exact ⟨rfl, d.out⟩
    | true =>
      rw [hc2] at HC2
      rw [Bool.true_and]
      clear hc2
      go_enter Try.func42, Try.ntmps42
      go_wp2
      generalize w.alloc (.cells #[.slice a ss.length cap, .int .i64 now] 30) = W at *
      have p_B0_0 := (cell_of_row W _ 0 _ _ _ B0.out).trans (show _ = some (Value.slice a ss.length cap) from rfl)
      have p_B0_1 := (cell_of_row W _ 1 _ _ _ B0.out).trans (show _ = some (Value.int .i64 now) from rfl)
      refine wp_region_held_drew (S := fun w' => w'.cell? ⟨w.heap.size, 0, none⟩ = some (Value.slice a ss.length cap) ∧ w'.cell? ⟨w.heap.size, 1, none⟩ = some (Value.int .i64 now)) (by kernel_rfl) ⟨p_B0_0, p_B0_1⟩ (fun hHeld => ?_)
      clear p_B0_0 p_B0_1
      have cdr : Below W.heap.size W W.drew := below_drew (Below.refl _ _)
      replace B0 := Lib.hid ((cdr.block w.heap.size (Array.getElem?_eq_some_iff.1 B0.out).1).trans B0.out)
      replace d := Lib.hid (d.out.trans (cdr.mono d.out.size))
      clear cdr
      refine take_runs (i := 0) (v := ?_) (by simp only [List.getElem?_toArray, List.getElem?_cons_succ, List.getElem?_cons_zero]; rfl) (by kernel_rfl) (by kernel_rfl) (by kernel_rfl) rfl (by exact fun _ _ _ h => h) (by rfl) ?_ (by assumption) ?_
      rotate_left
      · intro w hSw; (try dsimp only at hSw); go_simp; try (with_reducible rfl)
      try simp only [Act.put, List.setIfInBounds_toArray, List.set_cons_zero, List.set_cons_succ]
      refine take_runs (i := 1) (v := ?_) (by simp only [List.getElem?_toArray, List.getElem?_cons_succ, List.getElem?_cons_zero]; rfl) (by kernel_rfl) (by kernel_rfl) (by kernel_rfl) rfl (by exact fun _ _ _ h => h) (by rfl) ?_ (by assumption) ?_
      rotate_left
      · intro w hSw; (try dsimp only at hSw); go_simp; try (with_reducible rfl)
      try simp only [Act.put, List.setIfInBounds_toArray, List.set_cons_zero, List.set_cons_succ]
      refine take_runs (i := 2) (v := ?_) (by simp only [List.getElem?_toArray, List.getElem?_cons_succ, List.getElem?_cons_zero]; rfl) (by kernel_rfl) (by kernel_rfl) (by kernel_rfl) rfl (by exact fun _ _ _ h => h) (by rfl) ?_ (by assumption) ?_
      rotate_left
      · intro w hSw; (try dsimp only at hSw); go_simp; try (with_reducible rfl)
      try simp only [Act.put, List.setIfInBounds_toArray, List.set_cons_zero, List.set_cons_succ]
      refine wpAnyH_ready (rs := [3]) (by kernel_rfl) (by simp) ?_
      refine (AllReadyH.cons (o := _) (by simp only [List.getElem?_toArray, List.getElem?_cons_succ, List.getElem?_cons_zero]; rfl) (fun K hK => ?_) AllReadyH.nil)
      go_simp
      refine (HC1.out (W.drew)).mono ?_
      rintro e wx ⟨rfl, rfl⟩
      have p_B0_0 := (cell_of_row (W.drew) _ 0 _ _ _ B0.out).trans (show _ = some (Value.slice a ss.length cap) from rfl)
      have p_B0_1 := (cell_of_row (W.drew) _ 1 _ _ _ B0.out).trans (show _ = some (Value.int .i64 now) from rfl)
      refine hK.out _ _ ⟨p_B0_0, p_B0_1⟩ (fun hHeld => ?_)
      clear p_B0_0 p_B0_1
      clear hK K
      try simp only [Act.put, List.setIfInBounds_toArray, List.set_cons_zero, List.set_cons_succ]
      refine take_runs (i := 4) (v := ?_) (by simp only [List.getElem?_toArray, List.getElem?_cons_succ, List.getElem?_cons_zero]; rfl) (by kernel_rfl) (by kernel_rfl) (by kernel_rfl) rfl (by exact fun _ _ _ h => h) (by rfl) ?_ (by assumption) ?_
      rotate_left
      · intro w hSw; (try dsimp only at hSw); go_simp; try (with_reducible rfl)
      try simp only [Act.put, List.setIfInBounds_toArray, List.set_cons_zero, List.set_cons_succ]
      refine take_runs (i := 5) (v := ?_) (by simp only [List.getElem?_toArray, List.getElem?_cons_succ, List.getElem?_cons_zero]; rfl) (by kernel_rfl) (by kernel_rfl) (by kernel_rfl) rfl (by exact fun _ _ _ h => h) (by rfl) ?_ (by assumption) ?_
      rotate_left
      · intro w hSw; (try dsimp only at hSw); go_simp; try (with_reducible rfl)
      try simp only [Act.put, List.setIfInBounds_toArray, List.set_cons_zero, List.set_cons_succ]
      refine take_runs (i := 6) (v := ?_) (by simp only [List.getElem?_toArray, List.getElem?_cons_succ, List.getElem?_cons_zero]; rfl) (by kernel_rfl) (by kernel_rfl) (by kernel_rfl) rfl (by exact fun _ _ _ h => h) (by rfl) ?_ (by assumption) ?_
      rotate_left
      · intro w hSw; (try dsimp only at hSw); go_simp; try (with_reducible rfl)
      try simp only [Act.put, List.setIfInBounds_toArray, List.set_cons_zero, List.set_cons_succ]
      refine wpAnyH_ready (rs := [7]) (by kernel_rfl) (by simp) ?_
      refine (AllReadyH.cons (o := _) (by simp only [List.getElem?_toArray, List.getElem?_cons_succ, List.getElem?_cons_zero]; rfl) (fun K hK => ?_) AllReadyH.nil)
      go_simp
      refine (HC2.out (W.drew)).mono ?_
      rintro e wx ⟨rfl, rfl⟩
      have p_B0_0 := (cell_of_row (W.drew) _ 0 _ _ _ B0.out).trans (show _ = some (Value.slice a ss.length cap) from rfl)
      have p_B0_1 := (cell_of_row (W.drew) _ 1 _ _ _ B0.out).trans (show _ = some (Value.int .i64 now) from rfl)
      refine hK.out _ _ ⟨p_B0_0, p_B0_1⟩ (fun hHeld => ?_)
      clear p_B0_0 p_B0_1
      clear hK K
      try simp only [Act.put, List.setIfInBounds_toArray, List.set_cons_zero, List.set_cons_succ]
      refine take_runs (i := 8) (v := ?_) (by simp only [List.getElem?_toArray, List.getElem?_cons_succ, List.getElem?_cons_zero]; rfl) (by kernel_rfl) (by kernel_rfl) (by kernel_rfl) rfl (by exact fun _ _ _ h => h) (by rfl) ?_ (by assumption) ?_
      rotate_left
      · intro w hSw; (try dsimp only at hSw); go_simp; try (with_reducible rfl)
      try simp only [Act.put, List.setIfInBounds_toArray, List.set_cons_zero, List.set_cons_succ]
      refine take_runs (i := 9) (v := ?_) (by simp only [List.getElem?_toArray, List.getElem?_cons_succ, List.getElem?_cons_zero]; rfl) (by kernel_rfl) (by kernel_rfl) (by kernel_rfl) rfl (by exact fun _ _ _ h => h) (by rfl) ?_ (by assumption) ?_
      rotate_left
      · intro w hSw; (try dsimp only at hSw); go_simp; try (with_reducible rfl)
      try simp only [Act.put, List.setIfInBounds_toArray, List.set_cons_zero, List.set_cons_succ]
      refine take_runs (i := 10) (v := ?_) (by simp only [List.getElem?_toArray, List.getElem?_cons_succ, List.getElem?_cons_zero]; rfl) (by kernel_rfl) (by kernel_rfl) (by kernel_rfl) rfl (by exact fun _ _ _ h => h) (by rfl) ?_ (by assumption) ?_
      rotate_left
      · intro w hSw; (try dsimp only at hSw); go_simp; try (with_reducible rfl)
      try simp only [Act.put, List.setIfInBounds_toArray, List.set_cons_zero, List.set_cons_succ]
      refine take_runs (i := 11) (v := ?_) (by simp only [List.getElem?_toArray, List.getElem?_cons_succ, List.getElem?_cons_zero]; rfl) (by kernel_rfl) (by kernel_rfl) (by kernel_rfl) rfl (by exact fun _ _ _ h => h) (by rfl) ?_ (by assumption) ?_
      rotate_left
      · intro w hSw; (try dsimp only at hSw); go_simp; try (with_reducible rfl)
      try simp only [Act.put, List.setIfInBounds_toArray, List.set_cons_zero, List.set_cons_succ]
      refine take_runs (i := 13) (v := ?_) (by simp only [List.getElem?_toArray, List.getElem?_cons_succ, List.getElem?_cons_zero]; rfl) (by kernel_rfl) (by kernel_rfl) (by kernel_rfl) rfl (by exact fun _ _ _ h => h) (by rfl) ?_ (by assumption) ?_
      rotate_left
      · intro w hSw; (try dsimp only at hSw); go_simp; try (with_reducible rfl)
      try simp only [Act.put, List.setIfInBounds_toArray, List.set_cons_zero, List.set_cons_succ]
      refine take_runs (i := 14) (v := ?_) (by simp only [List.getElem?_toArray, List.getElem?_cons_succ, List.getElem?_cons_zero]; rfl) (by kernel_rfl) (by kernel_rfl) (by kernel_rfl) rfl (by exact fun _ _ _ h => h) (by rfl) ?_ (by assumption) ?_
      rotate_left
      · intro w hSw; (try dsimp only at hSw); go_simp; try (with_reducible rfl)
      try simp only [Act.put, List.setIfInBounds_toArray, List.set_cons_zero, List.set_cons_succ]
      refine wpAnyH_ready (rs := [12]) (by kernel_rfl) (by simp) ?_
      refine (AllReadyH.cons (o := _) (by simp only [List.getElem?_toArray, List.getElem?_cons_succ, List.getElem?_cons_zero]; rfl) (fun K hK => ?_) AllReadyH.nil)
      go_simp
      refine (HTB.out (W.drew) (lsR_below HLS.out d.out)).mono ?_
      rintro e w5 ⟨g, bs, rfl, ht, c5⟩
      have HT5 := Lib.hid ht
      replace B0 := Lib.hid ((c5.block w.heap.size (Array.getElem?_eq_some_iff.1 B0.out).1).trans B0.out)
      replace d := Lib.hid (d.out.trans (c5.mono d.out.size))
      have Z_w5 := Lib.hid (show W.heap.size ≤ w5.heap.size from c5.size)
      clear c5 ht
      have p_B0_0 := (cell_of_row w5 _ 0 _ _ _ B0.out).trans (show _ = some (Value.slice a ss.length cap) from rfl)
      have p_B0_1 := (cell_of_row w5 _ 1 _ _ _ B0.out).trans (show _ = some (Value.int .i64 now) from rfl)
      refine hK.out _ _ ⟨p_B0_0, p_B0_1⟩ (fun hHeld => ?_)
      clear p_B0_0 p_B0_1
      clear hK K
      try simp only [Act.put, List.setIfInBounds_toArray, List.set_cons_zero, List.set_cons_succ]
      refine wpAnyH_ready (rs := [15]) (by kernel_rfl) (by simp) ?_
      refine (AllReadyH.cons (o := _) (by simp only [List.getElem?_toArray, List.getElem?_cons_succ, List.getElem?_cons_zero]; rfl) (fun K hK => ?_) AllReadyH.nil)
      go_simp
      refine (HPS.out _ g bs w5 HT5.out (segsR_below HSR.out d.out)).mono ?_
      rintro e w6 ⟨rfl, c6⟩
      replace B0 := Lib.hid ((c6.block w.heap.size (Array.getElem?_eq_some_iff.1 B0.out).1).trans B0.out)
      replace d := Lib.hid (d.out.trans (c6.mono d.out.size))
      have Z_w6 := Lib.hid (show w5.heap.size ≤ w6.heap.size from c6.size)
      clear c6
      have p_B0_0 := (cell_of_row w6 _ 0 _ _ _ B0.out).trans (show _ = some (Value.slice a ss.length cap) from rfl)
      have p_B0_1 := (cell_of_row w6 _ 1 _ _ _ B0.out).trans (show _ = some (Value.int .i64 now) from rfl)
      refine hK.out _ _ ⟨p_B0_0, p_B0_1⟩ (fun hHeld => ?_)
      clear p_B0_0 p_B0_1
      clear hK K
      try simp only [Act.put, List.setIfInBounds_toArray, List.set_cons_zero, List.set_cons_succ]
      refine take_runs (i := 16) (v := ?_) (by simp only [List.getElem?_toArray, List.getElem?_cons_succ, List.getElem?_cons_zero]; rfl) (by kernel_rfl) (by kernel_rfl) (by kernel_rfl) rfl (by exact fun _ _ _ h => h) (by rfl) ?_ (by assumption) ?_
      rotate_left
      · intro w hSw; (try dsimp only at hSw); go_simp; try (with_reducible rfl)
      try simp only [Act.put, List.setIfInBounds_toArray, List.set_cons_zero, List.set_cons_succ]
      refine take_runs (i := 17) (v := ?_) (by simp only [List.getElem?_toArray, List.getElem?_cons_succ, List.getElem?_cons_zero]; rfl) (by kernel_rfl) (by kernel_rfl) (by kernel_rfl) rfl (by exact fun _ _ _ h => h) (by rfl) ?_ (by assumption) ?_
      rotate_left
      · intro w hSw; (try dsimp only at hSw); go_simp; try (with_reducible rfl)
      try simp only [Act.put, List.setIfInBounds_toArray, List.set_cons_zero, List.set_cons_succ]
      refine wpAnyH_done (by kernel_rfl) ?_ _
      clear hHeld
      go_wp2
      go_ret
      exact ⟨rfl, d.out⟩
/-- What checkStore answers. -/
def CheckN (w : World) (us : List SegV) (e : Ending) (w' : World) : Prop := ∃ g bs, e = .returned (.tuple #[.slice (some ⟨g, 0, none⟩) us.length us.length, .bool true]) ∧ TabN w.heap.size w' g bs us ∧ Below w.heap.size w w'
set_option maxHeartbeats 8000000 in
set_option maxRecDepth 100000 in
theorem checkStore_no (sv : Value) (ss : List (List VerD)) (now : Int) (w : World) (h : SlR tVersionS w sv ss) (hs : zL tVersionS ss ≤ 1048576) (hst : storeB ss now = false) :
    Calls Try.prog 32 #[.agg #[sv, .int .i64 now]] w (fun e w' => e = .returned (.tuple #[.slice none 0 0, .bool false]) ∧ Below w.heap.size w w') := by
  obtain ⟨us, hls, hsr⟩ := slR_ls h
  have HUL := Lib.hid hsr.1
  obtain ⟨a, cap, rfl⟩ := slR_len h
  have hlen := zL_len hs
  have HSS := Lib.hid hs
  have H := Lib.hid h
  have HLS := Lib.hid hls
  have HSR := Lib.hid hsr
  have d0 := Lib.hid (show Below w.heap.size w (w.alloc (.cells #[.slice a ss.length cap, .int .i64 now] 30)) from (Below.refl _ _).alloc (Nat.le_refl _) _)
  have B0 : Hid ((w.alloc (.cells #[.slice a ss.length cap, .int .i64 now] 30)).heap[w.heap.size]? = some (.cells #[.slice a ss.length cap, .int .i64 now] 30 (0, 0))) := Lib.hid (heap_alloc_new w _)
  have Y0 : Hid (w.heap.size < (w.alloc (.cells #[.slice a ss.length cap, .int .i64 now] 30)).heap.size) := Lib.hid (by simp [World.size_alloc])
  have HI := Lib.hid (fun W g => implIsStore (.slice a ss.length cap) ss now W g HSS.out)
  rw [hst] at HI
  clear hls hsr h hs hst
  go_enter Try.func32, Try.ntmps32
  go_wp2_with fail
  generalize w.alloc (.cells #[.slice a ss.length cap, .int .i64 now] 30) = W at *
  refine (HI.out W (slR_below tVersionS_law H.out d0.out)).mono ?_
  rintro e w1 ⟨rfl, b1⟩
  have D1 := Lib.hid (d0.out.trans (b1.mono d0.out.size))
  have k0 := (b1.block w.heap.size Y0.out).trans B0.out
  have p0 := (cell_of_row w1 _ 0 _ _ _ k0).trans (show _ = some (Value.slice a ss.length cap) from rfl)
  clear b1 k0
  go_wp2
  go_ret2
  exact ⟨rfl, D1.out⟩
set_option maxHeartbeats 8000000 in
set_option maxRecDepth 100000 in
theorem checkStore_yes (sv : Value) (ss : List (List VerD)) (now : Int) (us : List SegV) (w : World) (h : SlR tVersionS w sv ss) (hs : zL tVersionS ss ≤ 1048576) (hst : storeB ss now = true) (hls : LsR w sv us) (hsr : SegsR w us ss) :
    Calls Try.prog 32 #[.agg #[sv, .int .i64 now]] w (CheckN w us) := by
  have HUL := Lib.hid hsr.1
  obtain ⟨a, cap, rfl⟩ := slR_len h
  have hlen := zL_len hs
  have HSS := Lib.hid hs
  have H := Lib.hid h
  have HLS := Lib.hid hls
  have HSR := Lib.hid hsr
  have d0 := Lib.hid (show Below w.heap.size w (w.alloc (.cells #[.slice a ss.length cap, .int .i64 now] 30)) from (Below.refl _ _).alloc (Nat.le_refl _) _)
  have B0 : Hid ((w.alloc (.cells #[.slice a ss.length cap, .int .i64 now] 30)).heap[w.heap.size]? = some (.cells #[.slice a ss.length cap, .int .i64 now] 30 (0, 0))) := Lib.hid (heap_alloc_new w _)
  have Y0 : Hid (w.heap.size < (w.alloc (.cells #[.slice a ss.length cap, .int .i64 now] 30)).heap.size) := Lib.hid (by simp [World.size_alloc])
  have HI := Lib.hid (fun W g => implIsStore (.slice a ss.length cap) ss now W g HSS.out)
  rw [hst] at HI
  clear hls hsr h hs hst
  go_enter Try.func32, Try.ntmps32
  go_wp2_with fail
  generalize w.alloc (.cells #[.slice a ss.length cap, .int .i64 now] 30) = W at *
  refine (HI.out W (slR_below tVersionS_law H.out d0.out)).mono ?_
  rintro e w1 ⟨rfl, b1⟩
  have D1 := Lib.hid (d0.out.trans (b1.mono d0.out.size))
  have k0 := (b1.block w.heap.size Y0.out).trans B0.out
  have p0 := (cell_of_row w1 _ 0 _ _ _ k0).trans (show _ = some (Value.slice a ss.length cap) from rfl)
  clear b1 k0
  go_wp2_with fail
  refine (tableOf_any (.slice a ss.length cap) us w1 (lsR_below HLS.out D1.out) (by have := HUL.out; omega)).mono ?_
  rintro e w2 ⟨g, bs, rfl, ht, b2⟩
  have D2 := Lib.hid (D1.out.trans (b2.mono D1.out.size))
  have HT := Lib.hid ht
  clear ht b2 p0
  go_wp2
  go_ret2
  exact ⟨g, bs, rfl, ⟨Nat.le_trans D1.out.size HT.out.1, HT.out.2⟩, D2.out⟩
end Go.Proofs.Ytdhglmoanpkeoaa
namespace Go.Proofs.Ytdhglmoanpkeoaa
open Go.RowKit
set_option linter.unusedVariables false
set_option linter.unusedSimpArgs false
set_option maxHeartbeats 4000000 in
set_option maxRecDepth 100000 in
theorem hasSegment_any (a : Option Addr) (n cap : Nat) (now g : Int) (w : World) (hn : n ≤ 1048576) :
    Calls Try.prog 33 #[.agg #[.slice a n cap, .int .i64 now], .int .i64 g] w (fun e w' => e = .returned (.bool (decide (0 ≤ g ∧ g < n))) ∧ Below w.heap.size w w') := by
  have d := Lib.hid (show Below w.heap.size w (w.alloc (.cells #[.slice a n cap, .int .i64 now] 30)) from (Below.refl _ _).alloc (Nat.le_refl _) _)
  by_cases h1 : 0 ≤ g
  · by_cases h2 : g < n
    · have HF : Hid (decide (0 ≤ g ∧ g < n) = true) := Lib.hid (decide_eq_true ⟨h1, h2⟩)
      have f1 : decide (0 ≤ g) = true := decide_eq_true h1
      have f2 : decide (g < n) = true := decide_eq_true h2
      rw [HF.out]
      clear h1 h2
      go_enter Try.func33, Try.ntmps33
      go_wp2
      go_ret
      exact ⟨rfl, d.out⟩
    · have HF : Hid (decide (0 ≤ g ∧ g < n) = false) := Lib.hid (decide_eq_false (fun q => h2 q.2))
      have f1 : decide (0 ≤ g) = true := decide_eq_true h1
      have f2 : decide (g < n) = false := decide_eq_false h2
      rw [HF.out]
      clear h1 h2
      go_enter Try.func33, Try.ntmps33
      go_wp2
      go_ret
      exact ⟨rfl, d.out⟩
  · have HF : Hid (decide (0 ≤ g ∧ g < n) = false) := Lib.hid (decide_eq_false (fun q => h1 q.1))
    have f1 : decide (0 ≤ g) = false := decide_eq_false h1
    rw [HF.out]
    clear h1
    go_enter Try.func33, Try.ntmps33
    go_wp2
    go_ret
    exact ⟨rfl, d.out⟩
end Go.Proofs.Ytdhglmoanpkeoaa
namespace Go.Proofs.Ytdhglmoanpkeoaa
open Go.RowKit
set_option linter.unusedVariables false
set_option linter.unusedSimpArgs false
set_option maxHeartbeats 2000000 in
set_option maxRecDepth 100000 in
theorem copyLRowint (v : Value) (xs : List Int) (w : World) (h : SlR tInt w v xs) (hn : xs.length ≤ 1048576) :
    Calls Try.prog 120 #[v] w (FreshS 3 tInt w xs) := by
  have H := Lib.hid h
  have HN := Lib.hid hn
  obtain ⟨a, cap, rfl⟩ := slR_len h
  clear h hn
  go_enter Try.func120, Try.ntmps120
  go_wp2_with (at_builtin; refine append_flat tInt_law flat_int info_T_int Try.underlying37 rfl rfl _ (.tmp 3) rfl (fun _ => False) (since w) _ _ [] xs rfl rfl (slO_nil _ _ _ _) H.out (fun _ h => h.elim) (Nat.le_refl _) (by have := HN.out; simp; omega) ?_)
  intro v' w1 o1 t1
  obtain ⟨va, vc, rfl⟩ := slO_len o1
  have b1 := below_turn (Below.refl w.heap.size w) t1 (fun _ h => h.elim) (Nat.le_refl _)
  go_wp2
  go_ret
  exact ⟨_, rfl, o1, b1⟩
set_option maxHeartbeats 8000000 in
set_option maxRecDepth 100000 in
theorem copyRow_P (a0 : Int) (v1 : Value) (x1 : List Int) (w : World) (h1 : SlR tInt w v1 x1) (s1 : zL tInt x1 ≤ 1048576) :
    Calls Try.prog 86 #[.agg #[.int .i64 a0, v1]] w (FreshT tRow (fun cs => .agg cs.toArray) w (a0, x1)) := by
  obtain ⟨sa1, sc1, rfl⟩ := slR_len h1
  have H1 := Lib.hid h1; have N1 := Lib.hid (zL_len s1)
  clear h1 s1
  have d := Lib.hid (((Below.refl w.heap.size w).alloc (Nat.le_refl _) (.cells #[.int .i64 a0, .slice sa1 x1.length sc1] 73)).alloc (by simp) (.cells #[.int .i64 0, .slice none 0 0] 73))
  have B0 : Hid (((w.alloc (.cells #[.int .i64 a0, .slice sa1 x1.length sc1] 73)).alloc (.cells #[.int .i64 0, .slice none 0 0] 73)).heap[w.heap.size]? = some (.cells #[.int .i64 a0, .slice sa1 x1.length sc1] 73 (0, 0))) := Lib.hid (by rw [Below.heap_alloc _ _ _ (by simp)]; exact heap_alloc_new w _)
  have B1 : Hid (((w.alloc (.cells #[.int .i64 a0, .slice sa1 x1.length sc1] 73)).alloc (.cells #[.int .i64 0, .slice none 0 0] 73)).heap[(w.heap.size + 1)]? = some (.cells #[.int .i64 0, .slice none 0 0] 73 (0, 0))) := Lib.hid (by
    have := heap_alloc_new (w.alloc (.cells #[.int .i64 a0, .slice sa1 x1.length sc1] 73)) (.cells #[.int .i64 0, .slice none 0 0] 73)
    simpa only [World.size_alloc] using this)
  have YW : Hid (w.heap.size + 1 < ((w.alloc (.cells #[.int .i64 a0, .slice sa1 x1.length sc1] 73)).alloc (.cells #[.int .i64 0, .slice none 0 0] 73)).heap.size) := Lib.hid (by simp)
  go_enter Try.func86, Try.ntmps86
  go_wp2_with fail
  generalize ((w.alloc (.cells #[.int .i64 a0, .slice sa1 x1.length sc1] 73)).alloc (.cells #[.int .i64 0, .slice none 0 0] 73)) = W at *
  refine (copyLRowint (.slice sa1 x1.length sc1) x1 W (slR_below tInt_law H1.out d.out) N1.out).mono ?_
  rintro e wq1 ⟨u, rfl, o1, c1⟩
  replace o1 := slO_lt tInt_law o1
  obtain ⟨ua1, uc1, rfl⟩ := slO_len o1
  replace B0 := Lib.hid ((c1.block w.heap.size (Array.getElem?_eq_some_iff.1 B0.out).1).trans B0.out)
  replace B1 := Lib.hid ((c1.block (w.heap.size + 1) (Array.getElem?_eq_some_iff.1 B1.out).1).trans B1.out)
  have P1 := Lib.hid o1
  have y0 := YW.out; have yd := d.out.size; have yc := c1.size
  have Q1 : Hid (∀ b, (since W b ∧ b < wq1.heap.size) → w.heap.size + 1 < b ∧ W.heap.size ≤ b ∧ b < wq1.heap.size) := Lib.hid (fun b h => ⟨Nat.lt_of_lt_of_le y0 h.1, h.1, h.2⟩)
  have Zq1 : Hid (W.heap.size ≤ wq1.heap.size) := Lib.hid yc
  replace d := Lib.hid (d.out.trans (c1.mono d.out.size))
  replace YW : Hid (w.heap.size + 1 < wq1.heap.size) := Lib.hid (Nat.lt_of_lt_of_le y0 yc)
  clear o1 c1 y0 yd yc
  have p0 := (cell_of_row wq1 _ 1 _ _ _ B0.out).trans (show _ = some (Value.slice sa1 x1.length sc1) from rfl)
  have f0 := frozen_of_row wq1 _ 1 _ _ B0.out
  skip
  have tt : Turn (fun b => b = w.heap.size) wq1 (wq1.setCell ⟨w.heap.size, 1, none⟩ (.slice ua1 x1.length uc1)) := turn_set (G := fun b => b = w.heap.size) (g := w.heap.size) (j := 1) (u := .slice ua1 x1.length uc1) rfl
  have r := heap_setCell_same wq1 w.heap.size 1 _ _ (.slice ua1 x1.length uc1) B0.out
  simp at r
  have y1 := YW.out
  have K0 : Hid ((wq1.setCell ⟨w.heap.size, 1, none⟩ (.slice ua1 x1.length uc1)).heap[w.heap.size]? = some (.cells #[.int .i64 a0, .slice ua1 x1.length uc1] 73 (0, 0))) := Lib.hid r
  have K1 := Lib.hid ((tt.block (w.heap.size + 1) (Array.getElem?_eq_some_iff.1 B1.out).1 (fun h => by omega)).trans B1.out)
  have KP1 := Lib.hid (slO_turn tInt_law P1.out tt (fun b h1 h2 => by have := Q1.out b h1; omega))
  have kd := Lib.hid (below_turn d.out tt (fun b h => by omega) d.out.size)
  have KY : Hid (w.heap.size + 1 < (wq1.setCell ⟨w.heap.size, 1, none⟩ (.slice ua1 x1.length uc1)).heap.size) := Lib.hid (Nat.lt_of_lt_of_le y1 tt.size)
  have Zs1 : Hid (wq1.heap.size ≤ (wq1.setCell ⟨w.heap.size, 1, none⟩ (.slice ua1 x1.length uc1)).heap.size) := Lib.hid tt.size
  clear tt r y1 B0 B1 d YW P1
  generalize hW : (wq1.setCell ⟨w.heap.size, 1, none⟩ (.slice ua1 x1.length uc1)) = WF at *
  have c0 := (cell_of_row WF _ 0 _ _ _ K0.out).trans (show _ = some (Value.int .i64 a0) from rfl)
  have c1 := (cell_of_row WF _ 1 _ _ _ K0.out).trans (show _ = some (Value.slice ua1 x1.length uc1) from rfl)
  have z0 := (cell_of_row WF _ 0 _ _ _ K1.out).trans (show _ = some (Value.int .i64 0) from rfl)
  have g0 := frozen_of_row WF _ 0 _ _ K1.out
  have z1 := (cell_of_row WF _ 1 _ _ _ K1.out).trans (show _ = some (Value.slice none 0 0) from rfl)
  have g1 := frozen_of_row WF _ 1 _ _ K1.out
  have y1 := KY.out
  have DF := Lib.hid ((kd.out.setCell (p := ⟨w.heap.size + 1, 0, none⟩) (by simp) (.int .i64 a0)).setCell (p := ⟨w.heap.size + 1, 1, none⟩) (by simp) (.slice ua1 x1.length uc1))
  have r := (heap_setCell_same _ (w.heap.size + 1) 1 _ _ (.slice ua1 x1.length uc1) (heap_setCell_same WF (w.heap.size + 1) 0 _ _ (.int .i64 a0) K1.out))
  simp at r
  have e0 := (cell_of_row _ (w.heap.size + 1) 0 _ _ _ r).trans (show _ = some (Value.int .i64 a0) from rfl)
  have e1 := (cell_of_row _ (w.heap.size + 1) 1 _ _ _ r).trans (show _ = some (Value.slice ua1 x1.length uc1) from rfl)
  have tt : Turn (fun b => b = w.heap.size + 1) WF ((WF.setCell ⟨w.heap.size + 1, 0, none⟩ (.int .i64 a0)).setCell ⟨w.heap.size + 1, 1, none⟩ (.slice ua1 x1.length uc1)) := (((Turn.refl (fun b => b = w.heap.size + 1) _).trans (turn_set (G := fun b => b = w.heap.size + 1) (g := w.heap.size + 1) (j := 0) (u := .int .i64 a0) rfl)).trans (turn_set (G := fun b => b = w.heap.size + 1) (g := w.heap.size + 1) (j := 1) (u := .slice ua1 x1.length uc1) rfl))
  have PF1 := Lib.hid (slO_turn tInt_law KP1.out tt (fun b h1 h2 => by have := Q1.out b h1; omega))
  clear r tt KY K1 kd y1 K0 KP1
  subst hW
  go_wp2
  refine bodyPost_ret (v := .agg #[.int .i64 a0, .slice ua1 x1.length uc1]) ?_ rfl ⟨[.int .i64 a0, .slice ua1 x1.length uc1], rfl, tRow_mkO PF1.out (fun b h => by have := Q1.out b h; show w.heap.size ≤ b; omega) , DF.out⟩
  simp [results, Try.f86, go_sem, e0, e1]
set_option maxHeartbeats 8000000 in
set_option maxRecDepth 100000 in
theorem copyEachRow (v : Value) (xs : List (Int × List Int)) (w : World) (h : SlR tRow w v xs) (hs : zL tRow xs ≤ 1048576) :
    Calls Try.prog 85 #[v, .func (.func 86) #[] #[]] w (FreshS 73 tRow w xs) := by
  obtain ⟨i0, hi, hz0, hz1⟩ : ∃ i0, Try.prog.info? 73 = some i0 ∧ i0.zero = some (.agg #[.int .i64 0, .slice none 0 0]) ∧ i0.size = 2 := by
    have h0 := Try.info_Row
    cases q : Try.prog.info? 73 with
    | none => rw [q] at h0; simp at h0
    | some i => rw [q] at h0; simp only [Option.map_some, Option.some.injEq, Prod.mk.injEq] at h0; exact ⟨i, rfl, h0.1, h0.2⟩
  have hz2 : i0.bytes ≤ 512 := by
    have h0 := Try.bytes_Row
    rw [hi] at h0
    simpa using h0
  have HI := Lib.hid hi; have HZ0 := Lib.hid hz0; have HZ1 := Lib.hid hz1; have HZ2 := Lib.hid hz2
  clear hi hz0 hz1 hz2
  have H := Lib.hid h
  have hlen := zL_len hs
  have HS := Lib.hid hs
  obtain ⟨a, cap, rfl⟩ := slR_len h
  clear h hs
  go_enter Try.func85, Try.ntmps85
  go_wp2_with (at_make; refine wpList_make_full _ rfl (.tmp 9) (.tmp 9) 26 rfl w.heap.size 73 i0 (.agg #[.int .i64 0, .slice none 0 0]) 2 Try.underlying26 HI.out HZ0.out HZ1.out _ _ _ _ xs.length rfl rfl rfl rfl (by have h9 := Nat.mul_le_mul HZ2.out hlen; have h8 := Nat.mul_le_mul hlen HZ2.out; omega) (by unfold maxLen; omega) (Nat.le_refl _) ?_)
  intro w1 hown0 hg0
  have hown1 : SlO 73 tRow w1 (since w) (.slice (some ⟨w.heap.size, 0, none⟩) xs.length xs.length) (List.replicate xs.length tRow.d) := slO_made (z := #[.int .i64 0, .slice none 0 0]) tRow_law rfl (tRow_zero w1) (Nat.le_refl _) hown0
  have hbel1 := (Below.refl w.heap.size w).grown hg0 (Nat.le_refl _) (fun k hk => by cases hk)
  clear hown0 hg0
  go_wp2
  go_loopw [13] (fun i wr => ∃ k : Nat, k ≤ xs.length ∧ i = .int .i64 k ∧ SlO 73 tRow wr (since w) (.slice (some ⟨w.heap.size, 0, none⟩) xs.length xs.length) (xs.take k ++ List.replicate (xs.length - k) tRow.d) ∧ Below w.heap.size w wr) (fun i _ => xs.length - (intOf i).toNat)
  case atStart => exact ⟨0, Nat.zero_le _, rfl, by simpa using hown1, hbel1⟩
  case round =>
    obtain ⟨k, hk, rfl, hown, hbel⟩ := hrel
    by_cases hlt : k < xs.length
    · have HSET := Lib.hid (cTo_step (d := tRow.d) hlt)
      have HKL : Hid (k < (xs.take k ++ List.replicate (xs.length - k) tRow.d).length) := Lib.hid (by rw [cTo_len hk]; exact hlt)
      have HLL := Lib.hid (cTo_len (d := tRow.d) hk)
      have i1 : (0 : Int) ≤ (k : Int) := by omega
      have i2 : (k : Int) < (xs.length : Int) := by omega
      have hzx := zL_at HS.out hlt
      obtain ⟨b, off, cap', cs, hv, hbl, hcs, hR⟩ := slR_at (slR_below tRow_law H.out hbel) hlt
      simp only [Value.slice.injEq] at hv
      obtain ⟨rfl, _, rfl⟩ := hv
      obtain ⟨hme, hFg, hgl, cj, Fj, Lc, hrow, hLc, hO, hFj, hput⟩ := slO_open tRow_law hown HKL.out
      clear hme
      clear hown1 hbel1
      generalize xs.getD k tRow.d = x at *
      generalize xs.take k ++ List.replicate (xs.length - k) tRow.d = ys at *
      obtain ⟨a0, x1⟩ := x
      obtain ⟨v1, hR'⟩ := tRow_R hR
      obtain ⟨rfl, h1⟩ := hR'
      have p0 : wr.cell? ⟨b, off + k * 2, none⟩ = some (Value.int .i64 a0) := hcs 0 (by decide)
      have p1 : wr.cell? ⟨b, off + k * 2 + 1, none⟩ = some (v1) := hcs 1 (by decide)
      rw [tRow_sz] at hzx
      have S1 := Lib.hid (show zL tInt x1 ≤ 1048576 by omega)
      obtain ⟨sa1, sc1, rfl⟩ := slR_len h1
      have HC := Lib.hid (fun w g1 => copyRow_P a0 (.slice sa1 x1.length sc1) x1 w g1 S1.out)
      have G1 := Lib.hid h1
      clear hcs hzx h1
      have hal : Below wr.heap.size wr (wr.alloc (.cells #[.int .i64 a0, .slice sa1 x1.length sc1] 73)) := (Below.refl _ _).alloc (Nat.le_refl _) _
      go_wp2_with fail
      generalize wr.alloc (.cells #[.int .i64 a0, .slice sa1 x1.length sc1] 73) = W2 at *
      refine (HC.out _ (slR_below tInt_law G1.out hal)).mono ?_
      rintro e w2 ⟨cv, rfl, ow0, b20⟩
      have ow : tRow.O w2 (since wr) cv _ := tRow_law.mono ow0 (fun b hb => Nat.le_trans hal.size hb)
      have b2 := hal.trans (b20.mono hal.size)
      clear ow0 b20 hal
      replace ow := tRow_law.lt ow
      have ow2 := ow
      obtain ⟨u1, K1, rfl, o1, _⟩ := tRow_O ow2
      obtain ⟨ua1, uc1, rfl⟩ := slO_len o1
      clear o1
      have r0 := row_turn (G := fun _ => False) hrow (turn_below b2) (fun _ _ => not_false)
      rw [HLL.out] at r0
      have q0 : ∃ x, w2.cell? ⟨w.heap.size, k * 2, none⟩ = some x := ⟨_, (World.ownsRow.cellAt r0 (k * 2) (by have := HKL.out; rw [HLL.out] at this; show _ < xs.length * 2; omega)).trans (List.getElem?_eq_getElem (by have h1 : Lc.length = xs.length * 2 := r0.1; omega))⟩
      obtain ⟨y0, q0⟩ := q0
      have f0 := World.ownsRow.frozenAt r0 (k * 2)
      have q1 : ∃ x, w2.cell? ⟨w.heap.size, k * 2 + 1, none⟩ = some x := ⟨_, (World.ownsRow.cellAt r0 (k * 2 + 1) (by have := HKL.out; rw [HLL.out] at this; show _ < xs.length * 2; omega)).trans (List.getElem?_eq_getElem (by have h1 : Lc.length = xs.length * 2 := r0.1; omega))⟩
      obtain ⟨y1, q1⟩ := q1
      have f1 := World.ownsRow.frozenAt r0 (k * 2 + 1)
      have b3 := hbel.trans (b2.mono hbel.size)
      have B3 := Lib.hid ((b3.setCell (p := ⟨w.heap.size, k * 2, none⟩) (Nat.le_refl _) (.int .i64 a0)).setCell (p := ⟨w.heap.size, k * 2 + 1, none⟩) (Nat.le_refl _) (.slice ua1 x1.length uc1))
      have hT : Turn (fun b => b = w.heap.size ∨ Fj b ∨ wr.heap.size ≤ b) wr ((w2.setCell ⟨w.heap.size, k * 2, none⟩ (.int .i64 a0)).setCell ⟨w.heap.size, k * 2 + 1, none⟩ (.slice ua1 x1.length uc1)) := (((turn_below b2).trans (turn_set (j := k * 2) (u := .int .i64 a0) (Or.inl rfl))).trans (turn_set (j := k * 2 + 1) (u := .slice ua1 x1.length uc1) (Or.inl rfl)))
      have hT2 : Turn (fun b => b = w.heap.size) w2 ((w2.setCell ⟨w.heap.size, k * 2, none⟩ (.int .i64 a0)).setCell ⟨w.heap.size, k * 2 + 1, none⟩ (.slice ua1 x1.length uc1)) := (((Turn.refl (fun b => b = w.heap.size) _).trans (turn_set (G := fun b => b = w.heap.size) (j := k * 2) (u := .int .i64 a0) rfl)).trans (turn_set (G := fun b => b = w.heap.size) (j := k * 2 + 1) (u := .slice ua1 x1.length uc1) rfl))
      have hO2 := tRow_law.turn ow hT2 (fun b h1 h2 => by have := h1.1; simp only [since] at this; omega)
      have r9 := (World.ownsRow.stored (World.ownsRow.stored r0 (k * 2) (.int .i64 a0)).1 (k * 2 + 1) (.slice ua1 x1.length uc1)).1
      have hLl : Lc.length = xs.length * 2 := r0.1
      have hst := Lib.hid (hput ((w2.setCell ⟨w.heap.size, k * 2, none⟩ (.int .i64 a0)).setCell ⟨w.heap.size, k * 2 + 1, none⟩ (.slice ua1 x1.length uc1)) ((Lc.set (k * 2) (.int .i64 a0)).set (k * 2 + 1) (.slice ua1 x1.length uc1)) [.int .i64 a0, .slice ua1 x1.length uc1] _ (a0, x1) (by rw [HLL.out]; exact r9) (fun p hp => by have hp2 : p < k * 2 ∨ k * 2 + 2 ≤ p := hp; rw [List.getElem?_set_ne (by omega)]; rw [List.getElem?_set_ne (by omega)]) (fun i hi => by have hi' : i < 2 := hi; match i, hi' with | 0, _ => (show (((Lc.set (k * 2) (.int .i64 a0)).set (k * 2 + 1) (.slice ua1 x1.length uc1)))[k * 2]? = _; rw [List.getElem?_set_ne (by omega)]; rw [List.getElem?_set_self (by first | omega | (simp only [List.length_set]; omega))]; rfl) | 1, _ => (show (((Lc.set (k * 2) (.int .i64 a0)).set (k * 2 + 1) (.slice ua1 x1.length uc1)))[k * 2 + 1]? = _; rw [List.getElem?_set_self (by first | omega | (simp only [List.length_set]; omega))]; rfl)) hO2 (fun b hb => ⟨Nat.le_trans hbel.size hb.1, Or.inr hb.1⟩) hT)
      have hst2 : SlO 73 tRow ((w2.setCell ⟨w.heap.size, k * 2, none⟩ (.int .i64 a0)).setCell ⟨w.heap.size, k * 2 + 1, none⟩ (.slice ua1 x1.length uc1)) (since w) (.slice (some ⟨w.heap.size, 0, none⟩) xs.length xs.length) (xs.take (k + 1) ++ List.replicate (xs.length - (k + 1)) tRow.d) := by have := hst.out; rw [HSET.out] at this; exact this
      have HST := Lib.hid hst2
      clear hst hst2 hT hT2 hO2 r9 r0 hrow hO hput hown hbel b2 ow b3 hLl hLc hFj
      go_wp2
      go_roundw
      case rel => exact ⟨k + 1, by omega, by go_num, HST.out, B3.out⟩
      case measure => simp [intOf]; omega
    · obtain rfl : k = xs.length := by omega
      have HE : Hid (xs.take xs.length ++ List.replicate (xs.length - xs.length) tRow.d = xs) := Lib.hid (by simp)
      rw [HE.out] at hown
      go_wp2
      go_ret
      exact ⟨_, rfl, hown, hbel⟩
set_option maxHeartbeats 2000000 in
set_option maxRecDepth 100000 in
theorem copyRows_any (v : Value) (xs : List (Int × List Int)) (w : World) (h : SlR tRow w v xs) (hs : zL tRow xs ≤ 1048576) :
    Calls Try.prog 34 #[v] w (FreshS 73 tRow w xs) := by
  have H := Lib.hid (fun w h => copyEachRow v xs w h hs)
  have HV := Lib.hid h
  clear h hs
  go_enter Try.func34, Try.ntmps34
  go_wp2_with fail
  refine (H.out _ HV.out).mono ?_
  rintro e w1 ⟨u, rfl, o1, b1⟩
  obtain ⟨ua, uc, rfl⟩ := slO_len o1
  go_wp2
  go_ret
  exact ⟨_, rfl, o1, b1⟩
end Go.Proofs.Ytdhglmoanpkeoaa
namespace Go.Proofs.Ytdhglmoanpkeoaa
open Go.RowKit
set_option linter.unusedVariables false
set_option linter.unusedSimpArgs false
set_option maxHeartbeats 8000000 in
set_option maxRecDepth 100000 in
theorem implSegmentRows (sv : Value) (ss : List (List VerD)) (now g t : Int) (w : World) (h : SlR tVersionS w sv ss) (hs : zL tVersionS ss ≤ 1048576) :
    Calls Try.prog 10 #[.agg #[sv, .int .i64 now], .int .i64 g, .int .i64 t] w (FreshS 73 tRow w (segRowsL ss now g t)) := by
  obtain ⟨us, hls, hsr⟩ := slR_ls h
  have HUL := Lib.hid hsr.1
  obtain ⟨a, cap, rfl⟩ := slR_len h
  have hlen := zL_len hs
  have HSS := Lib.hid hs
  have H := Lib.hid h
  have HLS := Lib.hid hls
  have HSR := Lib.hid hsr
  have d0 := Lib.hid (show Below w.heap.size w (w.alloc (.cells #[.slice a ss.length cap, .int .i64 now] 30)) from (Below.refl _ _).alloc (Nat.le_refl _) _)
  clear hls hsr h hs
  cases hst : storeB ss now with
  | false =>
    have HE := Lib.hid (segRows_no (g := g) (t := t) (fun q => by rw [hst] at q; cases q.1))
    have HI := Lib.hid (fun W g => checkStore_no (.slice a ss.length cap) ss now W g HSS.out hst)
    rw [HE.out]
    clear hst
    go_enter Try.func10, Try.ntmps10
    go_wp2_with fail
    generalize w.alloc (.cells #[.slice a ss.length cap, .int .i64 now] 30) = W at *
    refine (HI.out W (slR_below tVersionS_law H.out d0.out)).mono ?_
    rintro e w1 ⟨rfl, b1⟩
    have D1 := d0.out.trans (b1.mono d0.out.size)
    go_wp2
    go_ret
    exact ⟨_, rfl, slO_nil _ _ _ _, D1⟩
  | true =>
    have HT0 := Lib.hid hst
    have HI := Lib.hid (fun W g g2 g3 => checkStore_yes (.slice a ss.length cap) ss now us W g HSS.out hst g2 g3)
    unfold CheckN at HI
    rw [HUL.out] at HI
    clear hst
    have hB := heap_alloc_new w (.cells #[.slice a ss.length cap, .int .i64 now] 30)
    have B0 : Hid ((w.alloc (.cells #[.slice a ss.length cap, .int .i64 now] 30)).heap[w.heap.size]? = some (.cells #[.slice a ss.length cap, .int .i64 now] 30 (0, 0))) := Lib.hid hB
    clear hB
    by_cases hg : 0 ≤ g ∧ g < (ss.length : Int)
    rotate_left
    · have HE := Lib.hid (segRows_no (ss := ss) (now := now) (t := t) (g := g) (fun q => hg q.2))
      rw [HE.out]
      have HS := Lib.hid (fun W => hasSegment_any a ss.length cap now g W hlen)
      rw [decide_eq_false hg] at HS
      clear hg
      go_enter Try.func10, Try.ntmps10
      go_wp2_with fail
      generalize w.alloc (.cells #[.slice a ss.length cap, .int .i64 now] 30) = W at *
      refine (HI.out W (slR_below tVersionS_law H.out d0.out) (lsR_below HLS.out d0.out) (segsR_below HSR.out d0.out)).mono ?_
      rintro e w1 ⟨gt, bs, rfl, ht, b1⟩
      have D1 := Lib.hid (d0.out.trans (b1.mono d0.out.size))
      replace B0 := Lib.hid ((b1.block w.heap.size (Array.getElem?_eq_some_iff.1 B0.out).1).trans B0.out)
      have HT := Lib.hid ht
      clear ht b1
      have q0 := (cell_of_row w1 _ 0 _ _ _ B0.out).trans (show _ = some (Value.slice a ss.length cap) from rfl)
      have q1 := (cell_of_row w1 _ 1 _ _ _ B0.out).trans (show _ = some (Value.int .i64 now) from rfl)
      go_wp2_with fail
      clear q0 q1
      refine (HS.out _).mono ?_
      rintro e w2 ⟨rfl, b2⟩
      have D2 := Lib.hid (D1.out.trans (b2.mono D1.out.size))
      clear b2
      go_wp2
      go_ret
      exact ⟨_, rfl, slO_nil _ _ _ _, D2.out⟩
    have HS := Lib.hid (fun W => hasSegment_any a ss.length cap now g W hlen)
    rw [decide_eq_true hg] at HS
    obtain ⟨hg0, hlt⟩ := hg
    obtain ⟨k, rfl⟩ := Int.eq_ofNat_of_zero_le hg0
    replace hlt : k < ss.length := by omega
    have HE := Lib.hid (segRows_yes (t := t) ⟨HT0.out, hg0, by omega⟩)
    rw [HE.out]
    clear HE
    show Calls _ _ _ _ (FreshS _ _ _ (rowsV (ss.getD ((k : Int)).toNat []) t))
    rw [Int.toNat_natCast]
    have i1 : (0 : Int) ≤ (k : Int) := by omega
    have i2 : (k : Int) < (ss.length : Int) := by omega
    have HLT := Lib.hid hlt
    have HSM := Lib.hid (Nat.le_trans (zL_seg hlt) HSS.out)
    have HSZ : Hid (zL tRow (rowsV (ss.getD k []) t) ≤ 1048576) := Lib.hid (by have h1 := zL_rowsV (ss.getD k []) t; have h2 := HSM.out; omega)
    have HSK := Lib.hid (HSR.out.2 k hlt)
    clear hg0
    go_enter Try.func10, Try.ntmps10
    go_wp2_with fail
    generalize w.alloc (.cells #[.slice a ss.length cap, .int .i64 now] 30) = W at *
    refine (HI.out W (slR_below tVersionS_law H.out d0.out) (lsR_below HLS.out d0.out) (segsR_below HSR.out d0.out)).mono ?_
    rintro e w0 ⟨g, bs, rfl, ht, b1⟩
    have D0 := Lib.hid (d0.out.trans (b1.mono d0.out.size))
    replace B0 := Lib.hid ((b1.block w.heap.size (Array.getElem?_eq_some_iff.1 B0.out).1).trans B0.out)
    have HT0' := Lib.hid ht
    clear ht b1
    have q0 := (cell_of_row w0 _ 0 _ _ _ B0.out).trans (show _ = some (Value.slice a ss.length cap) from rfl)
    have q1 := (cell_of_row w0 _ 1 _ _ _ B0.out).trans (show _ = some (Value.int .i64 now) from rfl)
    go_wp2_with fail
    clear q0 q1
    refine (HS.out _).mono ?_
    rintro e w1 ⟨rfl, b2⟩
    have D1 := Lib.hid (D0.out.trans (b2.mono D0.out.size))
    have HT := Lib.hid (tabN_below HT0'.out b2)
    clear b2 HT0'
    obtain ⟨_, tg, tl, trow, _⟩ := HT.out
    obtain ⟨r0, r1, _⟩ := trow k (by have := HUL.out; have := HLT.out; omega)
    have HC := Lib.hid (segRowsAt (bs.getD k 0) (us.getD k s0V) (ss.getD k []) t w w1 D1.out r1 HSK.out.1 HSK.out.2 HSM.out)
    unfold ptrV at r0 HC
    clear trow tg tl r1 HSK
    generalize bs.getD k 0 = pb at *
    generalize us.getD k s0V = u at *
    generalize ss.getD k [] = seg at *
    go_wp2_with fail
    refine HC.out.mono ?_
    rintro e w3 ⟨v3, M, rfl, o3, sh3, b3⟩
    obtain ⟨ma, mc, rfl⟩ := slO_len o3
    have D3 := Lib.hid (D1.out.trans (b3.mono D1.out.size))
    have HR := Lib.hid (raw_reads (T := tRow) (by decide) o3 (sh_below tRow_law sh3 D3.out))
    clear o3 sh3 b3 r0
    go_wp2_with fail
    refine (copyRows_any (.slice ma M.length mc) _ w3 HR.out HSZ.out).mono ?_
    rintro e w4 ⟨v4, rfl, ho4, b4⟩
    have D4 := Lib.hid (D3.out.trans (b4.mono D3.out.size))
    have HO4 := Lib.hid ho4
    clear ho4 b4 HR
    go_wp2
    go_ret
    exact ⟨_, rfl, slO_mono HO4.out (fun b hb => Nat.le_trans D3.out.size hb), D4.out⟩
end Go.Proofs.Ytdhglmoanpkeoaa
