/-
  Texts of the proof, merged: VerSpec4, BrRow, RowInsM, RowSort, VerSpec5, TStore, NewMath, VerSpec6, VerSpec7, VerSize, Rec, RecLim, RecEq.
-/
import Derived.Test.YtginjmnohnidiaaSB2
import Derived.BigQuiet
import Derived.Deep.QuietTactic
import Derived.Deep.RegionHeld3
import Derived.Laws.CopyOwn
import Derived.Lib.MinMax
import Derived.Laws.StructEq
namespace Go.Proofs.Ytginjmnohnidiaa
open Go.RowKit
set_option linter.unusedVariables false
set_option linter.unusedSimpArgs false
set_option maxHeartbeats 8000000 in
set_option maxRecDepth 100000 in
theorem specIsStore (sv : Value) (ss : List (List VerD)) (now : Int) (w : World) (h : SlR tVersionS w sv ss) (hs : zL tVersionS ss ≤ 1048576) :
    Calls Try.prog 31 #[.agg #[sv, .int .i64 now]] w (fun e w' => e = .returned (.bool (storeB ss now)) ∧ Below w.heap.size w w') := by
  have hlen := zL_len hs
  obtain ⟨a, cap, rfl⟩ := slR_len h
  have HC := Lib.hid (fun W g => specL7All (.slice a ss.length cap) ss now W g hs)
  have HZF : Hid (zL tVersion ss.flatten ≤ 1048576) := Lib.hid (by have := zL_all ss; omega)
  have H := Lib.hid h
  have HS := Lib.hid hs
  have d0 := Lib.hid (show Below w.heap.size w (w.alloc (.cells #[.slice a ss.length cap, .int .i64 now] 45)) from (Below.refl _ _).alloc (Nat.le_refl _) _)
  have B0 : Hid ((w.alloc (.cells #[.slice a ss.length cap, .int .i64 now] 45)).heap[w.heap.size]? = some (.cells #[.slice a ss.length cap, .int .i64 now] 45 (0, 0))) := Lib.hid (heap_alloc_new w _)
  have Y0 : Hid (w.heap.size < (w.alloc (.cells #[.slice a ss.length cap, .int .i64 now] 45)).heap.size) := Lib.hid (by simp [World.size_alloc])
  clear h hs
  by_cases hc : 1 ≤ ss.length ∧ ss.length ≤ 8
  rotate_left
  · have HF := Lib.hid (store_no_count (now := now) hc)
    have HI := Lib.hid (fun W => in_no (ss.length : Int) 1 8 W (by omega))
    clear hc
    rw [HF.out]
    go_enter Try.func31, Try.ntmps31
    go_wp2_with fail
    refine (HI.out _).mono ?_
    rintro e wx ⟨rfl, rfl⟩
    go_wp2
    go_ret
    exact ⟨rfl, d0.out⟩
  have HI1 := Lib.hid (fun W => in_yes (ss.length : Int) 1 8 W (by omega) (by omega))
  have HCN := Lib.hid hc
  by_cases hn : 0 ≤ now ∧ now ≤ 100000
  rotate_left
  · have HF := Lib.hid (store_no_now (ss := ss) hn)
    have HI := Lib.hid (fun W => in_no now 0 100000 W hn)
    clear hn
    rw [HF.out]
    go_enter Try.func31, Try.ntmps31
    go_wp2_with fail
    refine (HI1.out _).mono ?_
    rintro e wx ⟨rfl, rfl⟩
    go_wp2_with fail
    refine (HI.out _).mono ?_
    rintro e wx ⟨rfl, rfl⟩
    go_wp2
    go_ret
    exact ⟨rfl, d0.out⟩
  have HI2 := Lib.hid (fun W => in_yes now 0 100000 W hn.1 hn.2)
  have HNN := Lib.hid hn
  clear hc hn
  go_enter Try.func31, Try.ntmps31
  go_wp2_with fail
  refine (HI1.out _).mono ?_
  rintro e wx ⟨rfl, rfl⟩
  go_wp2_with fail
  refine (HI2.out _).mono ?_
  rintro e wx ⟨rfl, rfl⟩
  go_wp2
  generalize w.alloc (.cells #[.slice a ss.length cap, .int .i64 now] 45) = W at *
  have q0 := (cell_of_row W _ 0 _ _ _ B0.out).trans (show _ = some (Value.slice a ss.length cap) from rfl)
  have q1 := (cell_of_row W _ 1 _ _ _ B0.out).trans (show _ = some (Value.int .i64 now) from rfl)
  have G0 := Lib.hid q0
  have G1 := Lib.hid q1
  have HW := Lib.hid (slR_below tVersionS_law H.out d0.out)
  clear q0 q1 B0
  go_loopw [3] (fun i wr => ∃ k : Nat, k ≤ ss.length ∧ i = .int .i64 k ∧ Hid (ShortP ss k) ∧ Below W.heap.size W wr) (fun i _ => ss.length - (intOf i).toNat)
  case atStart => exact ⟨0, Nat.zero_le _, rfl, Lib.hid (fun j hj => by omega), Below.refl _ _⟩
  case round =>
    obtain ⟨k, hk, rfl, hsh, hbel⟩ := hrel
    have p0 := (hbel.cell (p := ⟨w.heap.size, 0, none⟩) Y0.out).trans G0.out
    have p1 := (hbel.cell (p := ⟨w.heap.size, 1, none⟩) Y0.out).trans G1.out
    by_cases hlt : k < ss.length
    · have i1 : (0 : Int) ≤ (k : Int) := by omega
      have i2 : (k : Int) < (ss.length : Int) := by omega
      obtain ⟨b, off, cap', cs, hv, hbl, hcs, hR⟩ := slR_at HW.out hlt
      simp only [Value.slice.injEq] at hv
      obtain ⟨rfl, _, rfl⟩ := hv
      obtain ⟨u, rfl, hU⟩ := hR
      change SlR tVersion W u (ss.getD k []) at hU
      have pe : W.cell? ⟨b, off + k, none⟩ = some u := by have := hcs 0 Nat.one_pos; rw [show tVersionS.n = 1 from rfl, Nat.mul_one, Nat.add_zero] at this; exact this
      have he := (hbel.cell (p := ⟨b, off + k, none⟩) hbl).trans pe
      have HNO := Lib.hid (fun g => store_no_short (ss := ss) (now := now) hlt g)
      have HYS : Hid ((ss.getD k []).length ≤ 4 → ShortP ss (k + 1)) := Lib.hid (fun g j hj => by
        by_cases e : j = k
        · rw [e]; exact g
        · exact hsh.out j (by omega))
      have HML := Lib.hid (zL_len (show zL tVersion (ss.getD k []) ≤ 1048576 from Nat.le_trans (zL_seg hlt) HS.out))
      obtain ⟨ua, uc, rfl⟩ := slR_len hU
      have HB := Lib.hid hbel
      clear hcs pe hU hsh hbel
      generalize (ss.getD k []).length = m at *
      by_cases hm : m ≤ 4
      · have HY := Lib.hid (HYS.out hm)
        have hmi : ¬ (4 : Int) < (m : Int) := by omega
        clear HYS HNO
        go_wp2
        go_roundw
        case rel => exact ⟨k + 1, by omega, by go_num, HY, HB.out⟩
        case measure => simp [intOf]; omega
      · have HF := Lib.hid (HNO.out hm)
        have hmi : (4 : Int) < (m : Int) := by omega
        clear HYS HNO
        go_wp2
        go_ret
        exact ⟨ret_b HF.out.symm, d0.out.trans (HB.out.mono d0.out.size)⟩
    · obtain rfl : k = ss.length := by omega
      have HSH := Lib.hid hsh.out
      clear hsh
      have HB := Lib.hid hbel
      clear hbel
      go_wp2_with fail
      refine (HC.out wr (slR_below tVersionS_law HW.out HB.out)).mono ?_
      rintro e w1 ⟨v, L, rfl, hown, hshv, b1⟩
      have hVR := raw_reads (T := tVersion) (by decide) hown (sh_below tVersion_law hshv b1)
      obtain ⟨va, vc, rfl⟩ := slO_len hown
      rw [sh_len hshv] at *
      have V := Lib.hid hVR
      have b2 := HB.out.trans (b1.mono HB.out.size)
      have D1 := Lib.hid (d0.out.trans (b2.mono d0.out.size))
      have CN := Lib.hid ((b2.cell (p := ⟨w.heap.size, 1, none⟩) Y0.out).trans G1.out)
      have YN := Lib.hid (Nat.lt_of_lt_of_le Y0.out b2.size)
      have HFL := Lib.hid (zL_len HZF.out)
      clear hVR hown hshv b1 b2 HB p0 p1 HW G0 G1
      have hfl := HFL.out
      obtain ⟨l, hl⟩ : ∃ l, l = ss.flatten := ⟨_, rfl⟩
      have HLL := Lib.hid hl
      rw [← hl] at V HFL hfl ⊢
      clear hl
      go_wp2
      go_loopw [5] (fun i wr => ∃ k : Nat, k ≤ l.length ∧ i = .int .i64 k ∧ Hid (VersP l now k) ∧ Below w1.heap.size w1 wr) (fun i _ => l.length - (intOf i).toNat)
      case atStart => exact ⟨0, Nat.zero_le _, rfl, Lib.hid (fun j hj => by omega), Below.refl _ _⟩
      case round =>
        obtain ⟨k, hk, rfl, hvs, hbel⟩ := hrel
        by_cases hlt : k < l.length
        · have i1 : (0 : Int) ≤ (k : Int) := by omega
          have i2 : (k : Int) < (l.length : Int) := by omega
          obtain ⟨b, off, cap', xa, xc, hv, hbl, c0, c1, c2, c3, hx⟩ := verR_at V.out hlt
          simp only [Value.slice.injEq] at hv
          obtain ⟨rfl, _, rfl⟩ := hv
          have HXL := Lib.hid (ver_len (by rw [HLL.out]; exact HZF.out) hlt)
          have HNV : Hid (verB (l.getD k v0D) now = false → storeB ss now = false) := Lib.hid (fun g => store_no_ver (i := k) (by rw [← HLL.out]; exact hlt) (by rw [← HLL.out]; exact g))
          have HNA : Hid (∀ j, j < k → apartB (l.getD k v0D) (l.getD j v0D) = false → storeB ss now = false) := Lib.hid (fun j hj g => store_no_apart (i := k) (k := j) (by rw [← HLL.out]; exact hlt) hj (by rw [← HLL.out]; exact g))
          have HST : Hid (verB (l.getD k v0D) now = true → (∀ j, j < k → apartB (l.getD k v0D) (l.getD j v0D) = true) → VersP l now (k + 1)) := Lib.hid (fun g1 g2 => vers_step hvs.out g1 g2)
          have HRX : Hid (Ints w1 (.slice xa (l.getD k v0D).2.1.length xc) (l.getD k v0D).2.1) := Lib.hid hx
          obtain ⟨x, hxe⟩ : ∃ x, x = l.getD k v0D := ⟨_, rfl⟩
          rw [← hxe] at HXL HNV HNA HST HRX c0 c1 c2 c3
          obtain ⟨id, xs, born, died⟩ := x
          simp only at c0 c1 c2 c3
          have C0 := Lib.hid c0
          have C1 := Lib.hid c1
          have C2 := Lib.hid c2
          have C3 := Lib.hid c3
          have HBL := Lib.hid hbl
          have d := Lib.hid hbel
          clear hx hxe c0 c1 c2 c3 hbl hbel hvs
          cases hver : verB (id, xs, born, died) now with
          | false =>
            have HF := Lib.hid (HNV.out hver)
            have HCV := Lib.hid (fun W g => hver ▸ specVersion id born died now (.slice xa xs.length xc) xs W g HXL.out HNN.out.2)
            clear hver HNV HNA HST
            go_wp2
            have p_C0 := (d.out.cell (p := ⟨b, off + k * 4, none⟩) HBL.out).trans C0.out
            have p_C1 := (d.out.cell (p := ⟨b, off + k * 4 + 1, none⟩) HBL.out).trans C1.out
            have p_C2 := (d.out.cell (p := ⟨b, off + k * 4 + 2, none⟩) HBL.out).trans C2.out
            have p_C3 := (d.out.cell (p := ⟨b, off + k * 4 + 3, none⟩) HBL.out).trans C3.out
            have p_CN := (d.out.cell (p := ⟨w.heap.size, 1, none⟩) YN.out).trans CN.out
            refine wp_region_held_drew (S := fun w' => w'.cell? ⟨b, off + k * 4, none⟩ = some (Value.int .i64 id) ∧ w'.cell? ⟨b, off + k * 4 + 1, none⟩ = some (Value.slice xa xs.length xc) ∧ w'.cell? ⟨b, off + k * 4 + 2, none⟩ = some (Value.int .i64 born) ∧ w'.cell? ⟨b, off + k * 4 + 3, none⟩ = some (Value.int .i64 died) ∧ w'.cell? ⟨w.heap.size, 1, none⟩ = some (.int .i64 now)) (by kernel_rfl) ⟨p_C0, p_C1, p_C2, p_C3, p_CN⟩ (fun hHeld => ?_)
            clear p_C0 p_C1 p_C2 p_C3 p_CN
            have cdr : Below wr.heap.size wr wr.drew := below_drew (Below.refl _ _)
            replace d := Lib.hid (d.out.trans (cdr.mono d.out.size))
            clear cdr
            refine take_runs (i := 0) (v := ?_) (by simp only [List.getElem?_toArray, List.getElem?_cons_succ, List.getElem?_cons_zero]; rfl) (by kernel_rfl) (by kernel_rfl) (by kernel_rfl) rfl (by exact fun _ _ _ h => h) (by rfl) ?_ (by assumption) ?_
            rotate_left
            · intro w hSw; (try dsimp only at hSw); go_simp; try (with_reducible rfl)
            try simp only [Act.put, List.setIfInBounds_toArray, List.set_cons_zero, List.set_cons_succ]
            refine take_runs (i := 1) (v := ?_) (by simp only [List.getElem?_toArray, List.getElem?_cons_succ, List.getElem?_cons_zero]; rfl) (by kernel_rfl) (by kernel_rfl) (by kernel_rfl) rfl (by exact fun _ _ _ h => h) (by rfl) ?_ (by assumption) ?_
            rotate_left
            · intro w hSw; (try dsimp only at hSw); go_simp; try (with_reducible rfl)
            try simp only [Act.put, List.setIfInBounds_toArray, List.set_cons_zero, List.set_cons_succ]
            refine take_runs (i := 2) (v := ?_) (by simp only [List.getElem?_toArray, List.getElem?_cons_succ, List.getElem?_cons_zero]; rfl) (by kernel_rfl) (by kernel_rfl) (by kernel_rfl) rfl (by exact fun _ _ _ h => h) (by rfl) ?_ (by assumption) ?_
            rotate_left
            · intro w hSw; (try dsimp only at hSw); go_simp; try (with_reducible rfl)
            try simp only [Act.put, List.setIfInBounds_toArray, List.set_cons_zero, List.set_cons_succ]
            refine take_runs (i := 3) (v := ?_) (by simp only [List.getElem?_toArray, List.getElem?_cons_succ, List.getElem?_cons_zero]; rfl) (by kernel_rfl) (by kernel_rfl) (by kernel_rfl) rfl (by exact fun _ _ _ h => h) (by rfl) ?_ (by assumption) ?_
            rotate_left
            · intro w hSw; (try dsimp only at hSw); go_simp; try (with_reducible rfl)
            try simp only [Act.put, List.setIfInBounds_toArray, List.set_cons_zero, List.set_cons_succ]
            refine take_runs (i := 4) (v := ?_) (by simp only [List.getElem?_toArray, List.getElem?_cons_succ, List.getElem?_cons_zero]; rfl) (by kernel_rfl) (by kernel_rfl) (by kernel_rfl) rfl (by exact fun _ _ _ h => h) (by rfl) ?_ (by assumption) ?_
            rotate_left
            · intro w hSw; (try dsimp only at hSw); go_simp; try (with_reducible rfl)
            try simp only [Act.put, List.setIfInBounds_toArray, List.set_cons_zero, List.set_cons_succ]
            refine take_runs (i := 5) (v := ?_) (by simp only [List.getElem?_toArray, List.getElem?_cons_succ, List.getElem?_cons_zero]; rfl) (by kernel_rfl) (by kernel_rfl) (by kernel_rfl) rfl (by exact fun _ _ _ h => h) (by rfl) ?_ (by assumption) ?_
            rotate_left
            · intro w hSw; (try dsimp only at hSw); go_simp; try (with_reducible rfl)
            try simp only [Act.put, List.setIfInBounds_toArray, List.set_cons_zero, List.set_cons_succ]
            refine wpAnyH_ready (rs := [6]) (by kernel_rfl) (by simp) ?_
            refine (AllReadyH.cons (o := _) (by simp only [List.getElem?_toArray, List.getElem?_cons_succ, List.getElem?_cons_zero]; rfl) (fun K hK => ?_) AllReadyH.nil)
            go_simp
            refine (HCV.out (wr.drew) (ints_below HRX.out d.out)).mono ?_
            rintro e w5 ⟨rfl, c5⟩
            replace d := Lib.hid (d.out.trans (c5.mono d.out.size))
            have Z_w5 := Lib.hid (show wr.heap.size ≤ w5.heap.size from c5.size)
            clear c5
            have p_C0 := (d.out.cell (p := ⟨b, off + k * 4, none⟩) HBL.out).trans C0.out
            have p_C1 := (d.out.cell (p := ⟨b, off + k * 4 + 1, none⟩) HBL.out).trans C1.out
            have p_C2 := (d.out.cell (p := ⟨b, off + k * 4 + 2, none⟩) HBL.out).trans C2.out
            have p_C3 := (d.out.cell (p := ⟨b, off + k * 4 + 3, none⟩) HBL.out).trans C3.out
            have p_CN := (d.out.cell (p := ⟨w.heap.size, 1, none⟩) YN.out).trans CN.out
            refine hK.out _ _ ⟨p_C0, p_C1, p_C2, p_C3, p_CN⟩ (fun hHeld => ?_)
            clear p_C0 p_C1 p_C2 p_C3 p_CN
            clear hK K
            try simp only [Act.put, List.setIfInBounds_toArray, List.set_cons_zero, List.set_cons_succ]
            refine take_runs (i := 7) (v := ?_) (by simp only [List.getElem?_toArray, List.getElem?_cons_succ, List.getElem?_cons_zero]; rfl) (by kernel_rfl) (by kernel_rfl) (by kernel_rfl) rfl (by exact fun _ _ _ h => h) (by rfl) ?_ (by assumption) ?_
            rotate_left
            · intro w hSw; (try dsimp only at hSw); go_simp; try (with_reducible rfl)
            try simp only [Act.put, List.setIfInBounds_toArray, List.set_cons_zero, List.set_cons_succ]
            refine wpAnyH_done (by kernel_rfl) ?_ _
            clear hHeld
            go_wp2
            go_ret
            exact ⟨ret_b HF.out.symm, D1.out.trans (d.out.mono D1.out.size)⟩
          | true =>
            have HCV := Lib.hid (fun W g => hver ▸ specVersion id born died now (.slice xa xs.length xc) xs W g HXL.out HNN.out.2)
            have HST2 := Lib.hid (HST.out hver)
            clear hver HNV HST
            go_wp2
            have p_C0 := (d.out.cell (p := ⟨b, off + k * 4, none⟩) HBL.out).trans C0.out
            have p_C1 := (d.out.cell (p := ⟨b, off + k * 4 + 1, none⟩) HBL.out).trans C1.out
            have p_C2 := (d.out.cell (p := ⟨b, off + k * 4 + 2, none⟩) HBL.out).trans C2.out
            have p_C3 := (d.out.cell (p := ⟨b, off + k * 4 + 3, none⟩) HBL.out).trans C3.out
            have p_CN := (d.out.cell (p := ⟨w.heap.size, 1, none⟩) YN.out).trans CN.out
            refine wp_region_held_drew (S := fun w' => w'.cell? ⟨b, off + k * 4, none⟩ = some (Value.int .i64 id) ∧ w'.cell? ⟨b, off + k * 4 + 1, none⟩ = some (Value.slice xa xs.length xc) ∧ w'.cell? ⟨b, off + k * 4 + 2, none⟩ = some (Value.int .i64 born) ∧ w'.cell? ⟨b, off + k * 4 + 3, none⟩ = some (Value.int .i64 died) ∧ w'.cell? ⟨w.heap.size, 1, none⟩ = some (.int .i64 now)) (by kernel_rfl) ⟨p_C0, p_C1, p_C2, p_C3, p_CN⟩ (fun hHeld => ?_)
            clear p_C0 p_C1 p_C2 p_C3 p_CN
            have cdr : Below wr.heap.size wr wr.drew := below_drew (Below.refl _ _)
            replace d := Lib.hid (d.out.trans (cdr.mono d.out.size))
            clear cdr
            refine take_runs (i := 0) (v := ?_) (by simp only [List.getElem?_toArray, List.getElem?_cons_succ, List.getElem?_cons_zero]; rfl) (by kernel_rfl) (by kernel_rfl) (by kernel_rfl) rfl (by exact fun _ _ _ h => h) (by rfl) ?_ (by assumption) ?_
            rotate_left
            · intro w hSw; (try dsimp only at hSw); go_simp; try (with_reducible rfl)
            try simp only [Act.put, List.setIfInBounds_toArray, List.set_cons_zero, List.set_cons_succ]
            refine take_runs (i := 1) (v := ?_) (by simp only [List.getElem?_toArray, List.getElem?_cons_succ, List.getElem?_cons_zero]; rfl) (by kernel_rfl) (by kernel_rfl) (by kernel_rfl) rfl (by exact fun _ _ _ h => h) (by rfl) ?_ (by assumption) ?_
            rotate_left
            · intro w hSw; (try dsimp only at hSw); go_simp; try (with_reducible rfl)
            try simp only [Act.put, List.setIfInBounds_toArray, List.set_cons_zero, List.set_cons_succ]
            refine take_runs (i := 2) (v := ?_) (by simp only [List.getElem?_toArray, List.getElem?_cons_succ, List.getElem?_cons_zero]; rfl) (by kernel_rfl) (by kernel_rfl) (by kernel_rfl) rfl (by exact fun _ _ _ h => h) (by rfl) ?_ (by assumption) ?_
            rotate_left
            · intro w hSw; (try dsimp only at hSw); go_simp; try (with_reducible rfl)
            try simp only [Act.put, List.setIfInBounds_toArray, List.set_cons_zero, List.set_cons_succ]
            refine take_runs (i := 3) (v := ?_) (by simp only [List.getElem?_toArray, List.getElem?_cons_succ, List.getElem?_cons_zero]; rfl) (by kernel_rfl) (by kernel_rfl) (by kernel_rfl) rfl (by exact fun _ _ _ h => h) (by rfl) ?_ (by assumption) ?_
            rotate_left
            · intro w hSw; (try dsimp only at hSw); go_simp; try (with_reducible rfl)
            try simp only [Act.put, List.setIfInBounds_toArray, List.set_cons_zero, List.set_cons_succ]
            refine take_runs (i := 4) (v := ?_) (by simp only [List.getElem?_toArray, List.getElem?_cons_succ, List.getElem?_cons_zero]; rfl) (by kernel_rfl) (by kernel_rfl) (by kernel_rfl) rfl (by exact fun _ _ _ h => h) (by rfl) ?_ (by assumption) ?_
            rotate_left
            · intro w hSw; (try dsimp only at hSw); go_simp; try (with_reducible rfl)
            try simp only [Act.put, List.setIfInBounds_toArray, List.set_cons_zero, List.set_cons_succ]
            refine take_runs (i := 5) (v := ?_) (by simp only [List.getElem?_toArray, List.getElem?_cons_succ, List.getElem?_cons_zero]; rfl) (by kernel_rfl) (by kernel_rfl) (by kernel_rfl) rfl (by exact fun _ _ _ h => h) (by rfl) ?_ (by assumption) ?_
            rotate_left
            · intro w hSw; (try dsimp only at hSw); go_simp; try (with_reducible rfl)
            try simp only [Act.put, List.setIfInBounds_toArray, List.set_cons_zero, List.set_cons_succ]
            refine wpAnyH_ready (rs := [6]) (by kernel_rfl) (by simp) ?_
            refine (AllReadyH.cons (o := _) (by simp only [List.getElem?_toArray, List.getElem?_cons_succ, List.getElem?_cons_zero]; rfl) (fun K hK => ?_) AllReadyH.nil)
            go_simp
            refine (HCV.out (wr.drew) (ints_below HRX.out d.out)).mono ?_
            rintro e w5 ⟨rfl, c5⟩
            replace d := Lib.hid (d.out.trans (c5.mono d.out.size))
            have Z_w5 := Lib.hid (show wr.heap.size ≤ w5.heap.size from c5.size)
            clear c5
            have p_C0 := (d.out.cell (p := ⟨b, off + k * 4, none⟩) HBL.out).trans C0.out
            have p_C1 := (d.out.cell (p := ⟨b, off + k * 4 + 1, none⟩) HBL.out).trans C1.out
            have p_C2 := (d.out.cell (p := ⟨b, off + k * 4 + 2, none⟩) HBL.out).trans C2.out
            have p_C3 := (d.out.cell (p := ⟨b, off + k * 4 + 3, none⟩) HBL.out).trans C3.out
            have p_CN := (d.out.cell (p := ⟨w.heap.size, 1, none⟩) YN.out).trans CN.out
            refine hK.out _ _ ⟨p_C0, p_C1, p_C2, p_C3, p_CN⟩ (fun hHeld => ?_)
            clear p_C0 p_C1 p_C2 p_C3 p_CN
            clear hK K
            try simp only [Act.put, List.setIfInBounds_toArray, List.set_cons_zero, List.set_cons_succ]
            refine take_runs (i := 7) (v := ?_) (by simp only [List.getElem?_toArray, List.getElem?_cons_succ, List.getElem?_cons_zero]; rfl) (by kernel_rfl) (by kernel_rfl) (by kernel_rfl) rfl (by exact fun _ _ _ h => h) (by rfl) ?_ (by assumption) ?_
            rotate_left
            · intro w hSw; (try dsimp only at hSw); go_simp; try (with_reducible rfl)
            try simp only [Act.put, List.setIfInBounds_toArray, List.set_cons_zero, List.set_cons_succ]
            refine wpAnyH_done (by kernel_rfl) ?_ _
            clear hHeld
            go_wp2
            go_loopw [6] (fun i wr => ∃ m : Nat, m ≤ k ∧ i = .int .i64 m ∧ Hid (∀ j, j < m → apartB (id, xs, born, died) (l.getD j v0D) = true) ∧ Below w1.heap.size w1 wr) (fun i _ => k - (intOf i).toNat)
            case atStart => exact ⟨0, Nat.zero_le _, rfl, Lib.hid (fun j hj => by omega), d.out⟩
            case round =>
              obtain ⟨m, hm, rfl, hap, hbel⟩ := hrel
              clear d
              by_cases hml : m < k
              · have j1 : (0 : Int) ≤ (m : Int) := by omega
                have j2 : (m : Int) < (l.length : Int) := by omega
                have j3 : (m : Int) < (k : Int) := by omega
                obtain ⟨b2, off2, cap2, ya, yc, hv, hbl2, y0, y1, y2, y3, hy⟩ := verR_at V.out (k := m) (by omega)
                simp only [Value.slice.injEq, Option.some.injEq, Addr.mk.injEq] at hv
                obtain ⟨⟨rfl, rfl, _⟩, _, rfl⟩ := hv
                have HNX := Lib.hid (HNA.out m hml)
                have HYX : Hid (apartB (id, xs, born, died) (l.getD m v0D) = true → ∀ j, j < m + 1 → apartB (id, xs, born, died) (l.getD j v0D) = true) := Lib.hid (fun g j hj => by
                  by_cases e : j = m
                  · rw [e]; exact g
                  · exact hap.out j (by omega))
                generalize l.getD m v0D = y at *
                obtain ⟨id2, ys, born2, died2⟩ := y
                simp only at y0 y1 y2 y3
                have E0 := Lib.hid y0
                have E1 := Lib.hid y1
                have E2 := Lib.hid y2
                have E3 := Lib.hid y3
                have d := Lib.hid hbel
                clear y0 y1 y2 y3 hy hap hbel
                have HCA := Lib.hid (specApart id born died id2 born2 died2 (.slice xa xs.length xc) (.slice ya ys.length yc))
                cases hapt : decide (apartP id born died id2 born2 died2) with
                | false =>
                  have HF := Lib.hid (HNX.out hapt)
                  rw [hapt] at HCA
                  clear hapt HNX HYX
                  go_wp2
                  have p_C0 := (d.out.cell (p := ⟨b, off + k * 4, none⟩) HBL.out).trans C0.out
                  have p_C1 := (d.out.cell (p := ⟨b, off + k * 4 + 1, none⟩) HBL.out).trans C1.out
                  have p_C2 := (d.out.cell (p := ⟨b, off + k * 4 + 2, none⟩) HBL.out).trans C2.out
                  have p_C3 := (d.out.cell (p := ⟨b, off + k * 4 + 3, none⟩) HBL.out).trans C3.out
                  have p_E0 := (d.out.cell (p := ⟨b, off + m * 4, none⟩) HBL.out).trans E0.out
                  have p_E1 := (d.out.cell (p := ⟨b, off + m * 4 + 1, none⟩) HBL.out).trans E1.out
                  have p_E2 := (d.out.cell (p := ⟨b, off + m * 4 + 2, none⟩) HBL.out).trans E2.out
                  have p_E3 := (d.out.cell (p := ⟨b, off + m * 4 + 3, none⟩) HBL.out).trans E3.out
                  refine wp_region_held_drew (S := fun w' => w'.cell? ⟨b, off + k * 4, none⟩ = some (Value.int .i64 id) ∧ w'.cell? ⟨b, off + k * 4 + 1, none⟩ = some (Value.slice xa xs.length xc) ∧ w'.cell? ⟨b, off + k * 4 + 2, none⟩ = some (Value.int .i64 born) ∧ w'.cell? ⟨b, off + k * 4 + 3, none⟩ = some (Value.int .i64 died) ∧ w'.cell? ⟨b, off + m * 4, none⟩ = some (Value.int .i64 id2) ∧ w'.cell? ⟨b, off + m * 4 + 1, none⟩ = some (Value.slice ya ys.length yc) ∧ w'.cell? ⟨b, off + m * 4 + 2, none⟩ = some (Value.int .i64 born2) ∧ w'.cell? ⟨b, off + m * 4 + 3, none⟩ = some (Value.int .i64 died2)) (by kernel_rfl) ⟨p_C0, p_C1, p_C2, p_C3, p_E0, p_E1, p_E2, p_E3⟩ (fun hHeld => ?_)
                  clear p_C0 p_C1 p_C2 p_C3 p_E0 p_E1 p_E2 p_E3
                  have cdr : Below wr.heap.size wr wr.drew := below_drew (Below.refl _ _)
                  replace d := Lib.hid (d.out.trans (cdr.mono d.out.size))
                  clear cdr
                  refine take_runs (i := 0) (v := ?_) (by simp only [List.getElem?_toArray, List.getElem?_cons_succ, List.getElem?_cons_zero]; rfl) (by kernel_rfl) (by kernel_rfl) (by kernel_rfl) rfl (by exact fun _ _ _ h => h) (by rfl) ?_ (by assumption) ?_
                  rotate_left
                  · intro w hSw; (try dsimp only at hSw); go_simp; try (with_reducible rfl)
                  try simp only [Act.put, List.setIfInBounds_toArray, List.set_cons_zero, List.set_cons_succ]
                  refine take_runs (i := 1) (v := ?_) (by simp only [List.getElem?_toArray, List.getElem?_cons_succ, List.getElem?_cons_zero]; rfl) (by kernel_rfl) (by kernel_rfl) (by kernel_rfl) rfl (by exact fun _ _ _ h => h) (by rfl) ?_ (by assumption) ?_
                  rotate_left
                  · intro w hSw; (try dsimp only at hSw); go_simp; try (with_reducible rfl)
                  try simp only [Act.put, List.setIfInBounds_toArray, List.set_cons_zero, List.set_cons_succ]
                  refine take_runs (i := 2) (v := ?_) (by simp only [List.getElem?_toArray, List.getElem?_cons_succ, List.getElem?_cons_zero]; rfl) (by kernel_rfl) (by kernel_rfl) (by kernel_rfl) rfl (by exact fun _ _ _ h => h) (by rfl) ?_ (by assumption) ?_
                  rotate_left
                  · intro w hSw; (try dsimp only at hSw); go_simp; try (with_reducible rfl)
                  try simp only [Act.put, List.setIfInBounds_toArray, List.set_cons_zero, List.set_cons_succ]
                  refine take_runs (i := 3) (v := ?_) (by simp only [List.getElem?_toArray, List.getElem?_cons_succ, List.getElem?_cons_zero]; rfl) (by kernel_rfl) (by kernel_rfl) (by kernel_rfl) rfl (by exact fun _ _ _ h => h) (by rfl) ?_ (by assumption) ?_
                  rotate_left
                  · intro w hSw; (try dsimp only at hSw); go_simp; try (with_reducible rfl)
                  try simp only [Act.put, List.setIfInBounds_toArray, List.set_cons_zero, List.set_cons_succ]
                  refine take_runs (i := 4) (v := ?_) (by simp only [List.getElem?_toArray, List.getElem?_cons_succ, List.getElem?_cons_zero]; rfl) (by kernel_rfl) (by kernel_rfl) (by kernel_rfl) rfl (by exact fun _ _ _ h => h) (by rfl) ?_ (by assumption) ?_
                  rotate_left
                  · intro w hSw; (try dsimp only at hSw); go_simp; try (with_reducible rfl)
                  try simp only [Act.put, List.setIfInBounds_toArray, List.set_cons_zero, List.set_cons_succ]
                  refine take_runs (i := 5) (v := ?_) (by simp only [List.getElem?_toArray, List.getElem?_cons_succ, List.getElem?_cons_zero]; rfl) (by kernel_rfl) (by kernel_rfl) (by kernel_rfl) rfl (by exact fun _ _ _ h => h) (by rfl) ?_ (by assumption) ?_
                  rotate_left
                  · intro w hSw; (try dsimp only at hSw); go_simp; try (with_reducible rfl)
                  try simp only [Act.put, List.setIfInBounds_toArray, List.set_cons_zero, List.set_cons_succ]
                  refine take_runs (i := 6) (v := ?_) (by simp only [List.getElem?_toArray, List.getElem?_cons_succ, List.getElem?_cons_zero]; rfl) (by kernel_rfl) (by kernel_rfl) (by kernel_rfl) rfl (by exact fun _ _ _ h => h) (by rfl) ?_ (by assumption) ?_
                  rotate_left
                  · intro w hSw; (try dsimp only at hSw); go_simp; try (with_reducible rfl)
                  try simp only [Act.put, List.setIfInBounds_toArray, List.set_cons_zero, List.set_cons_succ]
                  refine take_runs (i := 7) (v := ?_) (by simp only [List.getElem?_toArray, List.getElem?_cons_succ, List.getElem?_cons_zero]; rfl) (by kernel_rfl) (by kernel_rfl) (by kernel_rfl) rfl (by exact fun _ _ _ h => h) (by rfl) ?_ (by assumption) ?_
                  rotate_left
                  · intro w hSw; (try dsimp only at hSw); go_simp; try (with_reducible rfl)
                  try simp only [Act.put, List.setIfInBounds_toArray, List.set_cons_zero, List.set_cons_succ]
                  refine wpAnyH_ready (rs := [8]) (by kernel_rfl) (by simp) ?_
                  refine (AllReadyH.cons (o := _) (by simp only [List.getElem?_toArray, List.getElem?_cons_succ, List.getElem?_cons_zero]; rfl) (fun K hK => ?_) AllReadyH.nil)
                  go_simp
                  refine (HCA.out (wr.drew)).mono ?_
                  rintro e w6 ⟨rfl, c6⟩
                  replace d := Lib.hid (d.out.trans (c6.mono d.out.size))
                  have Z_w6 := Lib.hid (show wr.heap.size ≤ w6.heap.size from c6.size)
                  clear c6
                  have p_C0 := (d.out.cell (p := ⟨b, off + k * 4, none⟩) HBL.out).trans C0.out
                  have p_C1 := (d.out.cell (p := ⟨b, off + k * 4 + 1, none⟩) HBL.out).trans C1.out
                  have p_C2 := (d.out.cell (p := ⟨b, off + k * 4 + 2, none⟩) HBL.out).trans C2.out
                  have p_C3 := (d.out.cell (p := ⟨b, off + k * 4 + 3, none⟩) HBL.out).trans C3.out
                  have p_E0 := (d.out.cell (p := ⟨b, off + m * 4, none⟩) HBL.out).trans E0.out
                  have p_E1 := (d.out.cell (p := ⟨b, off + m * 4 + 1, none⟩) HBL.out).trans E1.out
                  have p_E2 := (d.out.cell (p := ⟨b, off + m * 4 + 2, none⟩) HBL.out).trans E2.out
                  have p_E3 := (d.out.cell (p := ⟨b, off + m * 4 + 3, none⟩) HBL.out).trans E3.out
                  refine hK.out _ _ ⟨p_C0, p_C1, p_C2, p_C3, p_E0, p_E1, p_E2, p_E3⟩ (fun hHeld => ?_)
                  clear p_C0 p_C1 p_C2 p_C3 p_E0 p_E1 p_E2 p_E3
                  clear hK K
                  try simp only [Act.put, List.setIfInBounds_toArray, List.set_cons_zero, List.set_cons_succ]
                  refine take_runs (i := 9) (v := ?_) (by simp only [List.getElem?_toArray, List.getElem?_cons_succ, List.getElem?_cons_zero]; rfl) (by kernel_rfl) (by kernel_rfl) (by kernel_rfl) rfl (by exact fun _ _ _ h => h) (by rfl) ?_ (by assumption) ?_
                  rotate_left
                  · intro w hSw; (try dsimp only at hSw); go_simp; try (with_reducible rfl)
                  try simp only [Act.put, List.setIfInBounds_toArray, List.set_cons_zero, List.set_cons_succ]
                  refine wpAnyH_done (by kernel_rfl) ?_ _
                  clear hHeld
                  go_wp2
                  go_ret
                  exact ⟨ret_b HF.out.symm, D1.out.trans (d.out.mono D1.out.size)⟩
                | true =>
                  have HA2 := Lib.hid (HYX.out hapt)
                  rw [hapt] at HCA
                  clear hapt HNX HYX
                  go_wp2
                  have p_C0 := (d.out.cell (p := ⟨b, off + k * 4, none⟩) HBL.out).trans C0.out
                  have p_C1 := (d.out.cell (p := ⟨b, off + k * 4 + 1, none⟩) HBL.out).trans C1.out
                  have p_C2 := (d.out.cell (p := ⟨b, off + k * 4 + 2, none⟩) HBL.out).trans C2.out
                  have p_C3 := (d.out.cell (p := ⟨b, off + k * 4 + 3, none⟩) HBL.out).trans C3.out
                  have p_E0 := (d.out.cell (p := ⟨b, off + m * 4, none⟩) HBL.out).trans E0.out
                  have p_E1 := (d.out.cell (p := ⟨b, off + m * 4 + 1, none⟩) HBL.out).trans E1.out
                  have p_E2 := (d.out.cell (p := ⟨b, off + m * 4 + 2, none⟩) HBL.out).trans E2.out
                  have p_E3 := (d.out.cell (p := ⟨b, off + m * 4 + 3, none⟩) HBL.out).trans E3.out
                  refine wp_region_held_drew (S := fun w' => w'.cell? ⟨b, off + k * 4, none⟩ = some (Value.int .i64 id) ∧ w'.cell? ⟨b, off + k * 4 + 1, none⟩ = some (Value.slice xa xs.length xc) ∧ w'.cell? ⟨b, off + k * 4 + 2, none⟩ = some (Value.int .i64 born) ∧ w'.cell? ⟨b, off + k * 4 + 3, none⟩ = some (Value.int .i64 died) ∧ w'.cell? ⟨b, off + m * 4, none⟩ = some (Value.int .i64 id2) ∧ w'.cell? ⟨b, off + m * 4 + 1, none⟩ = some (Value.slice ya ys.length yc) ∧ w'.cell? ⟨b, off + m * 4 + 2, none⟩ = some (Value.int .i64 born2) ∧ w'.cell? ⟨b, off + m * 4 + 3, none⟩ = some (Value.int .i64 died2)) (by kernel_rfl) ⟨p_C0, p_C1, p_C2, p_C3, p_E0, p_E1, p_E2, p_E3⟩ (fun hHeld => ?_)
                  clear p_C0 p_C1 p_C2 p_C3 p_E0 p_E1 p_E2 p_E3
                  have cdr : Below wr.heap.size wr wr.drew := below_drew (Below.refl _ _)
                  replace d := Lib.hid (d.out.trans (cdr.mono d.out.size))
                  clear cdr
                  refine take_runs (i := 0) (v := ?_) (by simp only [List.getElem?_toArray, List.getElem?_cons_succ, List.getElem?_cons_zero]; rfl) (by kernel_rfl) (by kernel_rfl) (by kernel_rfl) rfl (by exact fun _ _ _ h => h) (by rfl) ?_ (by assumption) ?_
                  rotate_left
                  · intro w hSw; (try dsimp only at hSw); go_simp; try (with_reducible rfl)
                  try simp only [Act.put, List.setIfInBounds_toArray, List.set_cons_zero, List.set_cons_succ]
                  refine take_runs (i := 1) (v := ?_) (by simp only [List.getElem?_toArray, List.getElem?_cons_succ, List.getElem?_cons_zero]; rfl) (by kernel_rfl) (by kernel_rfl) (by kernel_rfl) rfl (by exact fun _ _ _ h => h) (by rfl) ?_ (by assumption) ?_
                  rotate_left
                  · intro w hSw; (try dsimp only at hSw); go_simp; try (with_reducible rfl)
                  try simp only [Act.put, List.setIfInBounds_toArray, List.set_cons_zero, List.set_cons_succ]
                  refine take_runs (i := 2) (v := ?_) (by simp only [List.getElem?_toArray, List.getElem?_cons_succ, List.getElem?_cons_zero]; rfl) (by kernel_rfl) (by kernel_rfl) (by kernel_rfl) rfl (by exact fun _ _ _ h => h) (by rfl) ?_ (by assumption) ?_
                  rotate_left
                  · intro w hSw; (try dsimp only at hSw); go_simp; try (with_reducible rfl)
                  try simp only [Act.put, List.setIfInBounds_toArray, List.set_cons_zero, List.set_cons_succ]
                  refine take_runs (i := 3) (v := ?_) (by simp only [List.getElem?_toArray, List.getElem?_cons_succ, List.getElem?_cons_zero]; rfl) (by kernel_rfl) (by kernel_rfl) (by kernel_rfl) rfl (by exact fun _ _ _ h => h) (by rfl) ?_ (by assumption) ?_
                  rotate_left
                  · intro w hSw; (try dsimp only at hSw); go_simp; try (with_reducible rfl)
                  try simp only [Act.put, List.setIfInBounds_toArray, List.set_cons_zero, List.set_cons_succ]
                  refine take_runs (i := 4) (v := ?_) (by simp only [List.getElem?_toArray, List.getElem?_cons_succ, List.getElem?_cons_zero]; rfl) (by kernel_rfl) (by kernel_rfl) (by kernel_rfl) rfl (by exact fun _ _ _ h => h) (by rfl) ?_ (by assumption) ?_
                  rotate_left
                  · intro w hSw; (try dsimp only at hSw); go_simp; try (with_reducible rfl)
                  try simp only [Act.put, List.setIfInBounds_toArray, List.set_cons_zero, List.set_cons_succ]
                  refine take_runs (i := 5) (v := ?_) (by simp only [List.getElem?_toArray, List.getElem?_cons_succ, List.getElem?_cons_zero]; rfl) (by kernel_rfl) (by kernel_rfl) (by kernel_rfl) rfl (by exact fun _ _ _ h => h) (by rfl) ?_ (by assumption) ?_
                  rotate_left
                  · intro w hSw; (try dsimp only at hSw); go_simp; try (with_reducible rfl)
                  try simp only [Act.put, List.setIfInBounds_toArray, List.set_cons_zero, List.set_cons_succ]
                  refine take_runs (i := 6) (v := ?_) (by simp only [List.getElem?_toArray, List.getElem?_cons_succ, List.getElem?_cons_zero]; rfl) (by kernel_rfl) (by kernel_rfl) (by kernel_rfl) rfl (by exact fun _ _ _ h => h) (by rfl) ?_ (by assumption) ?_
                  rotate_left
                  · intro w hSw; (try dsimp only at hSw); go_simp; try (with_reducible rfl)
                  try simp only [Act.put, List.setIfInBounds_toArray, List.set_cons_zero, List.set_cons_succ]
                  refine take_runs (i := 7) (v := ?_) (by simp only [List.getElem?_toArray, List.getElem?_cons_succ, List.getElem?_cons_zero]; rfl) (by kernel_rfl) (by kernel_rfl) (by kernel_rfl) rfl (by exact fun _ _ _ h => h) (by rfl) ?_ (by assumption) ?_
                  rotate_left
                  · intro w hSw; (try dsimp only at hSw); go_simp; try (with_reducible rfl)
                  try simp only [Act.put, List.setIfInBounds_toArray, List.set_cons_zero, List.set_cons_succ]
                  refine wpAnyH_ready (rs := [8]) (by kernel_rfl) (by simp) ?_
                  refine (AllReadyH.cons (o := _) (by simp only [List.getElem?_toArray, List.getElem?_cons_succ, List.getElem?_cons_zero]; rfl) (fun K hK => ?_) AllReadyH.nil)
                  go_simp
                  refine (HCA.out (wr.drew)).mono ?_
                  rintro e w6 ⟨rfl, c6⟩
                  replace d := Lib.hid (d.out.trans (c6.mono d.out.size))
                  have Z_w6 := Lib.hid (show wr.heap.size ≤ w6.heap.size from c6.size)
                  clear c6
                  have p_C0 := (d.out.cell (p := ⟨b, off + k * 4, none⟩) HBL.out).trans C0.out
                  have p_C1 := (d.out.cell (p := ⟨b, off + k * 4 + 1, none⟩) HBL.out).trans C1.out
                  have p_C2 := (d.out.cell (p := ⟨b, off + k * 4 + 2, none⟩) HBL.out).trans C2.out
                  have p_C3 := (d.out.cell (p := ⟨b, off + k * 4 + 3, none⟩) HBL.out).trans C3.out
                  have p_E0 := (d.out.cell (p := ⟨b, off + m * 4, none⟩) HBL.out).trans E0.out
                  have p_E1 := (d.out.cell (p := ⟨b, off + m * 4 + 1, none⟩) HBL.out).trans E1.out
                  have p_E2 := (d.out.cell (p := ⟨b, off + m * 4 + 2, none⟩) HBL.out).trans E2.out
                  have p_E3 := (d.out.cell (p := ⟨b, off + m * 4 + 3, none⟩) HBL.out).trans E3.out
                  refine hK.out _ _ ⟨p_C0, p_C1, p_C2, p_C3, p_E0, p_E1, p_E2, p_E3⟩ (fun hHeld => ?_)
                  clear p_C0 p_C1 p_C2 p_C3 p_E0 p_E1 p_E2 p_E3
                  clear hK K
                  try simp only [Act.put, List.setIfInBounds_toArray, List.set_cons_zero, List.set_cons_succ]
                  refine take_runs (i := 9) (v := ?_) (by simp only [List.getElem?_toArray, List.getElem?_cons_succ, List.getElem?_cons_zero]; rfl) (by kernel_rfl) (by kernel_rfl) (by kernel_rfl) rfl (by exact fun _ _ _ h => h) (by rfl) ?_ (by assumption) ?_
                  rotate_left
                  · intro w hSw; (try dsimp only at hSw); go_simp; try (with_reducible rfl)
                  try simp only [Act.put, List.setIfInBounds_toArray, List.set_cons_zero, List.set_cons_succ]
                  refine wpAnyH_done (by kernel_rfl) ?_ _
                  clear hHeld
                  go_wp2
                  go_roundw
                  case rel => exact ⟨m + 1, by omega, by go_num, HA2, d.out⟩
                  case measure => simp [intOf]; omega
              · obtain rfl : m = k := by omega
                have HVK := Lib.hid (HST2.out hap.out)
                have HB := Lib.hid hbel
                clear hap hbel
                go_wp2
                go_roundw
                case rel => exact ⟨m + 1, by omega, by go_num, HVK, HB.out⟩
                case measure => simp [intOf]; omega
        · obtain rfl : k = l.length := by omega
          have HT : Hid (storeB ss now = true) := Lib.hid (store_yes HCN.out HNN.out HSH.out (by rw [← HLL.out]; exact hvs.out))
          have HB := Lib.hid (D1.out.trans (hbel.mono D1.out.size))
          clear hvs hbel
          go_wp2
          go_ret
          exact ⟨ret_b HT.out.symm, HB.out⟩
end Go.Proofs.Ytginjmnohnidiaa
namespace Go.Proofs.Ytginjmnohnidiaa
open Go.RowKit
set_option linter.unusedVariables false
set_option linter.unusedSimpArgs false
theorem slR_rows {w : World} {v : Value} {rs : List RowD} (h : SlR tRow w v rs) : RowsR w v rs := by
  rcases h with h | ⟨b, off, cap, us, h1, h2, h3, h4⟩
  · exact Or.inl h
  · refine Or.inr ⟨b, off, cap, fun j => (us j).getD 1 (.slice none 0 0), h1, h2, h3, fun j hj => ?_⟩
    obtain ⟨hc, hR⟩ := h4 j hj
    obtain ⟨v1, e, g1⟩ := tRow_R (a0 := (rs.getD j (0, [])).1) (x1 := (rs.getD j (0, [])).2) hR
    have c0 := hc 0 (by decide); have c1 := hc 1 (by decide)
    simp only [e] at c0 c1 ⊢
    exact ⟨c0, c1, slR_ints g1⟩
theorem zL_rows (rs : List RowD) : zL tRow rs = szL rs := by
  have hf : tRow.sz = fun r : RowD => r.2.length := by
    funext r; obtain ⟨a, x⟩ := r; rw [tRow_sz, zL_ints]
  unfold zL zTo szL szTo sumN
  rw [hf]
theorem ownsR_slO {w : World} {B : Nat} {F : Nat → Prop} {v : Value} {rs : List RowD} (h : OwnsR w B v rs) (hF : ∀ b, B ≤ b → F b) : SlO 76 tRow w F v rs := by
  obtain ⟨cs, vs, h1, h2, h3⟩ := h
  refine ⟨cs, fun j => [.int .i64 (rs.getD j (0, [])).1, vs j], fun j b => (vs j).ownBlock = some b, row_low h1 (Nat.zero_le _), fun b hb => hF b (h1.lt b hb).1, fun j hj => ?_, fun i j hi hj hij b hb hc => h3 i j hi hj hij b hb hc⟩
  obtain ⟨g0, g1, g2, g3⟩ := h2 j hj
  refine ⟨fun i hi => ?_, tRow_mkO (own_slO g2 (fun b hb => hb)) (fun b hb => hb), fun b hb => ⟨hF b (g2.lt b hb).1, g3 b hb⟩⟩
  have hi' : i < 2 := hi
  exact (match i, hi' with | 0, _ => g0 | 1, _ => g1)
end Go.Proofs.Ytginjmnohnidiaa
namespace Go.Proofs.Ytginjmnohnidiaa
open Go.RowKit
set_option linter.unusedVariables false
theorem mid_low {α : Type} {cs : List α} {p i : Nat} {x y : α} (hp : p * 2 ≤ cs.length) (hi : i < p * 2) : (cs.take (p * 2) ++ [x, y] ++ cs.drop (p * 2))[i]? = cs[i]? := by
  have hl : (cs.take (p * 2)).length = p * 2 := by rw [List.length_take]; omega
  rw [List.append_assoc, List.getElem?_append_left (by omega), List.getElem?_take, if_pos hi]
theorem mid_at {α : Type} {cs : List α} {p : Nat} {x y : α} (hp : p * 2 ≤ cs.length) : (cs.take (p * 2) ++ [x, y] ++ cs.drop (p * 2))[p * 2]? = some x ∧ (cs.take (p * 2) ++ [x, y] ++ cs.drop (p * 2))[p * 2 + 1]? = some y := by
  have hl : (cs.take (p * 2)).length = p * 2 := by rw [List.length_take]; omega
  constructor
  · rw [List.append_assoc, List.getElem?_append_right (by omega), hl]
    simp
  · rw [List.append_assoc, List.getElem?_append_right (by omega), hl]
    simp
theorem mid_high {α : Type} {cs : List α} {p i : Nat} {x y : α} (hp : p * 2 ≤ cs.length) (hi : p * 2 + 2 ≤ i) : (cs.take (p * 2) ++ [x, y] ++ cs.drop (p * 2))[i]? = cs[i - 2]? := by
  have hl : (cs.take (p * 2)).length = p * 2 := by rw [List.length_take]; omega
  have hl2 : (cs.take (p * 2) ++ [x, y]).length = p * 2 + 2 := by rw [List.length_append, hl]; rfl
  rw [List.getElem?_append_right (by omega), hl2, List.getElem?_drop]
  congr 1
  omega
theorem rowIns_low {rs : List RowD} {p j : Nat} {r : RowD} (hp : p ≤ rs.length) (hj : j < p) : (rs.take p ++ r :: rs.drop p).getD j (0, []) = rs.getD j (0, []) := by
  have hl : (rs.take p).length = p := by rw [List.length_take]; omega
  simp only [List.getD]
  rw [List.getElem?_append_left (by omega), List.getElem?_take, if_pos hj]
theorem row_at {rs : List RowD} {p : Nat} {r : RowD} (hp : p ≤ rs.length) : (rs.take p ++ r :: rs.drop p).getD p (0, []) = r := by
  have hl : (rs.take p).length = p := by rw [List.length_take]; omega
  simp only [List.getD]
  rw [List.getElem?_append_right (by omega), hl, Nat.sub_self]
  rfl
theorem row_high {rs : List RowD} {p j : Nat} {r : RowD} (hp : p ≤ rs.length) (hj : p < j) : (rs.take p ++ r :: rs.drop p).getD j (0, []) = rs.getD (j - 1) (0, []) := by
  have hl : (rs.take p).length = p := by rw [List.length_take]; omega
  simp only [List.getD]
  rw [List.getElem?_append_right (by omega), hl, show j - p = (j - 1 - p) + 1 by omega, List.getElem?_cons_succ, List.getElem?_drop, show p + (j - 1 - p) = j - 1 by omega]
theorem insert_owns {W w : World} {B p : Nat} {v x3 vv : Value} {rs : List RowD} {vs : Nat → Value} {cs : List Value} {r : RowD} (hp : p ≤ rs.length)
    (h1 : W.ownsRow B 76 2 v rs.length cs)
    (h2 : ∀ j, j < rs.length → cs[j * 2]? = some (.int .i64 (rs.getD j (0, [])).1) ∧ cs[j * 2 + 1]? = some (vs j) ∧ OwnsN W B (vs j) (rs.getD j (0, [])).2 ∧ ∀ b, (vs j).ownBlock = some b → v.ownBlock ≠ some b)
    (h3 : ∀ i j, i < rs.length → j < rs.length → i ≠ j → ∀ b, (vs i).ownBlock = some b → (vs j).ownBlock ≠ some b)
    (hb : Below W.heap.size W w) (hB : B ≤ W.heap.size) (hx : RowsC w W.heap.size x3 (rs.length + 1) (cs.take (p * 2) ++ [.int .i64 r.1, vv] ++ cs.drop (p * 2)))
    (hv : OwnsN w W.heap.size vv r.2) (hne : ∀ b, vv.ownBlock = some b → x3.ownBlock ≠ some b) : OwnsR w B x3 (rs.take p ++ r :: rs.drop p) := by
  have hcl : cs.length = rs.length * 2 := h1.1
  have hlen : (rs.take p ++ r :: rs.drop p).length = rs.length + 1 := by simp; omega
  have hxlt : ∀ b, x3.ownBlock = some b → W.heap.size ≤ b := fun b e => (hx.lt b e).1
  have old : ∀ j, j < rs.length → ∀ b, (vs j).ownBlock = some b → b < W.heap.size := fun j hj b e => ((h2 j hj).2.2.1.lt b e).2
  have new : ∀ b, vv.ownBlock = some b → W.heap.size ≤ b := fun b e => (hv.lt b e).1
  refine ⟨cs.take (p * 2) ++ [.int .i64 r.1, vv] ++ cs.drop (p * 2), fun j => if j < p then vs j else if j = p then vv else vs (j - 1), ?_, ?_, ?_⟩
  · rw [hlen]
    refine ⟨hx.1, ?_⟩
    rcases hx.2 with hn | ⟨g, cap, cur, e, hb', rest⟩
    · exact .inl hn
    · exact .inr ⟨g, cap, cur, e, Nat.le_trans hB hb', rest⟩
  · intro j hj
    rw [hlen] at hj
    by_cases c1 : j < p
    · simp only [if_pos c1]
      obtain ⟨g1, g2, g3, _⟩ := h2 j (by omega)
      rw [rowIns_low hp c1, mid_low (by omega) (by omega), mid_low (by omega) (by omega)]
      exact ⟨g1, g2, ownsN_below g3 hb, fun b e q => by have := hxlt b q; have := old j (by omega) b e; omega⟩
    · by_cases c2 : j = p
      · subst c2
        simp only [Nat.lt_irrefl, if_false, if_true]
        rw [row_at hp]
        have := mid_at (cs := cs) (p := j) (x := Value.int .i64 r.1) (y := vv) (by omega)
        exact ⟨this.1, this.2, ownsN_up hv hB, hne⟩
      · simp only [if_neg c1, if_neg c2]
        obtain ⟨g1, g2, g3, _⟩ := h2 (j - 1) (by omega)
        rw [row_high hp (by omega), mid_high (by omega) (by omega), mid_high (by omega) (by omega), show j * 2 - 2 = (j - 1) * 2 by omega, show j * 2 + 1 - 2 = (j - 1) * 2 + 1 by omega]
        exact ⟨g1, g2, ownsN_below g3 hb, fun b e q => by have := hxlt b q; have := old (j - 1) (by omega) b e; omega⟩
  · intro i j hi hj hij b
    rw [hlen] at hi hj
    by_cases a1 : i < p
    · simp only [if_pos a1]
      intro e
      by_cases c1 : j < p
      · simp only [if_pos c1]; exact h3 i j (by omega) (by omega) hij b e
      · by_cases c2 : j = p
        · simp only [if_neg c1, if_pos c2]
          intro q
          have := new b q; have := old i (by omega) b e; omega
        · simp only [if_neg c1, if_neg c2]; exact h3 i (j - 1) (by omega) (by omega) (by omega) b e
    · by_cases a2 : i = p
      · simp only [if_neg a1, if_pos a2]
        intro e
        have hnb := new b e
        by_cases c1 : j < p
        · simp only [if_pos c1]; intro q; have := old j (by omega) b q; omega
        · by_cases c2 : j = p
          · omega
          · simp only [if_neg c1, if_neg c2]; intro q; have := old (j - 1) (by omega) b q; omega
      · simp only [if_neg a1, if_neg a2]
        intro e
        have hob := old (i - 1) (by omega) b e
        by_cases c1 : j < p
        · simp only [if_pos c1]; exact h3 (i - 1) j (by omega) (by omega) (by omega) b e
        · by_cases c2 : j = p
          · simp only [if_neg c1, if_pos c2]; intro q; have := new b q; omega
          · simp only [if_neg c1, if_neg c2]; exact h3 (i - 1) (j - 1) (by omega) (by omega) (by omega) b e
theorem rows_one {W : World} {B : Nat} {rs : List RowD} {vs : Nat → Value} {cs : List Value} (hl : cs.length = rs.length * 2)
    (h2 : ∀ j, j < rs.length → cs[j * 2]? = some (.int .i64 (rs.getD j (0, [])).1) ∧ cs[j * 2 + 1]? = some (vs j) ∧ OwnsN W B (vs j) (rs.getD j (0, [])).2) : ∀ u ∈ cs, u.oneCell' = true := by
  intro u hu
  obtain ⟨i, hi, rfl⟩ := List.getElem_of_mem hu
  obtain ⟨g1, g2, g3⟩ := h2 (i / 2) (by omega)
  rcases Nat.mod_two_eq_zero_or_one i with e | e
  · have : i / 2 * 2 = i := by omega
    rw [this, List.getElem?_eq_getElem hi] at g1
    rw [Option.some.inj g1]
    rfl
  · have : i / 2 * 2 + 1 = i := by omega
    rw [this, List.getElem?_eq_getElem hi] at g2
    rw [Option.some.inj g2]
    obtain ⟨a, c, e⟩ := ints_len (ownsN_ints g3)
    rw [e]
    rfl
theorem rows_cells {W w : World} {B g k cp : Nat} {cs : List Value} (h1 : W.ownsRow B 76 2 (.slice (some ⟨g, 0, none⟩) k cp) k cs) (hb : Below W.heap.size W w) : ∀ j u, cs[j]? = some u → w.cell? ((⟨g, 0, none⟩ : Addr).add j) = some u := by
  intro j u hj
  have hl := (List.getElem?_eq_some_iff.1 hj).1
  have hcl : cs.length = k * 2 := h1.1
  rw [Go.WideShapes.add_plain, Nat.zero_add]
  exact (hb.cell (p := ⟨g, j, none⟩) (h1.lt g rfl).2).trans ((World.ownsRow.cellAt h1 j (by omega)).trans hj)
end Go.Proofs.Ytginjmnohnidiaa
namespace Go.Proofs.Ytginjmnohnidiaa
open Go.RowKit
set_option linter.unusedVariables false
set_option linter.unusedSimpArgs false
theorem insAt_down {rs : List RowD} {r : RowD} {m : Nat} (h : rowLess r (rs.getD m (0, [])) = true) : insAt rs r (m + 1) = insAt rs r m := by
  simp only [insAt, h, if_true]
theorem insAt_stop {rs : List RowD} {r : RowD} {m : Nat} (h : rowLess r (rs.getD m (0, [])) = false) : insAt rs r (m + 1) = m + 1 := by
  simp only [insAt, h]
  rfl
theorem ownsR_empty (w : World) : OwnsR (w.alloc (.cells #[] 76)) w.heap.size (.slice (some ⟨w.heap.size, 0, none⟩) 0 0) [] := by
  refine ⟨[], fun _ => .slice none 0 0, ?_, fun j hj => by simp at hj, fun i j hi => by simp at hi⟩
  exact World.ownsRow_lit (e := 76) (size := 2) w #[] 0 (Nat.le_refl _) (by unfold maxLen; omega) rfl
theorem rowsC_form {w : World} {B : Nat} {v : Value} {n : Nat} {cs : List Value} (h : RowsC w B v n cs) (hn : 0 < n) : ∃ g cap, v = .slice (some ⟨g, 0, none⟩) n cap := by
  rcases h.2 with ⟨_, h0⟩ | ⟨g, cap, cur, hv, _⟩
  · omega
  · exact ⟨g, cap, hv⟩
theorem insert_end {W0 W1 W2 W3 W4 : World} {B p k : Nat} {v x1 x2 x3 vv : Value} {ss : List RowD} {vs : Nat → Value} {cs : List Value} {id : Int} {xs : List Int} {t : TypeId} {C : Array Value} (hp : p ≤ k) (hsl : ss.length = k)
    (h1 : W0.ownsRow B 76 2 v ss.length cs)
    (h2 : ∀ j, j < ss.length → cs[j * 2]? = some (.int .i64 (ss.getD j (0, [])).1) ∧ cs[j * 2 + 1]? = some (vs j) ∧ OwnsN W0 B (vs j) (ss.getD j (0, [])).2 ∧ ∀ b, (vs j).ownBlock = some b → v.ownBlock ≠ some b)
    (h3 : ∀ i j, i < ss.length → j < ss.length → i ≠ j → ∀ b, (vs i).ownBlock = some b → (vs j).ownBlock ≠ some b)
    (hB : B ≤ W0.heap.size) (b1 : W0.heap.size ≤ W1.heap.size) (hx1 : ∀ b, x1.ownBlock = some b → b < W1.heap.size) (oV : OwnsN W2 W1.heap.size vv xs)
    (g2 : (W2.alloc (.cells C t)).grownBy W3 x1.ownBlock) (hat2 : x2.ownBlock = x1.ownBlock ∨ x2.ownBlock = some (W2.heap.size + 1)) {ds : List Value}
    (hb3 : Below W0.heap.size W0 W3) (o2 : RowsC W3 W0.heap.size x2 (p + 1) (cs.take (p * 2) ++ [.int .i64 id, vv])) (g3 : W3.grownBy W4 x2.ownBlock) (hat3 : x3.ownBlock = x2.ownBlock ∨ x3.ownBlock = some W3.heap.size)
    (o3 : RowsC W4 W0.heap.size x3 (p + 1 + (k - p)) ds) (hds : ds = cs.take (p * 2) ++ [.int .i64 id, vv] ++ cs.drop (p * 2)) (hin : insAt ss (id, xs) k = p) :
    OwnsR W4 B x3 (insL ss (id, xs)) ∧ Below W0.heap.size W0 W4 := by
  subst hds
  have b4 : Below W0.heap.size W0 W4 := hb3.trans ((Below.refl W0.heap.size W3).grown g3 hb3.size (fun j hj => (o2.lt j hj).1))
  refine ⟨?_, b4⟩
  have hs2 : (W2.alloc (.cells C t)).heap.size = W2.heap.size + 1 := by simp [World.size_alloc]
  have hs3 := g2.size
  have vlt : ∀ b, vv.ownBlock = some b → W1.heap.size ≤ b ∧ b < W2.heap.size := fun b e => oV.lt b e
  have n1 : vv.ownBlock = none ∨ vv.ownBlock ≠ x1.ownBlock := by
    cases e : vv.ownBlock with
    | none => exact Or.inl rfl
    | some b => exact Or.inr (fun q => by have := hx1 b q.symm; have := (vlt b e).1; omega)
  have n2 : vv.ownBlock = none ∨ vv.ownBlock ≠ x2.ownBlock := by
    rcases hat2 with e | e
    · rw [e]; exact n1
    · cases e' : vv.ownBlock with
      | none => exact Or.inl rfl
      | some b => exact Or.inr (fun q => by rw [e] at q; have := Option.some.inj q; have := (vlt b e').2; omega)
  have v4 : OwnsN W4 W1.heap.size vv xs := World.ownsRow.kept (World.ownsRow.kept (World.ownsRow.alloc oV _) g2 n1) g3 n2
  have hne : ∀ b, vv.ownBlock = some b → x3.ownBlock ≠ some b := by
    intro b e q
    rcases hat3 with e3 | e3
    · rw [e3] at q
      rcases n2 with h | h
      · rw [h] at e; cases e
      · exact h (e.trans q.symm)
    · rw [e3] at q
      have := Option.some.inj q
      have := (vlt b e).2
      omega
  have hpl : p ≤ ss.length := by omega
  have e : p + 1 + (k - p) = ss.length + 1 := by omega
  rw [e] at o3
  have := insert_owns (r := (id, xs)) hpl h1 h2 h3 b4 hB o3 (ownsN_up v4 b1) hne
  unfold insL
  rw [hsl, hin]
  exact this
set_option maxHeartbeats 8000000 in
set_option maxRecDepth 100000 in
theorem specSortRows (v : Value) (rs : List RowD) (w : World) (h : RowsR w v rs) (hs : szL rs ≤ 1048576) :
    Calls Try.prog 13 #[v] w (FreshRows w (sortL rs)) := by
  have H := Lib.hid h
  have HS := Lib.hid hs
  have hlen := szL_len hs
  obtain ⟨a, cap, rfl⟩ := rowsR_len h
  clear h hs
  go_enter Try.func13, Try.ntmps13
  go_wp2
  have o1 := ownsR_empty w
  have b1 : Below w.heap.size w (w.alloc (.cells #[] 76)) := (Below.refl _ w).alloc (Nat.le_refl _) _
  go_loopw [3, 4] (fun o i wr => ∃ (k g cp : Nat), k ≤ rs.length ∧ i = .int .i64 k ∧ o = .slice (some ⟨g, 0, none⟩) k cp ∧ OwnsR wr w.heap.size (.slice (some ⟨g, 0, none⟩) k cp) (sortTo rs k) ∧ Below w.heap.size w wr) (fun _ i _ => rs.length - (intOf i).toNat)
  case atStart => exact ⟨0, _, _, Nat.zero_le _, rfl, rfl, o1, b1⟩
  case round =>
    obtain ⟨k, g, cp, hk, rfl, rfl, hown, hbel⟩ := hrel
    obtain ⟨W0, hW0⟩ : ∃ W0, W0 = wr := ⟨_, rfl⟩
    subst hW0
    clear o1 b1
    by_cases hlt : k < rs.length
    · obtain ⟨b, off, cap', vv, hv, hbl, hc1, hc2, hI⟩ := rowsR_at (rowsR_below H.out hbel) hlt
      simp only [Value.slice.injEq] at hv
      obtain ⟨rfl, _, rfl⟩ := hv
      have hxl := szL_row HS.out hlt
      have hsl := sortTo_len (a := rs) (k := k) hk
      have hsz := sortTo_sz (k := k) HS.out hk
      have HSTEP := Lib.hid (sortTo_step hlt)
      have i1 : (0 : Int) ≤ (k : Int) := by omega
      have i2 : (k : Int) < (rs.length : Int) := by omega
      generalize hss : sortTo rs k = ss at *
      generalize hr : rs.getD k (0, []) = r at *
      obtain ⟨cs, vs, h1, h2, h3⟩ := hown
      have H1 := Lib.hid h1
      have h1k := h1
      rw [hsl] at h1k
      have H1k := Lib.hid h1k
      have H2 := Lib.hid h2
      have H3 := Lib.hid h3
      have hgl := (h1.lt g rfl)
      have HL := Lib.hid (fun (j : Nat) (hj : j < ss.length) => szL_row hsz hj)
      have HLESS := Lib.hid (fun (q : RowD) (u : Value) (w : World) (hI : Ints w vv r.2) (g : Ints w u q.2) (hq : q.2.length ≤ 1048576) => l3Less_any r.1 q.1 vv u r.2 q.2 w hI g hxl hq)
      clear hss hr h1 h2 h3 hsz h1k
      obtain ⟨id, xs⟩ := r
      simp only at hc1 hc2 hI hxl HLESS
      have HI := Lib.hid hI
      go_wp2
      go_loopw [5] (fun q wr2 => ∃ p : Nat, p ≤ k ∧ q = .int .i64 p ∧ Hid (insAt ss (id, xs) p = insAt ss (id, xs) k) ∧ Below W0.heap.size W0 wr2) (fun q _ => (intOf q).toNat)
      case atStart => exact ⟨k, Nat.le_refl _, rfl, Lib.hid rfl, Below.refl _ _⟩
      case round =>
        obtain ⟨p, hp, rfl, hin, hb2⟩ := hrel
        have hc1' := (hb2.cell (p := ⟨b, off + k * 2, none⟩) hbl).trans hc1
        have hc2' := (hb2.cell (p := ⟨b, off + k * 2 + 1, none⟩) hbl).trans hc2
        by_cases hz : p = 0
        · have HP : Hid (insAt ss (id, xs) k = p) := Lib.hid (hin.out.symm.trans (by rw [hz]; rfl))
          have hg : decide ((0 : Int) < (p : Int)) = false := decide_eq_false (by omega)
          have hgn : decide (0 < p) = false := decide_eq_false (by omega)
          clear hz hc1' hc2'
          go_wp2
          refine wp_region_held_drew (S := fun _ => True) (by kernel_rfl) trivial (fun hHeld => ?_)
          refine take_runs (i := 0) (v := ?_) (by simp only [List.getElem?_toArray, List.getElem?_cons_succ, List.getElem?_cons_zero]; rfl) (by kernel_rfl) (by kernel_rfl) (by kernel_rfl) rfl (by exact fun _ _ _ h => h) (by rfl) ?_ (by assumption) ?_
          rotate_left
          · intro w hSw; (try dsimp only at hSw); go_simp; try (with_reducible rfl)
          try simp only [Act.put, List.setIfInBounds_toArray, List.set_cons_zero, List.set_cons_succ]
          refine take_runs (i := 1) (v := ?_) (by simp only [List.getElem?_toArray, List.getElem?_cons_succ, List.getElem?_cons_zero]; rfl) (by kernel_rfl) (by kernel_rfl) (by kernel_rfl) rfl (by exact fun _ _ _ h => h) (by rfl) ?_ (by assumption) ?_
          rotate_left
          · intro w hSw; (try dsimp only at hSw); go_simp; try (with_reducible rfl)
          try simp only [Act.put, List.setIfInBounds_toArray, List.set_cons_zero, List.set_cons_succ]
          refine take_runs (i := 2) (v := ?_) (by simp only [List.getElem?_toArray, List.getElem?_cons_succ, List.getElem?_cons_zero]; rfl) (by kernel_rfl) (by kernel_rfl) (by kernel_rfl) rfl (by exact fun _ _ _ h => h) (by rfl) ?_ (by assumption) ?_
          rotate_left
          · intro w hSw; (try dsimp only at hSw); go_simp; try (with_reducible rfl)
          try simp only [Act.put, List.setIfInBounds_toArray, List.set_cons_zero, List.set_cons_succ]
          refine take_over (i := 3) (by simp only [List.getElem?_toArray, List.getElem?_cons_succ, List.getElem?_cons_zero]; rfl) (by kernel_rfl) (by kernel_rfl) (by kernel_rfl) rfl (by exact fun _ _ _ h => h) (by rfl) (by assumption) ?_
          try simp only [Act.put, List.setIfInBounds_toArray, List.set_cons_zero, List.set_cons_succ]
          refine take_over (i := 4) (by simp only [List.getElem?_toArray, List.getElem?_cons_succ, List.getElem?_cons_zero]; rfl) (by kernel_rfl) (by kernel_rfl) (by kernel_rfl) rfl (by exact fun _ _ _ h => h) (by rfl) (by assumption) ?_
          try simp only [Act.put, List.setIfInBounds_toArray, List.set_cons_zero, List.set_cons_succ]
          refine take_over (i := 5) (by simp only [List.getElem?_toArray, List.getElem?_cons_succ, List.getElem?_cons_zero]; rfl) (by kernel_rfl) (by kernel_rfl) (by kernel_rfl) rfl (by exact fun _ _ _ h => h) (by rfl) (by assumption) ?_
          try simp only [Act.put, List.setIfInBounds_toArray, List.set_cons_zero, List.set_cons_succ]
          refine take_over (i := 6) (by simp only [List.getElem?_toArray, List.getElem?_cons_succ, List.getElem?_cons_zero]; rfl) (by kernel_rfl) (by kernel_rfl) (by kernel_rfl) rfl (by exact fun _ _ _ h => h) (by rfl) (by assumption) ?_
          try simp only [Act.put, List.setIfInBounds_toArray, List.set_cons_zero, List.set_cons_succ]
          refine take_over (i := 7) (by simp only [List.getElem?_toArray, List.getElem?_cons_succ, List.getElem?_cons_zero]; rfl) (by kernel_rfl) (by kernel_rfl) (by kernel_rfl) rfl (by exact fun _ _ _ h => h) (by rfl) (by assumption) ?_
          try simp only [Act.put, List.setIfInBounds_toArray, List.set_cons_zero, List.set_cons_succ]
          refine take_over (i := 8) (by simp only [List.getElem?_toArray, List.getElem?_cons_succ, List.getElem?_cons_zero]; rfl) (by kernel_rfl) (by kernel_rfl) (by kernel_rfl) rfl (by exact fun _ _ _ h => h) (by rfl) (by assumption) ?_
          try simp only [Act.put, List.setIfInBounds_toArray, List.set_cons_zero, List.set_cons_succ]
          refine take_over (i := 9) (by simp only [List.getElem?_toArray, List.getElem?_cons_succ, List.getElem?_cons_zero]; rfl) (by kernel_rfl) (by kernel_rfl) (by kernel_rfl) rfl (by exact fun _ _ _ h => h) (by rfl) (by assumption) ?_
          try simp only [Act.put, List.setIfInBounds_toArray, List.set_cons_zero, List.set_cons_succ]
          refine take_over (i := 10) (by simp only [List.getElem?_toArray, List.getElem?_cons_succ, List.getElem?_cons_zero]; rfl) (by kernel_rfl) (by kernel_rfl) (by kernel_rfl) rfl (by exact fun _ _ _ h => h) (by rfl) (by assumption) ?_
          try simp only [Act.put, List.setIfInBounds_toArray, List.set_cons_zero, List.set_cons_succ]
          refine take_over (i := 11) (by simp only [List.getElem?_toArray, List.getElem?_cons_succ, List.getElem?_cons_zero]; rfl) (by kernel_rfl) (by kernel_rfl) (by kernel_rfl) rfl (by exact fun _ _ _ h => h) (by rfl) (by assumption) ?_
          try simp only [Act.put, List.setIfInBounds_toArray, List.set_cons_zero, List.set_cons_succ]
          refine take_over (i := 12) (by simp only [List.getElem?_toArray, List.getElem?_cons_succ, List.getElem?_cons_zero]; rfl) (by kernel_rfl) (by kernel_rfl) (by kernel_rfl) rfl (by exact fun _ _ _ h => h) (by rfl) (by assumption) ?_
          try simp only [Act.put, List.setIfInBounds_toArray, List.set_cons_zero, List.set_cons_succ]
          refine take_runs (i := 13) (v := ?_) (by simp only [List.getElem?_toArray, List.getElem?_cons_succ, List.getElem?_cons_zero]; rfl) (by kernel_rfl) (by kernel_rfl) (by kernel_rfl) rfl (by exact fun _ _ _ h => h) (by rfl) ?_ (by assumption) ?_
          rotate_left
          · intro w hSw; (try dsimp only at hSw); go_simp; try (with_reducible rfl)
          try simp only [Act.put, List.setIfInBounds_toArray, List.set_cons_zero, List.set_cons_succ]
          refine wpAnyH_done (by kernel_rfl) ?_ _
          have b11 : Below W0.heap.size W0 wr.drew := below_drew hb2
          clear hHeld hg hgn hb2
          generalize wr.drew = w8 at *
          have hkc : k ≤ cp := by
            rcases H1k.out.2 with ⟨hn, _⟩ | ⟨g', cap', cur, e, _, _, hn, _⟩
            · simp at hn
            · simp only [Value.slice.injEq] at e; omega
          have j3 : (0 : Int) ≤ (p : Int) := by omega
          have j4 : (p : Int) ≤ (cp : Int) := by omega
          have j5 : (p : Int) ≤ (k : Int) := by omega
          have hcl : cs.length = k * 2 := H1k.out.1
          have hone := rows_one (by rw [hsl]; exact hcl) (fun j hj => ⟨(H2.out j hj).1, (H2.out j hj).2.1, (H2.out j hj).2.2.1⟩)
          have HONE := Lib.hid hone
          have HCS := Lib.hid (fun w hb => rows_cells H1k.out (w := w) hb)
          have oX0 : RowsC (w8.alloc (.cells #[] 76)) W0.heap.size (.slice (some ⟨w8.heap.size, 0, none⟩) 0 0) 0 [] := World.ownsRow_lit (e := 76) (size := 2) w8 #[] 0 b11.size (by unfold maxLen; omega) rfl
          have bX0 : Below W0.heap.size W0 (w8.alloc (.cells #[] 76)) := b11.alloc b11.size _
          clear hone
          go_wp2_with (at_builtin; refine append_rows rfl (.tmp 32) (.tmp 35) rfl W0.heap.size _ 0 [] rfl oX0 bX0.size ⟨g, 0, none⟩ p cp (cs.take (p * 2)) rfl (by rw [List.length_take]; omega) (fun j u hj => HCS.out _ bX0 j u (by rw [List.getElem?_take] at hj; split at hj; exact hj; cases hj)) (fun u hu => HONE.out u (List.mem_of_mem_take hu)) (by omega) ?_)
          intro x1 W1 oX1 gX1 _ hat1
          have bel1 : Below w8.heap.size w8 W1 := ((Below.refl _ w8).alloc (Nat.le_refl _) _).grown gX1 (by simp) (fun k hk => by simp [Value.ownBlock] at hk; omega)
          have B1 := b11.trans (bel1.mono b11.size)
          have oX1' : RowsC W1 W0.heap.size x1 p (cs.take (p * 2)) := by simpa using oX1
          have hc1w := (B1.cell (p := ⟨b, off + k * 2, none⟩) hbl).trans hc1
          have hc2w := (B1.cell (p := ⟨b, off + k * 2 + 1, none⟩) hbl).trans hc2
          have HI1 := Lib.hid (ints_below HI.out B1)
          have hx1 : Hid (∀ b, x1.ownBlock = some b → b < W1.heap.size) := Lib.hid (fun b e => (oX1'.lt b e).2)
          clear oX1 gX1 oX0 bX0 hat1
          go_wp2_with fail
          refine (l3Copy_any id vv xs W1 HI1.out hxl).mono ?_
          rintro e W2 ⟨uu2, rfl, oV, bel2⟩
          obtain ⟨va, vc, rfl⟩ := ints_len (ownsN_ints oV)
          have B2 := B1.trans (bel2.mono B1.size)
          have oX1b : RowsC (W2.alloc (.cells #[.int .i64 id, .slice va xs.length vc] 76)) W0.heap.size x1 p (cs.take (p * 2)) := World.ownsRow.alloc (rowsC_kept oX1' bel2) _
          have B2a := B2.alloc B2.size (.cells #[.int .i64 id, .slice va xs.length vc] 76)
          clear hc1w hc2w
          go_wp2_with (at_builtin; refine append_rows rfl (.tmp 37) (.tmp 43) rfl W0.heap.size x1 p _ rfl oX1b B2a.size ⟨W2.heap.size, 0, none⟩ 1 1 [.int .i64 id, .slice va xs.length vc] rfl rfl (fun j u hj => by rw [Go.WideShapes.add_plain, Nat.zero_add, cell_lit]; simpa using hj) (by intro u hu; simp at hu; rcases hu with rfl | rfl <;> rfl) (by omega) ?_)
          intro x2 W3 oX2 gX2 _ hat2
          have bel3 := (Below.refl W0.heap.size (W2.alloc (.cells #[.int .i64 id, .slice va xs.length vc] 76))).grown gX2 B2a.size (fun k hk => (oX1b.lt k hk).1)
          have B3 := B2a.trans bel3
          have hdl : (cs.drop (p * 2)).length = (k - p) * 2 := by rw [List.length_drop]; omega
          have HNW := Lib.hid (fun (j : Nat) (u : Value) (hj : (cs.drop (p * 2))[j]? = some u) => show W3.cell? ((⟨g, p * 2, none⟩ : Addr).add j) = some u by
            rw [List.getElem?_drop] at hj
            have := HCS.out W3 B3 (p * 2 + j) u hj
            rw [Go.WideShapes.add_plain, Nat.zero_add] at this
            rw [Go.WideShapes.add_plain]; exact this)
          have oX2' : RowsC W3 W0.heap.size x2 (p + 1) (cs.take (p * 2) ++ [.int .i64 id, .slice va xs.length vc]) := oX2
          by_cases hpc : cp = p
          · have hdn : cs.drop (p * 2) = [] := List.eq_nil_of_length_eq_zero (by omega)
            have hq3 : cp - p = 0 := by omega
            go_wp2_with (at_builtin; refine append_rows rfl (.tmp 45) (.tmp 48) rfl W0.heap.size x2 (p + 1) _ rfl oX2' B3.size ⟨g, 0, none⟩ (k - p) 0 (cs.drop (p * 2)) (by first | rfl | (simp; done)) hdl (fun j u hj => by rw [hdn] at hj; cases hj) (fun u hu => HONE.out u (List.mem_of_mem_drop hu)) (by omega) ?_)
            intro x3 W4 oX3 gX3 _ hat3
            obtain ⟨FO, FB⟩ := insert_end hp hsl H1.out H2.out H3.out hbel.size B1.size hx1.out oV gX2 hat2 B3 oX2' gX3 hat3 oX3 (by simp [hdn]) HP.out
            obtain ⟨g3, cp3, rfl⟩ := rowsC_form oX3 (by omega)
            rw [show p + 1 + (k - p) = k + 1 by omega] at FO
            have FB2 := hbel.trans (FB.mono hbel.size)
            have e9 : p + 1 + (k - p) = k + 1 := by omega
            rw [e9]
            clear oX3 gX3 hat3
            go_wp2
            go_roundw
            case rel => exact ⟨k + 1, g3, cp3, by omega, by go_num, rfl, by rw [HSTEP.out]; exact FO, FB2⟩
            case measure => simp [intOf]; omega
          · have hq2 : ¬ p = cp := fun e => hpc e.symm
            have hq3 : ¬ cp - p = 0 := by omega
            have hq4 : p < cp := by omega
            have hq5 : ¬ cp ≤ p := by omega
            go_wp2_with (at_builtin; refine append_rows rfl (.tmp 45) (.tmp 48) rfl W0.heap.size x2 (p + 1) _ rfl oX2' B3.size ⟨g, p * 2, none⟩ (k - p) (cp - p) (cs.drop (p * 2)) (by first | rfl | (simp; done)) hdl HNW.out (fun u hu => HONE.out u (List.mem_of_mem_drop hu)) (by omega) ?_)
            intro x3 W4 oX3 gX3 _ hat3
            obtain ⟨FO, FB⟩ := insert_end hp hsl H1.out H2.out H3.out hbel.size B1.size hx1.out oV gX2 hat2 B3 oX2' gX3 hat3 oX3 (by simp) HP.out
            obtain ⟨g3, cp3, rfl⟩ := rowsC_form oX3 (by omega)
            rw [show p + 1 + (k - p) = k + 1 by omega] at FO
            have FB2 := hbel.trans (FB.mono hbel.size)
            have e9 : p + 1 + (k - p) = k + 1 := by omega
            rw [e9]
            clear oX3 gX3 hat3
            go_wp2
            go_roundw
            case rel => exact ⟨k + 1, g3, cp3, by omega, by go_num, rfl, by rw [HSTEP.out]; exact FO, FB2⟩
            case measure => simp [intOf]; omega
        · obtain ⟨m, hpm⟩ : ∃ m, p = m + 1 := ⟨p - 1, by omega⟩
          have hms : m < ss.length := by omega
          obtain ⟨q1, q2, q3, _⟩ := H2.out m hms
          have d1 := (hb2.cell (p := ⟨g, m * 2, none⟩) hgl.2).trans ((World.ownsRow.cellAt H1k.out (m * 2) (by omega)).trans q1)
          have d2 := (hb2.cell (p := ⟨g, m * 2 + 1, none⟩) hgl.2).trans ((World.ownsRow.cellAt H1k.out (m * 2 + 1) (by omega)).trans q2)
          have hJ := Lib.hid (ints_below (ownsN_ints q3) hb2)
          have hI2 := Lib.hid (ints_below HI.out hb2)
          have hyl := HL.out m hms
          have HX := Lib.hid (fun w hI g => HLESS.out (ss.getD m (0, [])) (vs m) w hI g hyl)
          have hg : decide ((0 : Int) < (p : Int)) = true := decide_eq_true (by omega)
          have hgn : decide (0 < p) = true := decide_eq_true (by omega)
          have j1 : (0 : Int) ≤ (m : Int) := by omega
          have j2 : (m : Int) < (k : Int) := by omega
          have hsub : IntKind.i64.wrap ((p : Int) - 1) = (m : Int) := by rw [IntWalk.i64_in _ (by omega)]; omega
          have HDN := Lib.hid (insAt_down (rs := ss) (r := (id, xs)) (m := m))
          have HST := Lib.hid (insAt_stop (rs := ss) (r := (id, xs)) (m := m))
          have HPM := Lib.hid hpm
          clear q1 q2 q3 hz hpm
          have er : (((ss.getD m (0, [])).1, (ss.getD m (0, [])).2) : RowD) = ss.getD m (0, []) := rfl
          rw [er] at HX
          cases hless : rowLess (id, xs) (ss.getD m (0, [])) with
          | true =>
            have HA : Hid (insAt ss (id, xs) m = insAt ss (id, xs) k) := Lib.hid ((HDN.out hless).symm.trans ((congrArg _ HPM.out.symm).trans hin.out))
            rw [hless] at HX
            clear hless er HDN HST
            generalize (ss.getD m (0, [])).1 = id2 at *
            generalize (ss.getD m (0, [])).2 = ys at *
            generalize vs m = uu at *
            go_wp2
            refine wp_region_held_drew (S := fun w' => w'.cell? ⟨b, off + k * 2, none⟩ = some (.int .i64 id) ∧ w'.cell? ⟨b, off + k * 2 + 1, none⟩ = some vv ∧ w'.cell? ⟨g, m * 2, none⟩ = some (.int .i64 id2) ∧ w'.cell? ⟨g, m * 2 + 1, none⟩ = some uu) (by kernel_rfl) ⟨hc1', hc2', d1, d2⟩ (fun hHeld => ?_)
            refine take_runs (i := 0) (v := ?_) (by simp only [List.getElem?_toArray, List.getElem?_cons_succ, List.getElem?_cons_zero]; rfl) (by kernel_rfl) (by kernel_rfl) (by kernel_rfl) rfl (by exact fun _ _ _ h => h) (by rfl) ?_ (by assumption) ?_
            rotate_left
            · intro w hSw; (try dsimp only at hSw); go_simp; try (with_reducible rfl)
            try simp only [Act.put, List.setIfInBounds_toArray, List.set_cons_zero, List.set_cons_succ]
            refine take_runs (i := 1) (v := ?_) (by simp only [List.getElem?_toArray, List.getElem?_cons_succ, List.getElem?_cons_zero]; rfl) (by kernel_rfl) (by kernel_rfl) (by kernel_rfl) rfl (by exact fun _ _ _ h => h) (by rfl) ?_ (by assumption) ?_
            rotate_left
            · intro w hSw; (try dsimp only at hSw); go_simp; try (with_reducible rfl)
            try simp only [Act.put, List.setIfInBounds_toArray, List.set_cons_zero, List.set_cons_succ]
            refine take_runs (i := 2) (v := ?_) (by simp only [List.getElem?_toArray, List.getElem?_cons_succ, List.getElem?_cons_zero]; rfl) (by kernel_rfl) (by kernel_rfl) (by kernel_rfl) rfl (by exact fun _ _ _ h => h) (by rfl) ?_ (by assumption) ?_
            rotate_left
            · intro w hSw; (try dsimp only at hSw); go_simp; try (with_reducible rfl)
            try simp only [Act.put, List.setIfInBounds_toArray, List.set_cons_zero, List.set_cons_succ]
            refine take_runs (i := 3) (v := ?_) (by simp only [List.getElem?_toArray, List.getElem?_cons_succ, List.getElem?_cons_zero]; rfl) (by kernel_rfl) (by kernel_rfl) (by kernel_rfl) rfl (by exact fun _ _ _ h => h) (by rfl) ?_ (by assumption) ?_
            rotate_left
            · intro w hSw; (try dsimp only at hSw); go_simp; try (with_reducible rfl)
            try simp only [Act.put, List.setIfInBounds_toArray, List.set_cons_zero, List.set_cons_succ]
            refine take_runs (i := 4) (v := ?_) (by simp only [List.getElem?_toArray, List.getElem?_cons_succ, List.getElem?_cons_zero]; rfl) (by kernel_rfl) (by kernel_rfl) (by kernel_rfl) rfl (by exact fun _ _ _ h => h) (by rfl) ?_ (by assumption) ?_
            rotate_left
            · intro w hSw; (try dsimp only at hSw); go_simp; try (with_reducible rfl)
            try simp only [Act.put, List.setIfInBounds_toArray, List.set_cons_zero, List.set_cons_succ]
            refine take_runs (i := 5) (v := ?_) (by simp only [List.getElem?_toArray, List.getElem?_cons_succ, List.getElem?_cons_zero]; rfl) (by kernel_rfl) (by kernel_rfl) (by kernel_rfl) rfl (by exact fun _ _ _ h => h) (by rfl) ?_ (by assumption) ?_
            rotate_left
            · intro w hSw; (try dsimp only at hSw); go_simp; try (with_reducible rfl)
            try simp only [Act.put, List.setIfInBounds_toArray, List.set_cons_zero, List.set_cons_succ]
            refine take_runs (i := 6) (v := ?_) (by simp only [List.getElem?_toArray, List.getElem?_cons_succ, List.getElem?_cons_zero]; rfl) (by kernel_rfl) (by kernel_rfl) (by kernel_rfl) rfl (by exact fun _ _ _ h => h) (by rfl) ?_ (by assumption) ?_
            rotate_left
            · intro w hSw; (try dsimp only at hSw); go_simp; try (with_reducible rfl)
            try simp only [Act.put, List.setIfInBounds_toArray, List.set_cons_zero, List.set_cons_succ]
            refine take_runs (i := 7) (v := ?_) (by simp only [List.getElem?_toArray, List.getElem?_cons_succ, List.getElem?_cons_zero]; rfl) (by kernel_rfl) (by kernel_rfl) (by kernel_rfl) rfl (by exact fun _ _ _ h => h) (by rfl) ?_ (by assumption) ?_
            rotate_left
            · intro w hSw; (try dsimp only at hSw); go_simp; try (with_reducible rfl)
            try simp only [Act.put, List.setIfInBounds_toArray, List.set_cons_zero, List.set_cons_succ]
            refine take_runs (i := 8) (v := ?_) (by simp only [List.getElem?_toArray, List.getElem?_cons_succ, List.getElem?_cons_zero]; rfl) (by kernel_rfl) (by kernel_rfl) (by kernel_rfl) rfl (by exact fun _ _ _ h => h) (by rfl) ?_ (by assumption) ?_
            rotate_left
            · intro w hSw; (try dsimp only at hSw); go_simp; try (with_reducible rfl)
            try simp only [Act.put, List.setIfInBounds_toArray, List.set_cons_zero, List.set_cons_succ]
            refine take_runs (i := 9) (v := ?_) (by simp only [List.getElem?_toArray, List.getElem?_cons_succ, List.getElem?_cons_zero]; rfl) (by kernel_rfl) (by kernel_rfl) (by kernel_rfl) rfl (by exact fun _ _ _ h => h) (by rfl) ?_ (by assumption) ?_
            rotate_left
            · intro w hSw; (try dsimp only at hSw); go_simp; try (with_reducible rfl)
            try simp only [Act.put, List.setIfInBounds_toArray, List.set_cons_zero, List.set_cons_succ]
            refine take_runs (i := 10) (v := ?_) (by simp only [List.getElem?_toArray, List.getElem?_cons_succ, List.getElem?_cons_zero]; rfl) (by kernel_rfl) (by kernel_rfl) (by kernel_rfl) rfl (by exact fun _ _ _ h => h) (by rfl) ?_ (by assumption) ?_
            rotate_left
            · intro w hSw; (try dsimp only at hSw); go_simp; try (with_reducible rfl)
            try simp only [Act.put, List.setIfInBounds_toArray, List.set_cons_zero, List.set_cons_succ]
            refine take_runs (i := 11) (v := ?_) (by simp only [List.getElem?_toArray, List.getElem?_cons_succ, List.getElem?_cons_zero]; rfl) (by kernel_rfl) (by kernel_rfl) (by kernel_rfl) rfl (by exact fun _ _ _ h => h) (by rfl) ?_ (by assumption) ?_
            rotate_left
            · intro w hSw; (try dsimp only at hSw); go_simp; try (with_reducible rfl)
            try simp only [Act.put, List.setIfInBounds_toArray, List.set_cons_zero, List.set_cons_succ]
            refine wpAnyH_ready (rs := [12]) (by kernel_rfl) (by simp) ?_
            refine AllReadyH.cons (o := _) (by simp only [List.getElem?_toArray, List.getElem?_cons_succ, List.getElem?_cons_zero]; rfl) (fun K hK => ?_) AllReadyH.nil
            go_simp
            refine (HX.out _ (by exact ints_heap hI2.out rfl) (by exact ints_heap hJ.out rfl)).mono ?_
            rintro e w8 ⟨rfl, b9⟩
            have b10 : Below wr.heap.size wr w8 := ⟨b9.os, b9.tape, b9.output, b9.size, b9.block⟩
            have s1 := (b10.cell (p := ⟨b, off + k * 2, none⟩) (Nat.lt_of_lt_of_le hbl hb2.size)).trans hc1'
            have s2 := (b10.cell (p := ⟨b, off + k * 2 + 1, none⟩) (Nat.lt_of_lt_of_le hbl hb2.size)).trans hc2'
            have s3 := (b10.cell (p := ⟨g, m * 2, none⟩) (Nat.lt_of_lt_of_le hgl.2 hb2.size)).trans d1
            have s4 := (b10.cell (p := ⟨g, m * 2 + 1, none⟩) (Nat.lt_of_lt_of_le hgl.2 hb2.size)).trans d2
            refine hK.out _ _ ⟨s1, s2, s3, s4⟩ (fun hHeld => ?_)
            clear hK K
            try simp only [Act.put, List.setIfInBounds_toArray, List.set_cons_zero, List.set_cons_succ]
            refine take_runs (i := 13) (v := ?_) (by simp only [List.getElem?_toArray, List.getElem?_cons_succ, List.getElem?_cons_zero]; rfl) (by kernel_rfl) (by kernel_rfl) (by kernel_rfl) rfl (by exact fun _ _ _ h => h) (by rfl) ?_ (by assumption) ?_
            rotate_left
            · intro w hSw; (try dsimp only at hSw); go_simp; try (with_reducible rfl)
            try simp only [Act.put, List.setIfInBounds_toArray, List.set_cons_zero, List.set_cons_succ]
            refine wpAnyH_done (by kernel_rfl) ?_ _
            have b11 := hb2.trans (b10.mono hb2.size)
            clear s1 s2 s3 s4 hHeld b9 b10
            go_wp2
            go_roundw
            case rel => exact ⟨m, by omega, rfl, HA, b11⟩
            case measure => have := HPM.out; simp [intOf]; omega
          | false =>
            have HP : Hid (insAt ss (id, xs) k = p) := Lib.hid (hin.out.symm.trans ((congrArg _ HPM.out).trans ((HST.out hless).trans HPM.out.symm)))
            rw [hless] at HX
            clear hless er HDN HST
            generalize (ss.getD m (0, [])).1 = id2 at *
            generalize (ss.getD m (0, [])).2 = ys at *
            generalize vs m = uu at *
            go_wp2
            refine wp_region_held_drew (S := fun w' => w'.cell? ⟨b, off + k * 2, none⟩ = some (.int .i64 id) ∧ w'.cell? ⟨b, off + k * 2 + 1, none⟩ = some vv ∧ w'.cell? ⟨g, m * 2, none⟩ = some (.int .i64 id2) ∧ w'.cell? ⟨g, m * 2 + 1, none⟩ = some uu) (by kernel_rfl) ⟨hc1', hc2', d1, d2⟩ (fun hHeld => ?_)
            refine take_runs (i := 0) (v := ?_) (by simp only [List.getElem?_toArray, List.getElem?_cons_succ, List.getElem?_cons_zero]; rfl) (by kernel_rfl) (by kernel_rfl) (by kernel_rfl) rfl (by exact fun _ _ _ h => h) (by rfl) ?_ (by assumption) ?_
            rotate_left
            · intro w hSw; (try dsimp only at hSw); go_simp; try (with_reducible rfl)
            try simp only [Act.put, List.setIfInBounds_toArray, List.set_cons_zero, List.set_cons_succ]
            refine take_runs (i := 1) (v := ?_) (by simp only [List.getElem?_toArray, List.getElem?_cons_succ, List.getElem?_cons_zero]; rfl) (by kernel_rfl) (by kernel_rfl) (by kernel_rfl) rfl (by exact fun _ _ _ h => h) (by rfl) ?_ (by assumption) ?_
            rotate_left
            · intro w hSw; (try dsimp only at hSw); go_simp; try (with_reducible rfl)
            try simp only [Act.put, List.setIfInBounds_toArray, List.set_cons_zero, List.set_cons_succ]
            refine take_runs (i := 2) (v := ?_) (by simp only [List.getElem?_toArray, List.getElem?_cons_succ, List.getElem?_cons_zero]; rfl) (by kernel_rfl) (by kernel_rfl) (by kernel_rfl) rfl (by exact fun _ _ _ h => h) (by rfl) ?_ (by assumption) ?_
            rotate_left
            · intro w hSw; (try dsimp only at hSw); go_simp; try (with_reducible rfl)
            try simp only [Act.put, List.setIfInBounds_toArray, List.set_cons_zero, List.set_cons_succ]
            refine take_runs (i := 3) (v := ?_) (by simp only [List.getElem?_toArray, List.getElem?_cons_succ, List.getElem?_cons_zero]; rfl) (by kernel_rfl) (by kernel_rfl) (by kernel_rfl) rfl (by exact fun _ _ _ h => h) (by rfl) ?_ (by assumption) ?_
            rotate_left
            · intro w hSw; (try dsimp only at hSw); go_simp; try (with_reducible rfl)
            try simp only [Act.put, List.setIfInBounds_toArray, List.set_cons_zero, List.set_cons_succ]
            refine take_runs (i := 4) (v := ?_) (by simp only [List.getElem?_toArray, List.getElem?_cons_succ, List.getElem?_cons_zero]; rfl) (by kernel_rfl) (by kernel_rfl) (by kernel_rfl) rfl (by exact fun _ _ _ h => h) (by rfl) ?_ (by assumption) ?_
            rotate_left
            · intro w hSw; (try dsimp only at hSw); go_simp; try (with_reducible rfl)
            try simp only [Act.put, List.setIfInBounds_toArray, List.set_cons_zero, List.set_cons_succ]
            refine take_runs (i := 5) (v := ?_) (by simp only [List.getElem?_toArray, List.getElem?_cons_succ, List.getElem?_cons_zero]; rfl) (by kernel_rfl) (by kernel_rfl) (by kernel_rfl) rfl (by exact fun _ _ _ h => h) (by rfl) ?_ (by assumption) ?_
            rotate_left
            · intro w hSw; (try dsimp only at hSw); go_simp; try (with_reducible rfl)
            try simp only [Act.put, List.setIfInBounds_toArray, List.set_cons_zero, List.set_cons_succ]
            refine take_runs (i := 6) (v := ?_) (by simp only [List.getElem?_toArray, List.getElem?_cons_succ, List.getElem?_cons_zero]; rfl) (by kernel_rfl) (by kernel_rfl) (by kernel_rfl) rfl (by exact fun _ _ _ h => h) (by rfl) ?_ (by assumption) ?_
            rotate_left
            · intro w hSw; (try dsimp only at hSw); go_simp; try (with_reducible rfl)
            try simp only [Act.put, List.setIfInBounds_toArray, List.set_cons_zero, List.set_cons_succ]
            refine take_runs (i := 7) (v := ?_) (by simp only [List.getElem?_toArray, List.getElem?_cons_succ, List.getElem?_cons_zero]; rfl) (by kernel_rfl) (by kernel_rfl) (by kernel_rfl) rfl (by exact fun _ _ _ h => h) (by rfl) ?_ (by assumption) ?_
            rotate_left
            · intro w hSw; (try dsimp only at hSw); go_simp; try (with_reducible rfl)
            try simp only [Act.put, List.setIfInBounds_toArray, List.set_cons_zero, List.set_cons_succ]
            refine take_runs (i := 8) (v := ?_) (by simp only [List.getElem?_toArray, List.getElem?_cons_succ, List.getElem?_cons_zero]; rfl) (by kernel_rfl) (by kernel_rfl) (by kernel_rfl) rfl (by exact fun _ _ _ h => h) (by rfl) ?_ (by assumption) ?_
            rotate_left
            · intro w hSw; (try dsimp only at hSw); go_simp; try (with_reducible rfl)
            try simp only [Act.put, List.setIfInBounds_toArray, List.set_cons_zero, List.set_cons_succ]
            refine take_runs (i := 9) (v := ?_) (by simp only [List.getElem?_toArray, List.getElem?_cons_succ, List.getElem?_cons_zero]; rfl) (by kernel_rfl) (by kernel_rfl) (by kernel_rfl) rfl (by exact fun _ _ _ h => h) (by rfl) ?_ (by assumption) ?_
            rotate_left
            · intro w hSw; (try dsimp only at hSw); go_simp; try (with_reducible rfl)
            try simp only [Act.put, List.setIfInBounds_toArray, List.set_cons_zero, List.set_cons_succ]
            refine take_runs (i := 10) (v := ?_) (by simp only [List.getElem?_toArray, List.getElem?_cons_succ, List.getElem?_cons_zero]; rfl) (by kernel_rfl) (by kernel_rfl) (by kernel_rfl) rfl (by exact fun _ _ _ h => h) (by rfl) ?_ (by assumption) ?_
            rotate_left
            · intro w hSw; (try dsimp only at hSw); go_simp; try (with_reducible rfl)
            try simp only [Act.put, List.setIfInBounds_toArray, List.set_cons_zero, List.set_cons_succ]
            refine take_runs (i := 11) (v := ?_) (by simp only [List.getElem?_toArray, List.getElem?_cons_succ, List.getElem?_cons_zero]; rfl) (by kernel_rfl) (by kernel_rfl) (by kernel_rfl) rfl (by exact fun _ _ _ h => h) (by rfl) ?_ (by assumption) ?_
            rotate_left
            · intro w hSw; (try dsimp only at hSw); go_simp; try (with_reducible rfl)
            try simp only [Act.put, List.setIfInBounds_toArray, List.set_cons_zero, List.set_cons_succ]
            refine wpAnyH_ready (rs := [12]) (by kernel_rfl) (by simp) ?_
            refine AllReadyH.cons (o := _) (by simp only [List.getElem?_toArray, List.getElem?_cons_succ, List.getElem?_cons_zero]; rfl) (fun K hK => ?_) AllReadyH.nil
            go_simp
            refine (HX.out _ (by exact ints_heap hI2.out rfl) (by exact ints_heap hJ.out rfl)).mono ?_
            rintro e w8 ⟨rfl, b9⟩
            have b10 : Below wr.heap.size wr w8 := ⟨b9.os, b9.tape, b9.output, b9.size, b9.block⟩
            have s1 := (b10.cell (p := ⟨b, off + k * 2, none⟩) (Nat.lt_of_lt_of_le hbl hb2.size)).trans hc1'
            have s2 := (b10.cell (p := ⟨b, off + k * 2 + 1, none⟩) (Nat.lt_of_lt_of_le hbl hb2.size)).trans hc2'
            have s3 := (b10.cell (p := ⟨g, m * 2, none⟩) (Nat.lt_of_lt_of_le hgl.2 hb2.size)).trans d1
            have s4 := (b10.cell (p := ⟨g, m * 2 + 1, none⟩) (Nat.lt_of_lt_of_le hgl.2 hb2.size)).trans d2
            refine hK.out _ _ ⟨s1, s2, s3, s4⟩ (fun hHeld => ?_)
            clear hK K
            try simp only [Act.put, List.setIfInBounds_toArray, List.set_cons_zero, List.set_cons_succ]
            refine take_runs (i := 13) (v := ?_) (by simp only [List.getElem?_toArray, List.getElem?_cons_succ, List.getElem?_cons_zero]; rfl) (by kernel_rfl) (by kernel_rfl) (by kernel_rfl) rfl (by exact fun _ _ _ h => h) (by rfl) ?_ (by assumption) ?_
            rotate_left
            · intro w hSw; (try dsimp only at hSw); go_simp; try (with_reducible rfl)
            try simp only [Act.put, List.setIfInBounds_toArray, List.set_cons_zero, List.set_cons_succ]
            refine wpAnyH_done (by kernel_rfl) ?_ _
            have b11 := hb2.trans (b10.mono hb2.size)
            clear s1 s2 s3 s4 hHeld b9 b10
            clear d1 d2 hJ hI2 HX hyl hg hgn j1 j2 hsub hc1' hc2'
            have hkc : k ≤ cp := by
              rcases H1k.out.2 with ⟨hn, _⟩ | ⟨g', cap', cur, e, _, _, hn, _⟩
              · simp at hn
              · simp only [Value.slice.injEq] at e; omega
            have j3 : (0 : Int) ≤ (p : Int) := by omega
            have j4 : (p : Int) ≤ (cp : Int) := by omega
            have j5 : (p : Int) ≤ (k : Int) := by omega
            have hcl : cs.length = k * 2 := H1k.out.1
            have hone := rows_one (by rw [hsl]; exact hcl) (fun j hj => ⟨(H2.out j hj).1, (H2.out j hj).2.1, (H2.out j hj).2.2.1⟩)
            have HONE := Lib.hid hone
            have HCS := Lib.hid (fun w hb => rows_cells H1k.out (w := w) hb)
            have oX0 : RowsC (w8.alloc (.cells #[] 76)) W0.heap.size (.slice (some ⟨w8.heap.size, 0, none⟩) 0 0) 0 [] := World.ownsRow_lit (e := 76) (size := 2) w8 #[] 0 b11.size (by unfold maxLen; omega) rfl
            have bX0 : Below W0.heap.size W0 (w8.alloc (.cells #[] 76)) := b11.alloc b11.size _
            clear hone
            go_wp2_with (at_builtin; refine append_rows rfl (.tmp 32) (.tmp 35) rfl W0.heap.size _ 0 [] rfl oX0 bX0.size ⟨g, 0, none⟩ p cp (cs.take (p * 2)) rfl (by rw [List.length_take]; omega) (fun j u hj => HCS.out _ bX0 j u (by rw [List.getElem?_take] at hj; split at hj; exact hj; cases hj)) (fun u hu => HONE.out u (List.mem_of_mem_take hu)) (by omega) ?_)
            intro x1 W1 oX1 gX1 _ hat1
            have bel1 : Below w8.heap.size w8 W1 := ((Below.refl _ w8).alloc (Nat.le_refl _) _).grown gX1 (by simp) (fun k hk => by simp [Value.ownBlock] at hk; omega)
            have B1 := b11.trans (bel1.mono b11.size)
            have oX1' : RowsC W1 W0.heap.size x1 p (cs.take (p * 2)) := by simpa using oX1
            have hc1w := (B1.cell (p := ⟨b, off + k * 2, none⟩) hbl).trans hc1
            have hc2w := (B1.cell (p := ⟨b, off + k * 2 + 1, none⟩) hbl).trans hc2
            have HI1 := Lib.hid (ints_below HI.out B1)
            have hx1 : Hid (∀ b, x1.ownBlock = some b → b < W1.heap.size) := Lib.hid (fun b e => (oX1'.lt b e).2)
            clear oX1 gX1 oX0 bX0 hat1
            go_wp2_with fail
            refine (l3Copy_any id vv xs W1 HI1.out hxl).mono ?_
            rintro e W2 ⟨uu2, rfl, oV, bel2⟩
            obtain ⟨va, vc, rfl⟩ := ints_len (ownsN_ints oV)
            have B2 := B1.trans (bel2.mono B1.size)
            have oX1b : RowsC (W2.alloc (.cells #[.int .i64 id, .slice va xs.length vc] 76)) W0.heap.size x1 p (cs.take (p * 2)) := World.ownsRow.alloc (rowsC_kept oX1' bel2) _
            have B2a := B2.alloc B2.size (.cells #[.int .i64 id, .slice va xs.length vc] 76)
            clear hc1w hc2w
            go_wp2_with (at_builtin; refine append_rows rfl (.tmp 37) (.tmp 43) rfl W0.heap.size x1 p _ rfl oX1b B2a.size ⟨W2.heap.size, 0, none⟩ 1 1 [.int .i64 id, .slice va xs.length vc] rfl rfl (fun j u hj => by rw [Go.WideShapes.add_plain, Nat.zero_add, cell_lit]; simpa using hj) (by intro u hu; simp at hu; rcases hu with rfl | rfl <;> rfl) (by omega) ?_)
            intro x2 W3 oX2 gX2 _ hat2
            have bel3 := (Below.refl W0.heap.size (W2.alloc (.cells #[.int .i64 id, .slice va xs.length vc] 76))).grown gX2 B2a.size (fun k hk => (oX1b.lt k hk).1)
            have B3 := B2a.trans bel3
            have hdl : (cs.drop (p * 2)).length = (k - p) * 2 := by rw [List.length_drop]; omega
            have HNW := Lib.hid (fun (j : Nat) (u : Value) (hj : (cs.drop (p * 2))[j]? = some u) => show W3.cell? ((⟨g, p * 2, none⟩ : Addr).add j) = some u by
              rw [List.getElem?_drop] at hj
              have := HCS.out W3 B3 (p * 2 + j) u hj
              rw [Go.WideShapes.add_plain, Nat.zero_add] at this
              rw [Go.WideShapes.add_plain]; exact this)
            have oX2' : RowsC W3 W0.heap.size x2 (p + 1) (cs.take (p * 2) ++ [.int .i64 id, .slice va xs.length vc]) := oX2
            by_cases hpc : cp = p
            · have hdn : cs.drop (p * 2) = [] := List.eq_nil_of_length_eq_zero (by omega)
              have hq3 : cp - p = 0 := by omega
              go_wp2_with (at_builtin; refine append_rows rfl (.tmp 45) (.tmp 48) rfl W0.heap.size x2 (p + 1) _ rfl oX2' B3.size ⟨g, 0, none⟩ (k - p) 0 (cs.drop (p * 2)) (by first | rfl | (simp; done)) hdl (fun j u hj => by rw [hdn] at hj; cases hj) (fun u hu => HONE.out u (List.mem_of_mem_drop hu)) (by omega) ?_)
              intro x3 W4 oX3 gX3 _ hat3
              obtain ⟨FO, FB⟩ := insert_end hp hsl H1.out H2.out H3.out hbel.size B1.size hx1.out oV gX2 hat2 B3 oX2' gX3 hat3 oX3 (by simp [hdn]) HP.out
              obtain ⟨g3, cp3, rfl⟩ := rowsC_form oX3 (by omega)
              rw [show p + 1 + (k - p) = k + 1 by omega] at FO
              have FB2 := hbel.trans (FB.mono hbel.size)
              have e9 : p + 1 + (k - p) = k + 1 := by omega
              rw [e9]
              clear oX3 gX3 hat3
              go_wp2
              go_roundw
              case rel => exact ⟨k + 1, g3, cp3, by omega, by go_num, rfl, by rw [HSTEP.out]; exact FO, FB2⟩
              case measure => simp [intOf]; omega
            · have hq2 : ¬ p = cp := fun e => hpc e.symm
              have hq3 : ¬ cp - p = 0 := by omega
              have hq4 : p < cp := by omega
              have hq5 : ¬ cp ≤ p := by omega
              go_wp2_with (at_builtin; refine append_rows rfl (.tmp 45) (.tmp 48) rfl W0.heap.size x2 (p + 1) _ rfl oX2' B3.size ⟨g, p * 2, none⟩ (k - p) (cp - p) (cs.drop (p * 2)) (by first | rfl | (simp; done)) hdl HNW.out (fun u hu => HONE.out u (List.mem_of_mem_drop hu)) (by omega) ?_)
              intro x3 W4 oX3 gX3 _ hat3
              obtain ⟨FO, FB⟩ := insert_end hp hsl H1.out H2.out H3.out hbel.size B1.size hx1.out oV gX2 hat2 B3 oX2' gX3 hat3 oX3 (by simp) HP.out
              obtain ⟨g3, cp3, rfl⟩ := rowsC_form oX3 (by omega)
              rw [show p + 1 + (k - p) = k + 1 by omega] at FO
              have FB2 := hbel.trans (FB.mono hbel.size)
              have e9 : p + 1 + (k - p) = k + 1 := by omega
              rw [e9]
              clear oX3 gX3 hat3
              go_wp2
              go_roundw
              case rel => exact ⟨k + 1, g3, cp3, by omega, by go_num, rfl, by rw [HSTEP.out]; exact FO, FB2⟩
              case measure => simp [intOf]; omega
    · obtain rfl : k = rs.length := by omega
      rw [sortTo_all] at hown
      go_wp2
      go_ret
      exact ⟨_, rfl, hown, hbel⟩
end Go.Proofs.Ytginjmnohnidiaa
namespace Go.Proofs.Ytginjmnohnidiaa
open Go.RowKit
set_option linter.unusedVariables false
set_option linter.unusedSimpArgs false
theorem rowsAt_no {ss : List (List VerD)} {now t : Int} (h : storeB ss now = false) : rowsAtL ss now t = [] := by unfold rowsAtL; rw [h]; rfl
theorem rowsAt_yes {ss : List (List VerD)} {now t : Int} (h : storeB ss now = true) : rowsAtL ss now t = sortL (rowsV ss.flatten t) := by unfold rowsAtL; rw [h]; rfl
theorem segRows_no {ss : List (List VerD)} {now g t : Int} (h : ¬ (storeB ss now = true ∧ 0 ≤ g ∧ g < ss.length)) : segRowsL ss now g t = [] := if_neg h
theorem segRows_yes {ss : List (List VerD)} {now g t : Int} (h : storeB ss now = true ∧ 0 ≤ g ∧ g < ss.length) : segRowsL ss now g t = rowsV (ss.getD g.toNat []) t := if_pos h
theorem rows_size {ss : List (List VerD)} (hs : zL tVersionS ss ≤ 1048576) (t : Int) : szL (rowsV ss.flatten t) ≤ 1048576 := by
  have h1 := zL_rowsV ss.flatten t
  have h2 := zL_all ss
  rw [← zL_rows]; omega
set_option maxHeartbeats 8000000 in
set_option maxRecDepth 100000 in
theorem specRowsAt (sv : Value) (ss : List (List VerD)) (now t : Int) (w : World) (h : SlR tVersionS w sv ss) (hs : zL tVersionS ss ≤ 1048576) :
    Calls Try.prog 39 #[.agg #[sv, .int .i64 now], .int .i64 t] w (FreshS 76 tRow w (rowsAtL ss now t)) := by
  obtain ⟨a, cap, rfl⟩ := slR_len h
  have HI := Lib.hid (fun W g => specIsStore (.slice a ss.length cap) ss now W g hs)
  have H := Lib.hid h
  have HS := Lib.hid hs
  have d0 := Lib.hid (show Below w.heap.size w (w.alloc (.cells #[.slice a ss.length cap, .int .i64 now] 45)) from (Below.refl _ _).alloc (Nat.le_refl _) _)
  have B0 : Hid ((w.alloc (.cells #[.slice a ss.length cap, .int .i64 now] 45)).heap[w.heap.size]? = some (.cells #[.slice a ss.length cap, .int .i64 now] 45 (0, 0))) := Lib.hid (heap_alloc_new w _)
  have Y0 : Hid (w.heap.size < (w.alloc (.cells #[.slice a ss.length cap, .int .i64 now] 45)).heap.size) := Lib.hid (by simp [World.size_alloc])
  have HC := Lib.hid (fun W g => specL7All (.slice a ss.length cap) ss now W g hs)
  have HZF : Hid (zL tVersion ss.flatten ≤ 1048576) := Lib.hid (by have := zL_all ss; omega)
  clear h hs
  cases hst : storeB ss now with
  | false =>
    have HE := Lib.hid (rowsAt_no (t := t) hst)
    rw [hst] at HI
    rw [HE.out]
    clear hst
    go_enter Try.func39, Try.ntmps39
    go_wp2_with fail
    generalize w.alloc (.cells #[.slice a ss.length cap, .int .i64 now] 45) = W at *
    refine (HI.out W (slR_below tVersionS_law H.out d0.out)).mono ?_
    rintro e w1 ⟨rfl, b1⟩
    have D1 := Lib.hid (d0.out.trans (b1.mono d0.out.size))
    have k0 := (b1.block w.heap.size Y0.out).trans B0.out
    have p0 := (cell_of_row w1 _ 0 _ _ _ k0).trans (show _ = some (Value.slice a ss.length cap) from rfl)
    have p1 := (cell_of_row w1 _ 1 _ _ _ k0).trans (show _ = some (Value.int .i64 now) from rfl)
    clear b1 k0
    go_wp2
    go_ret
    exact ⟨_, rfl, slO_empty w1 76 (since w) D1.out.size, D1.out.alloc D1.out.size _⟩
  | true =>
    have HE := Lib.hid (rowsAt_yes (t := t) hst)
    rw [hst] at HI
    rw [HE.out]
    clear hst
    go_enter Try.func39, Try.ntmps39
    go_wp2_with fail
    generalize w.alloc (.cells #[.slice a ss.length cap, .int .i64 now] 45) = W at *
    refine (HI.out W (slR_below tVersionS_law H.out d0.out)).mono ?_
    rintro e w1 ⟨rfl, b1⟩
    have D1 := Lib.hid (d0.out.trans (b1.mono d0.out.size))
    have k0 := (b1.block w.heap.size Y0.out).trans B0.out
    have p0 := (cell_of_row w1 _ 0 _ _ _ k0).trans (show _ = some (Value.slice a ss.length cap) from rfl)
    have p1 := (cell_of_row w1 _ 1 _ _ _ k0).trans (show _ = some (Value.int .i64 now) from rfl)
    clear b1 k0
    go_wp2_with fail
    refine (HC.out w1 (slR_below tVersionS_law H.out D1.out)).mono ?_
    rintro e w2 ⟨v, L, rfl, hown, hsh, b2⟩
    have HV := Lib.hid (raw_reads (T := tVersion) (by decide) hown (sh_below tVersion_law hsh b2))
    have D2 := Lib.hid (D1.out.trans (b2.mono D1.out.size))
    clear hown hsh b2 p0 p1
    go_wp2_with fail
    refine (specL7Rows v ss.flatten t w2 HV.out HZF.out).mono ?_
    rintro e w3 ⟨u, rfl, ho, b3⟩
    have D3 := Lib.hid (D2.out.trans (b3.mono D2.out.size))
    have HR := Lib.hid (slR_rows (slO_reads tRow_law ho))
    clear ho b3 HV
    go_wp2_with fail
    refine (specSortRows u _ w3 HR.out (rows_size HS.out t)).mono ?_
    rintro e w4 ⟨v4, rfl, ho4, b4⟩
    have D4 := Lib.hid (D3.out.trans (b4.mono D3.out.size))
    have HO4 := Lib.hid ho4
    clear ho4 b4 HR
    go_wp2
    go_ret
    exact ⟨_, rfl, ownsR_slO HO4.out (fun b hb => Nat.le_trans D3.out.size hb), D4.out⟩
set_option maxHeartbeats 8000000 in
set_option maxRecDepth 100000 in
theorem specSegmentRows (sv : Value) (ss : List (List VerD)) (now g t : Int) (w : World) (h : SlR tVersionS w sv ss) (hs : zL tVersionS ss ≤ 1048576) :
    Calls Try.prog 41 #[.agg #[sv, .int .i64 now], .int .i64 g, .int .i64 t] w (FreshS 76 tRow w (segRowsL ss now g t)) := by
  have hlen := zL_len hs
  obtain ⟨a, cap, rfl⟩ := slR_len h
  have HI := Lib.hid (fun W g => specIsStore (.slice a ss.length cap) ss now W g hs)
  have H := Lib.hid h
  have HS := Lib.hid hs
  have d0 := Lib.hid (show Below w.heap.size w (w.alloc (.cells #[.slice a ss.length cap, .int .i64 now] 45)) from (Below.refl _ _).alloc (Nat.le_refl _) _)
  have B0 : Hid ((w.alloc (.cells #[.slice a ss.length cap, .int .i64 now] 45)).heap[w.heap.size]? = some (.cells #[.slice a ss.length cap, .int .i64 now] 45 (0, 0))) := Lib.hid (heap_alloc_new w _)
  have Y0 : Hid (w.heap.size < (w.alloc (.cells #[.slice a ss.length cap, .int .i64 now] 45)).heap.size) := Lib.hid (by simp [World.size_alloc])
  clear h hs
  cases hst : storeB ss now with
  | false =>
    have HE := Lib.hid (segRows_no (g := g) (t := t) (fun q => by rw [hst] at q; cases q.1))
    rw [hst] at HI
    rw [HE.out]
    clear hst
    go_enter Try.func41, Try.ntmps41
    go_wp2_with fail
    generalize w.alloc (.cells #[.slice a ss.length cap, .int .i64 now] 45) = W at *
    refine (HI.out W (slR_below tVersionS_law H.out d0.out)).mono ?_
    rintro e w1 ⟨rfl, b1⟩
    have D1 := Lib.hid (d0.out.trans (b1.mono d0.out.size))
    have k0 := (b1.block w.heap.size Y0.out).trans B0.out
    have p0 := (cell_of_row w1 _ 0 _ _ _ k0).trans (show _ = some (Value.slice a ss.length cap) from rfl)
    have p1 := (cell_of_row w1 _ 1 _ _ _ k0).trans (show _ = some (Value.int .i64 now) from rfl)
    clear b1 k0
    go_wp2
    go_ret
    exact ⟨_, rfl, slO_empty w1 76 (since w) D1.out.size, D1.out.alloc D1.out.size _⟩
  | true =>
    have HT := Lib.hid hst
    rw [hst] at HI
    clear hst
    by_cases hg : 0 ≤ g ∧ g ≤ (ss.length : Int) - 1
    · have HE := Lib.hid (segRows_yes (t := t) ⟨HT.out, hg.1, by omega⟩)
      rw [HE.out]
      obtain ⟨k, rfl⟩ := Int.eq_ofNat_of_zero_le hg.1
      have HN := Lib.hid (fun W => in_yes (k : Int) 0 ((ss.length : Int) - 1) W hg.1 hg.2)
      have hlt : k < ss.length := by omega
      have i1 : (0 : Int) ≤ (k : Int) := by omega
      have i2 : (k : Int) < (ss.length : Int) := by omega
      clear hg HE
      show Calls _ _ _ _ (FreshS _ _ _ (rowsV (ss.getD ((k : Int)).toNat []) t))
      rw [Int.toNat_natCast]
      obtain ⟨b, off, cap', cs, hv, hbl, hcs, hR⟩ := slR_at H.out hlt
      simp only [Value.slice.injEq] at hv
      obtain ⟨rfl, _, rfl⟩ := hv
      obtain ⟨u, rfl, hU⟩ := hR
      have pe : w.cell? ⟨b, off + k, none⟩ = some u := by have := hcs 0 Nat.one_pos; rw [show tVersionS.n = 1 from rfl, Nat.mul_one, Nat.add_zero] at this; exact this
      have HU : Hid (SlR tVersion w u (ss.getD k [])) := Lib.hid hU
      have HZ := Lib.hid (Nat.le_trans (zL_seg hlt) HS.out)
      have PE := Lib.hid pe
      have HBL := Lib.hid hbl
      have HUL := Lib.hid (slR_len hU)
      clear hcs hU pe hbl
      change Hid (∃ a cap, u = .slice a (ss.getD k []).length cap) at HUL
      generalize ss.getD k [] = seg at *
      obtain ⟨ua, uc, rfl⟩ := HUL.out
      clear HUL
      go_enter Try.func41, Try.ntmps41
      go_wp2_with fail
      generalize w.alloc (.cells #[.slice (some ⟨b, off, none⟩) ss.length cap, .int .i64 now] 45) = W at *
      refine (HI.out W (slR_below tVersionS_law H.out d0.out)).mono ?_
      rintro e w1 ⟨rfl, b1⟩
      have D1 := Lib.hid (d0.out.trans (b1.mono d0.out.size))
      have k0 := (b1.block w.heap.size Y0.out).trans B0.out
      have p0 := (cell_of_row w1 _ 0 _ _ _ k0).trans (show _ = some (Value.slice (some ⟨b, off, none⟩) ss.length cap) from rfl)
      have p1 := (cell_of_row w1 _ 1 _ _ _ k0).trans (show _ = some (Value.int .i64 now) from rfl)
      clear b1 k0
      go_wp2_with fail
      refine (HN.out _).mono ?_
      rintro e wx ⟨rfl, rfl⟩
      have pe := (D1.out.cell (p := ⟨b, off + k, none⟩) HBL.out).trans PE.out
      go_wp2_with fail
      refine (specL7Rows (.slice ua seg.length uc) seg t wx (slR_below tVersion_law HU.out D1.out) HZ.out).mono ?_
      rintro e w3 ⟨v3, rfl, ho, b3⟩
      have D3 := Lib.hid (D1.out.trans (b3.mono D1.out.size))
      have HO := Lib.hid ho
      clear ho p0 p1 pe
      have hb3 := D1.out.size
      go_wp2
      go_ret
      exact ⟨_, rfl, slO_mono HO.out (fun b hb => Nat.le_trans hb3 hb), D3.out⟩
    · have HE := Lib.hid (segRows_no (ss := ss) (now := now) (t := t) (g := g) (fun q => hg ⟨q.2.1, by have := q.2.2; omega⟩))
      rw [HE.out]
      have HN := Lib.hid (fun W => in_no g 0 ((ss.length : Int) - 1) W hg)
      clear hg
      go_enter Try.func41, Try.ntmps41
      go_wp2_with fail
      generalize w.alloc (.cells #[.slice a ss.length cap, .int .i64 now] 45) = W at *
      refine (HI.out W (slR_below tVersionS_law H.out d0.out)).mono ?_
      rintro e w1 ⟨rfl, b1⟩
      have D1 := Lib.hid (d0.out.trans (b1.mono d0.out.size))
      have k0 := (b1.block w.heap.size Y0.out).trans B0.out
      have p0 := (cell_of_row w1 _ 0 _ _ _ k0).trans (show _ = some (Value.slice a ss.length cap) from rfl)
      have p1 := (cell_of_row w1 _ 1 _ _ _ k0).trans (show _ = some (Value.int .i64 now) from rfl)
      clear b1 k0
      go_wp2_with fail
      refine (HN.out _).mono ?_
      rintro e wx ⟨rfl, rfl⟩
      go_wp2
      go_ret
      exact ⟨_, rfl, slO_empty wx 76 (since w) D1.out.size, D1.out.alloc D1.out.size _⟩
end Go.Proofs.Ytginjmnohnidiaa
namespace Go.Proofs.Ytginjmnohnidiaa
open Go.RowKit
set_option linter.unusedVariables false
set_option linter.unusedSimpArgs false
def tStore : Ty (List (List (Int × List Int × Int × Int)) × Int) := tPair tVersionSS tInt
theorem tStore_law : tStore.Law := tPair_law tVersionSS_law tInt_law
theorem tStore_R {w : World} {cs : List Value} {x0 : List (List (Int × List Int × Int × Int))} {a1 : Int} (h : tStore.R w cs (x0, a1)) : ∃ v0, cs = [v0, .int .i64 a1] ∧ SlR tVersionS w v0 x0 := by
  obtain ⟨_, _, rfl, ⟨v0, rfl, h0⟩, rfl⟩ := h
  exact ⟨_, rfl, h0⟩
theorem tStore_O {w : World} {F : Nat → Prop} {cs : List Value} {x0 : List (List (Int × List Int × Int × Int))} {a1 : Int} (h : tStore.O w F cs (x0, a1)) : ∃ v0, ∃ F0 : Nat → Prop, cs = [v0, .int .i64 a1] ∧ SlO 97 tVersionS w F0 v0 x0 ∧ (∀ b, F0 b → F b) := by
  obtain ⟨_, _, F0_1, F0_2, rfl, ⟨v0, rfl, h0⟩, rfl, s0_1, s0_2, d0⟩ := h
  exact ⟨v0, F0_1, rfl, h0, fun b h => (s0_1 b h)⟩
theorem tStore_mkO {w : World} {F : Nat → Prop} {x0 : List (List (Int × List Int × Int × Int))} {a1 : Int} {v0 : Value} {F0 : Nat → Prop} (h0 : SlO 97 tVersionS w F0 v0 x0) (s0 : ∀ b, F0 b → F b)  : tStore.O w F [v0, .int .i64 a1] (x0, a1) := ⟨[v0], [.int .i64 a1], F0, fun _ => False, rfl, ⟨_, rfl, h0⟩, rfl, (fun b h => s0 b h), (fun b h => (False.elim h)), (fun b h g => (False.elim g))⟩
set_option maxHeartbeats 8000000 in
set_option maxRecDepth 100000 in
theorem szStore_Y (a1 : Int) (v0 : Value) (x0 : List (List (Int × List Int × Int × Int))) (k0 : Int) (w : World) (h0 : SlR tVersionS w v0 x0) (hs : ((zL tVersionS x0 : Nat) : Int) ≤ k0) (hk : k0 ≤ 1048576) :
    Calls Try.prog 30 #[.agg #[v0, .int .i64 a1], .int .i64 k0] w fun e w' => e = .returned (.int .i64 (k0 - ((zL tVersionS x0 : Nat) : Int))) ∧ Below w.heap.size w w' := by
  have H0 := Lib.hid h0
  clear h0
  have HZ0 : Hid (((zL tVersionS x0 : Nat) : Int) ≤ k0) := Lib.hid (by omega)
  have HK0 : Hid (k0 ≤ 1048576) := Lib.hid (by omega)
  have hn0 : ¬ k0 - ((zL tVersionS x0 : Nat) : Int) < 0 := by omega
  clear hs hk
  have hb : Below w.heap.size w (w.alloc (.cells #[v0, .int .i64 a1] 53)) := (Below.refl _ w).alloc (Nat.le_refl _) _
  have g0 : (w.alloc (.cells #[v0, .int .i64 a1] 53)).heap[w.heap.size]? = some (.cells #[v0, .int .i64 a1] 53 (0, 0)) := heap_alloc_new w _
  have hz0 : w.heap.size < (w.alloc (.cells #[v0, .int .i64 a1] 53)).heap.size := by simp
  go_enter Try.func30, Try.ntmps30
  go_wp2_with fail
  generalize (w.alloc (.cells #[v0, .int .i64 a1] 53)) = W at *
  refine (szVersionSS_Y v0 x0 (k0) W (slR_below tVersionS_law H0.out hb) HZ0.out HK0.out).mono ?_
  rintro e W1 ⟨rfl, b1⟩
  replace g0 := (b1.block w.heap.size hz0).trans g0
  replace hz0 := Nat.lt_of_lt_of_le hz0 b1.size
  replace hb := hb.trans (b1.mono hb.size)
  clear b1
  go_wp2
  go_ret
  exact ⟨rfl, hb⟩
set_option maxHeartbeats 8000000 in
set_option maxRecDepth 100000 in
theorem szStore_N (a1 : Int) (v0 : Value) (x0 : List (List (Int × List Int × Int × Int))) (k0 : Int) (w : World) (h0 : SlR tVersionS w v0 x0) (hs : k0 < ((zL tVersionS x0 : Nat) : Int)) (hk : k0 ≤ 1048576) (hp : 0 ≤ k0) (o0 : tVersionSS.ok x0) :
    Calls Try.prog 30 #[.agg #[v0, .int .i64 a1], .int .i64 k0] w fun e w' => e = .returned (.int .i64 (-1)) ∧ Below w.heap.size w w' := by
  have H0 := Lib.hid h0
  clear h0
  have HO0 := Lib.hid o0
  clear o0
  have HZ0 : Hid (k0 < ((zL tVersionS x0 : Nat) : Int)) := Lib.hid (by omega)
  have HP0 : Hid (0 ≤ k0) := Lib.hid (by omega)
  have HK0 : Hid (k0 ≤ 1048576) := Lib.hid (by omega)
  clear hs hk
  clear hp
  have hb : Below w.heap.size w (w.alloc (.cells #[v0, .int .i64 a1] 53)) := (Below.refl _ w).alloc (Nat.le_refl _) _
  have g0 : (w.alloc (.cells #[v0, .int .i64 a1] 53)).heap[w.heap.size]? = some (.cells #[v0, .int .i64 a1] 53 (0, 0)) := heap_alloc_new w _
  have hz0 : w.heap.size < (w.alloc (.cells #[v0, .int .i64 a1] 53)).heap.size := by simp
  go_enter Try.func30, Try.ntmps30
  go_wp2_with fail
  generalize (w.alloc (.cells #[v0, .int .i64 a1] 53)) = W at *
  refine (szVersionSS_N v0 x0 (k0) W (slR_below tVersionS_law H0.out hb) HZ0.out HK0.out HP0.out HO0.out).mono ?_
  rintro e W1 ⟨rfl, b1⟩
  replace g0 := (b1.block w.heap.size hz0).trans g0
  replace hz0 := Nat.lt_of_lt_of_le hz0 b1.size
  replace hb := hb.trans (b1.mono hb.size)
  clear b1
  go_wp2
  go_ret
  exact ⟨rfl, hb⟩
set_option maxHeartbeats 8000000 in
set_option maxRecDepth 100000 in
theorem toStore_T (a1 : Int) (v0 : Value) (x0 : List (List (Int × List Int × Int × Int))) (w : World) (h0 : SlR tVersionS w v0 x0) (s0 : zL tVersionS x0 ≤ 1048576) :
    Calls Try.prog 32 #[.agg #[v0, .int .i64 a1]] w (FreshT tStore (fun cs => .agg cs.toArray) w (x0, a1)) := by
  have H0 := Lib.hid h0
  clear h0
  have S0 := Lib.hid s0
  clear s0
  go_enter Try.func32, Try.ntmps32
  go_wp2_with fail
  have hb : Below w.heap.size w (((w.alloc (.cells #[v0, .int .i64 a1] 53)).alloc (.cells #[.slice none 0 0, .int .i64 0] 45)).alloc (.cells #[.slice none 0 0, .int .i64 0] 45)) := (((Below.refl _ w).alloc (Nat.le_refl _) _).alloc (by simp) _).alloc (by simp; omega) _
  have g2 : (((w.alloc (.cells #[v0, .int .i64 a1] 53)).alloc (.cells #[.slice none 0 0, .int .i64 0] 45)).alloc (.cells #[.slice none 0 0, .int .i64 0] 45)).heap[w.heap.size + 1 + 1]? = some (.cells #[.slice none 0 0, .int .i64 0] 45 (0, 0)) := by
    have := heap_alloc_new ((w.alloc (.cells #[v0, .int .i64 a1] 53)).alloc (.cells #[.slice none 0 0, .int .i64 0] 45)) (.cells #[.slice none 0 0, .int .i64 0] 45)
    simpa only [World.size_alloc] using this
  have g1 : (((w.alloc (.cells #[v0, .int .i64 a1] 53)).alloc (.cells #[.slice none 0 0, .int .i64 0] 45)).alloc (.cells #[.slice none 0 0, .int .i64 0] 45)).heap[w.heap.size + 1]? = some (.cells #[.slice none 0 0, .int .i64 0] 45 (0, 0)) := by
    have := heap_alloc_new (w.alloc (.cells #[v0, .int .i64 a1] 53)) (.cells #[.slice none 0 0, .int .i64 0] 45)
    rw [Below.heap_alloc _ _ _ (by simp)]
    simpa only [World.size_alloc] using this
  have g0 : (((w.alloc (.cells #[v0, .int .i64 a1] 53)).alloc (.cells #[.slice none 0 0, .int .i64 0] 45)).alloc (.cells #[.slice none 0 0, .int .i64 0] 45)).heap[w.heap.size]? = some (.cells #[v0, .int .i64 a1] 53 (0, 0)) := by
    rw [Below.heap_alloc _ _ _ (by simp; omega), Below.heap_alloc _ _ _ (by simp)]
    exact heap_alloc_new w _
  have hz : w.heap.size + 2 < (((w.alloc (.cells #[v0, .int .i64 a1] 53)).alloc (.cells #[.slice none 0 0, .int .i64 0] 45)).alloc (.cells #[.slice none 0 0, .int .i64 0] 45)).heap.size := by simp [World.size_alloc]
  generalize (((w.alloc (.cells #[v0, .int .i64 a1] 53)).alloc (.cells #[.slice none 0 0, .int .i64 0] 45)).alloc (.cells #[.slice none 0 0, .int .i64 0] 45)) = W at *
  refine (toVersionSS_S v0 x0 W (slR_below tVersionS_law H0.out hb) S0.out).mono ?_
  rintro e w1 ⟨u0, rfl, o0, b1⟩
  obtain ⟨ua0, uc0, rfl⟩ := slO_len o0
  replace o0 := slO_mono (slO_lt tVersionS_law o0) (F' := fun b => W.heap.size ≤ b ∧ b < w1.heap.size) (fun b h => h)
  replace g0 := (b1.block _ (by omega)).trans g0
  replace g1 := (b1.block _ (by omega)).trans g1
  replace g2 := (b1.block _ (by omega)).trans g2
  have zz1 := b1.size
  replace hb := hb.trans (b1.mono (by omega))
  clear b1
  have c2_0 := (cell_of_row w1 _ 0 _ _ _ g2).trans (show _ = some (Value.slice none 0 0) from rfl)
  have f2_0 := frozen_of_row w1 _ 0 _ _ g2
  have c2_1 := (cell_of_row w1 _ 1 _ _ _ g2).trans (show _ = some (Value.int .i64 0) from rfl)
  have f2_1 := frozen_of_row w1 _ 1 _ _ g2
  have ne1 : ¬ w.heap.size = w.heap.size + 1 + 1 := by omega
  have ne2 : ¬ w.heap.size + 1 = w.heap.size + 1 + 1 := by omega
  have ne3 : ¬ w.heap.size + 1 + 1 = w.heap.size + 1 := by omega
  have c0_1 := (cell_of_row w1 _ 1 _ _ _ g0).trans (show _ = some (Value.int .i64 a1) from rfl)
  have c1_0 := (cell_of_row w1 _ 0 _ _ _ g1).trans (show _ = some (Value.slice none 0 0) from rfl)
  have f1_0 := frozen_of_row w1 _ 0 _ _ g1
  have c1_1 := (cell_of_row w1 _ 1 _ _ _ g1).trans (show _ = some (Value.int .i64 0) from rfl)
  have f1_1 := frozen_of_row w1 _ 1 _ _ g1
  have l0_1 : (w1.setCell ⟨w.heap.size + 1 + 1, 0, none⟩ (.slice ua0 x0.length uc0)).cell? ⟨w.heap.size, 1, none⟩ = some (Value.int .i64 a1) := by
    have m : (w1.setCell ⟨w.heap.size + 1 + 1, 0, none⟩ (.slice ua0 x0.length uc0)).heap[w.heap.size]? = some (.cells #[v0, .int .i64 a1] 53 (0, 0)) := by
      repeat rw [heap_setCell_other _ _ _ _ (by simp <;> omega)]
      exact g0
    exact (cell_of_row _ _ 1 _ _ _ m).trans rfl
  go_wp2
  clear c2_0 f2_0 c2_1 f2_1 ne1 ne2 ne3 c0_1 c1_0 f1_0 c1_1 f1_1 l0_1
  have hw : Turn (fun b => b = w.heap.size + 1 ∨ b = w.heap.size + 1 + 1) w1 ((((w1.setCell ⟨w.heap.size + 1 + 1, 0, none⟩ (.slice ua0 x0.length uc0)).setCell ⟨w.heap.size + 1 + 1, 1, none⟩ (.int .i64 a1)).setCell ⟨w.heap.size + 1, 0, none⟩ (.slice ua0 x0.length uc0)).setCell ⟨w.heap.size + 1, 1, none⟩ (.int .i64 a1)) := by
    first | exact (((((Turn.refl _ _).trans (turn_set (g := w.heap.size + 1 + 1) (j := 0) (u := .slice ua0 x0.length uc0) (Or.inr rfl))).trans (turn_set (g := w.heap.size + 1 + 1) (j := 1) (u := .int .i64 a1) (Or.inr rfl))).trans (turn_set (g := w.heap.size + 1) (j := 0) (u := .slice ua0 x0.length uc0) (Or.inl rfl))).trans (turn_set (g := w.heap.size + 1) (j := 1) (u := .int .i64 a1) (Or.inl rfl))) | skip
  have r := (heap_setCell_same _ (w.heap.size + 1) 1 _ _ (.int .i64 a1) (heap_setCell_same _ (w.heap.size + 1) 0 _ _ (.slice ua0 x0.length uc0) ((heap_setCell_other _ ⟨w.heap.size + 1 + 1, 1, none⟩ (w.heap.size + 1) (.int .i64 a1) (by simp)).trans ((heap_setCell_other _ ⟨w.heap.size + 1 + 1, 0, none⟩ (w.heap.size + 1) (.slice ua0 x0.length uc0) (by simp)).trans g1))))
  have e0 := cell_of_row _ _ 0 _ _ _ r
  have e1 := cell_of_row _ _ 1 _ _ _ r
  simp at e0 e1
  replace o0 := slO_turn tVersionS_law o0 hw (fun b h1 h2 => by have := h1.1; omega)
  replace hb := below_turn hb hw (fun b h => by omega) (by omega)
  refine bodyPost_ret (v := .agg #[.slice ua0 x0.length uc0, .int .i64 a1]) ?_ rfl ?_
  · simp [results, Try.f32, go_sem, e0, e1]
  · exact ⟨[.slice ua0 x0.length uc0, .int .i64 a1], rfl, tStore_mkO o0 (fun b h => by show w.heap.size ≤ b; have := h.1; omega) , hb⟩
set_option maxHeartbeats 8000000 in
set_option maxRecDepth 100000 in
theorem eqStore_T (a1 : Int) (v0 : Value) (x0 : List (List (Int × List Int × Int × Int))) (u0 : Value) (w : World) (h0 : SlR tVersionS w v0 x0) (g0 : SlR tVersionS w u0 x0) (s0 : zL tVersionS x0 ≤ 1048576) :
    Calls Try.prog 27 #[.agg #[v0, .int .i64 a1], .agg #[u0, .int .i64 a1]] w fun e w' => e = .returned (.bool true) ∧ Below w.heap.size w w' := by
  have H0 := Lib.hid h0; have G0 := Lib.hid g0; have S0 := Lib.hid s0
  clear h0 g0 s0
  have e1 : (a1 != a1) = false := by simp
  go_enter Try.func27, Try.ntmps27
  go_wp2_with fail
  have hb : Below w.heap.size w ((w.alloc (.cells #[v0, .int .i64 a1] 45)).alloc (.cells #[u0, .int .i64 a1] 45)) := ((Below.refl _ w).alloc (Nat.le_refl _) _).alloc (by simp) _
  have g1 : ((w.alloc (.cells #[v0, .int .i64 a1] 45)).alloc (.cells #[u0, .int .i64 a1] 45)).heap[w.heap.size + 1]? = some (.cells #[u0, .int .i64 a1] 45 (0, 0)) := by
    have := heap_alloc_new (w.alloc (.cells #[v0, .int .i64 a1] 45)) (.cells #[u0, .int .i64 a1] 45)
    simpa only [World.size_alloc] using this
  have g0 : ((w.alloc (.cells #[v0, .int .i64 a1] 45)).alloc (.cells #[u0, .int .i64 a1] 45)).heap[w.heap.size]? = some (.cells #[v0, .int .i64 a1] 45 (0, 0)) := by
    rw [Below.heap_alloc _ _ _ (by simp)]
    exact heap_alloc_new w _
  have hz : w.heap.size + 1 < ((w.alloc (.cells #[v0, .int .i64 a1] 45)).alloc (.cells #[u0, .int .i64 a1] 45)).heap.size := by simp [World.size_alloc]
  generalize ((w.alloc (.cells #[v0, .int .i64 a1] 45)).alloc (.cells #[u0, .int .i64 a1] 45)) = W at *
  refine (eqVersionSS_S v0 u0 x0 W (slR_below tVersionS_law H0.out hb) (slR_below tVersionS_law G0.out hb) S0.out).mono ?_
  rintro e w1 ⟨rfl, b1⟩
  replace g0 := (b1.block _ (by omega)).trans g0
  replace g1 := (b1.block _ (by omega)).trans g1
  have zz0 := b1.size
  replace hb := hb.trans (b1.mono (by omega))
  clear b1
  have p0_1 := (cell_of_row w1 _ 1 _ _ _ g0).trans (show _ = some (Value.int .i64 a1) from rfl)
  have p1_1 := (cell_of_row w1 _ 1 _ _ _ g1).trans (show _ = some (Value.int .i64 a1) from rfl)
  go_wp2
  clear p0_1 p1_1
  go_ret
  exact ⟨rfl, hb⟩
set_option maxHeartbeats 8000000 in
set_option maxRecDepth 100000 in
theorem markStore_T (a1 : Int) (v0 : Value) (x0 : List (List (Int × List Int × Int × Int))) (F F0 : Nat → Prop) (k : Int) (w : World) (h0 : SlO 97 tVersionS w F0 v0 x0) (q0 : ∀ b, F0 b → F b)  (s0 : zL tVersionS x0 ≤ 1048576) (k0 : 0 ≤ k) (k1 : k ≤ 536870912) :
    Calls Try.prog 28 #[.agg #[v0, .int .i64 a1], .int .i64 k] w fun e w' => e = .returned (.int .i64 (k + (ndL tVersionS x0 : Int))) ∧ (SlO 97 tVersionS w' F0 v0 (mAll tVersionS x0 (k))) ∧ Turn F w w' := by
  have S0 := Lib.hid s0
  have N0 := ndL_le tVersionS_law (by decide) x0
  have R0 : Hid (0 ≤ k ∧ k ≤ 939524096) := Lib.hid (by omega)
  have RE : Hid (0 ≤ k + (ndL tVersionS x0 : Int)) := Lib.hid (by omega)
  clear N0
  have O0 := Lib.hid (slO_lt tVersionS_law h0)
  clear h0 s0
  go_enter Try.func28, Try.ntmps28
  go_wp2_with fail
  have hb : Below w.heap.size w (w.alloc (.cells #[v0, .int .i64 a1] 45)) := (Below.refl _ w).alloc (Nat.le_refl _) _
  have g0 : (w.alloc (.cells #[v0, .int .i64 a1] 45)).heap[w.heap.size]? = some (.cells #[v0, .int .i64 a1] 45 (0, 0)) := heap_alloc_new w _
  have hz : w.heap.size < (w.alloc (.cells #[v0, .int .i64 a1] 45)).heap.size := by simp [World.size_alloc]
  have ht : Turn F w (w.alloc (.cells #[v0, .int .i64 a1] 45)) := turn_below hb
  replace O0 := Lib.hid (slO_fresh tVersionS_law O0.out hb)
  generalize (w.alloc (.cells #[v0, .int .i64 a1] 45)) = W at *
  refine (markVersionSS_S v0 x0 _ (k) W O0.out S0.out R0.out.1 R0.out.2).mono ?_
  rintro e w1 ⟨rfl, m0, t1⟩
  replace g0 := (t1.block _ hz (fun h => absurd h.2 (Nat.lt_irrefl _))).trans g0
  have zz0 := t1.size
  replace hz := Nat.lt_of_lt_of_le hz t1.size
  replace ht := ht.trans (t1.mono (fun b h => q0 b h.1))
  replace O0 := Lib.hid m0
  clear m0 t1
  go_wp2
  go_ret
  exact ⟨rfl, slO_mono O0.out (fun b h => h.1), ht⟩
end Go.Proofs.Ytginjmnohnidiaa
namespace Go.Proofs.Ytginjmnohnidiaa
open Go.RowKit
set_option linter.unusedVariables false
set_option linter.unusedSimpArgs false
def newP (rs : List RowD) (g : Int) : Prop := areB rs = true ∧ (1 ≤ g ∧ g ≤ 8) ∧ (rs.length : Int) ≤ 4 * g
instance (rs : List RowD) (g : Int) : Decidable (newP rs g) := by unfold newP; infer_instance
end Go.Proofs.Ytginjmnohnidiaa
namespace Go.Proofs.Ytginjmnohnidiaa
open Go.RowKit
set_option linter.unusedVariables false
set_option linter.unusedSimpArgs false
end Go.Proofs.Ytginjmnohnidiaa
namespace Go.Proofs.Ytginjmnohnidiaa
open Go.RowKit
set_option linter.unusedVariables false
set_option linter.unusedSimpArgs false
end Go.Proofs.Ytginjmnohnidiaa
namespace Go.Proofs.Ytginjmnohnidiaa
open Go.RowKit
set_option linter.unusedVariables false
set_option linter.unusedSimpArgs false
theorem rowB_three {r : RowD} (h : rowB r = true) : r.2.length = 3 := by
  unfold rowB at h
  rw [Bool.and_eq_true, Bool.and_eq_true] at h
  exact of_decide_eq_true h.2.2
theorem verB_three {v : VerD} {now : Int} (h : verB v now = true) : v.2.1.length = 3 := by
  unfold verB at h
  rw [Bool.and_eq_true] at h
  exact rowB_three h.1
theorem sum_le_mul {c : Nat} : ∀ {l : List Nat}, (∀ x ∈ l, x ≤ c) → l.sum ≤ c * l.length
  | [], _ => by simp
  | x :: l, h => by
    have h1 := h x (by simp)
    have h2 := sum_le_mul (l := l) (c := c) (fun y hy => h y (by simp [hy]))
    simp only [List.sum_cons, List.length_cons, Nat.mul_add, Nat.mul_one]
    omega
theorem zL_threes {l : List VerD} (h : ∀ j, j < l.length → (l.getD j v0D).2.1.length ≤ 3) : zL tVersion l ≤ 4 * l.length := by
  rw [zL_sum]
  have := sum_le_mul (c := 3) (l := l.map tVersion.sz) (fun x hx => by
    obtain ⟨v, hv, rfl⟩ := List.mem_map.1 hx
    obtain ⟨j, hj, rfl⟩ := List.getElem_of_mem hv
    rw [ver_sz]
    have := h j hj
    simpa [List.getD, hj] using this)
  rw [List.length_map] at this
  omega
theorem flat_short {ss : List (List VerD)} (h : ShortP ss ss.length) : ss.flatten.length ≤ 4 * ss.length := by
  rw [List.length_flatten]
  have := sum_le_mul (c := 4) (l := ss.map List.length) (fun x hx => by
    obtain ⟨s, hs, rfl⟩ := List.mem_map.1 hx
    obtain ⟨j, hj, rfl⟩ := List.getElem_of_mem hs
    have := h j hj
    simpa [List.getD, hj] using this)
  rw [List.length_map] at this
  exact this
theorem store_small {ss : List (List VerD)} {now : Int} (h : storeB ss now = true) : zL tVersionS ss ≤ 136 := by
  obtain ⟨⟨h1, _⟩, h2, h3⟩ := store_iff h
  have g1 := flat_short h2
  have g2 := zL_threes (l := ss.flatten) (fun j hj => Nat.le_of_eq (verB_three (h3 j hj).1))
  have g3 := zL_all ss
  omega
theorem zL_sort (rs : List RowD) : zL tRow (sortL rs) = zL tRow rs := by
  rw [zL_sum, zL_sum, (sortL_perm rs).length_eq, ((sortL_perm rs).map tRow.sz).sum_nat]
theorem rowsAt_size (ss : List (List VerD)) (now t : Int) : zL tRow (rowsAtL ss now t) ≤ 1048576 := by
  cases h : storeB ss now with
  | false => rw [rowsAt_no h]; exact Nat.zero_le _
  | true =>
    rw [rowsAt_yes h, zL_sort]
    have h1 := zL_rowsV ss.flatten t
    have h2 := zL_all ss
    have h3 := store_small h
    omega
theorem segRows_size (ss : List (List VerD)) (now g t : Int) : zL tRow (segRowsL ss now g t) ≤ 1048576 := by
  by_cases h : storeB ss now = true ∧ 0 ≤ g ∧ g < ss.length
  · rw [segRows_yes h]
    have h1 := zL_rowsV (ss.getD g.toNat []) t
    have h2 := zL_seg (ss := ss) (k := g.toNat) (by have := h.2; omega)
    have h3 := store_small h.1
    omega
  · rw [segRows_no h]; exact Nat.zero_le _
/-- An answer in new memory, in the laws' words. -/
theorem fitS {t : TypeId} {α : Type} {T : Ty α} {f : Nat} {args : Array Value} {w : World} {xs : List α} (h : Calls Try.prog f args w (FreshS t T w xs)) :
    Calls Try.prog f args w (fun e w' => ∃ (g0 : Value) (G0 : Nat → Prop), e = .returned g0 ∧ SlO t T w' G0 g0 xs ∧ (∀ b, G0 b → w.heap.size ≤ b) ∧ Below w.heap.size w w') :=
  h.mono (by
    rintro e w' ⟨v, he, ho, hb⟩
    exact ⟨v, since w, he, ho, fun b hb => hb, hb⟩)
end Go.Proofs.Ytginjmnohnidiaa
namespace Go.Proofs.Ytginjmnohnidiaa
open Go.RowKit
set_option linter.unusedVariables false
set_option linter.unusedSimpArgs false
/-- The record of a row. -/
def recV (id : Int) (xs : List Int) : Value := .agg #[.int .i64 id, .int .i64 xs.length, .int .i64 (xs.getD 0 0), .int .i64 (xs.getD 1 0), .int .i64 (xs.getD 2 0)]
theorem info_size {P : Program} {e : TypeId} {z : Option Value} {n b : Nat} (h : (P.info? e).map (fun i => (i.zero, i.size, i.bytes)) = some (z, n, b)) : (P.info? e).map (·.size) = some n := by
  cases hq : P.info? e with
  | none => rw [hq] at h; simp at h
  | some i => rw [hq] at h; simp at h; simp [h.2.1]
theorem copy_src {w : World} {a : Option Addr} {cap g : Nat} {xs : List Int} (h : Ints w (.slice a xs.length cap) xs) : 0 < ((xs.take 3).map (Value.int .i64)).length → (some ⟨g, 2, none⟩ : Option Addr) = some ⟨g, 2, none⟩ ∧ ∃ ad, a = some ad ∧ ∀ j v, ((xs.take 3).map (Value.int .i64))[j]? = some v → w.cell? (ad.add j) = some v := by
  intro h0
  refine ⟨rfl, ?_⟩
  rcases h with ⟨rfl, _⟩ | ⟨b, off, cap', e, _, _, hc⟩
  · simp at h0
  · simp only [Value.slice.injEq] at e
    obtain ⟨rfl, _, _⟩ := e
    refine ⟨_, rfl, fun j v hj => ?_⟩
    rw [Go.WideShapes.add_plain]
    rw [List.getElem?_map, List.getElem?_take] at hj
    by_cases hlt : j < 3
    · rw [if_pos hlt] at hj
      by_cases hl : j < xs.length
      · rw [hc j hl]
        rw [List.getElem?_eq_getElem hl] at hj
        simpa [List.getD, hl] using hj
      · rw [List.getElem?_eq_none (by omega)] at hj
        simp at hj
    · rw [if_neg hlt] at hj
      simp at hj
theorem splice_rec (a b : Value) (xs : List Int) : splice [a, b, .int .i64 0, .int .i64 0, .int .i64 0] 2 ((xs.take 3).map (Value.int .i64)) = [a, b, .int .i64 (xs.getD 0 0), .int .i64 (xs.getD 1 0), .int .i64 (xs.getD 2 0)] := by
  match xs with
  | [] => rfl
  | [x] => rfl
  | [x, y] => rfl
  | x :: y :: z :: r => rfl
set_option maxHeartbeats 4000000 in
set_option maxRecDepth 100000 in
theorem recordOf_any (id : Int) (vv : Value) (xs : List Int) (w : World) (h : Ints w vv xs) (hn : xs.length ≤ 1048576) :
    Calls Try.prog 135 #[.agg #[.int .i64 id, vv]] w fun e w' => e = .returned (recV id xs) ∧ Below w.heap.size w w' := by
  have H := Lib.hid h
  have HN := Lib.hid hn
  obtain ⟨va, vcap, rfl⟩ := ints_len h
  clear h hn
  go_enter Try.func135, Try.ntmps135
  go_wp2
  have hh : Below w.heap.size w (((w.alloc (.cells #[.int .i64 id, .slice va xs.length vcap] 76)).alloc (.cells #[.int .i64 0, .int .i64 0, .int .i64 0, .int .i64 0, .int .i64 0] 157)).alloc (.cells #[.int .i64 id, .int .i64 xs.length, .int .i64 0, .int .i64 0, .int .i64 0] 157)) := (((Below.refl _ w).alloc (Nat.le_refl _) _).alloc (by simp) _).alloc (by simp; omega) _
  have g2 : (((w.alloc (.cells #[.int .i64 id, .slice va xs.length vcap] 76)).alloc (.cells #[.int .i64 0, .int .i64 0, .int .i64 0, .int .i64 0, .int .i64 0] 157)).alloc (.cells #[.int .i64 id, .int .i64 xs.length, .int .i64 0, .int .i64 0, .int .i64 0] 157)).heap[w.heap.size + 2]? = some (.cells #[.int .i64 id, .int .i64 xs.length, .int .i64 0, .int .i64 0, .int .i64 0] 157 (0, 0)) := by
    have := heap_alloc_new ((w.alloc (.cells #[.int .i64 id, .slice va xs.length vcap] 76)).alloc (.cells #[.int .i64 0, .int .i64 0, .int .i64 0, .int .i64 0, .int .i64 0] 157)) (.cells #[.int .i64 id, .int .i64 xs.length, .int .i64 0, .int .i64 0, .int .i64 0] 157)
    simpa only [World.size_alloc] using this
  have g1 : (((w.alloc (.cells #[.int .i64 id, .slice va xs.length vcap] 76)).alloc (.cells #[.int .i64 0, .int .i64 0, .int .i64 0, .int .i64 0, .int .i64 0] 157)).alloc (.cells #[.int .i64 id, .int .i64 xs.length, .int .i64 0, .int .i64 0, .int .i64 0] 157)).heap[w.heap.size + 1]? = some (.cells #[.int .i64 0, .int .i64 0, .int .i64 0, .int .i64 0, .int .i64 0] 157 (0, 0)) := by
    rw [Below.heap_alloc _ _ _ (by simp)]
    have := heap_alloc_new (w.alloc (.cells #[.int .i64 id, .slice va xs.length vcap] 76)) (.cells #[.int .i64 0, .int .i64 0, .int .i64 0, .int .i64 0, .int .i64 0] 157)
    simpa only [World.size_alloc] using this
  have g0 : (((w.alloc (.cells #[.int .i64 id, .slice va xs.length vcap] 76)).alloc (.cells #[.int .i64 0, .int .i64 0, .int .i64 0, .int .i64 0, .int .i64 0] 157)).alloc (.cells #[.int .i64 id, .int .i64 xs.length, .int .i64 0, .int .i64 0, .int .i64 0] 157)).heap[w.heap.size]? = some (.cells #[.int .i64 id, .slice va xs.length vcap] 76 (0, 0)) := by
    rw [Below.heap_alloc _ _ _ (by simp; omega), Below.heap_alloc _ _ _ (by simp)]
    exact heap_alloc_new w _
  have hs : (((w.alloc (.cells #[.int .i64 id, .slice va xs.length vcap] 76)).alloc (.cells #[.int .i64 0, .int .i64 0, .int .i64 0, .int .i64 0, .int .i64 0] 157)).alloc (.cells #[.int .i64 id, .int .i64 xs.length, .int .i64 0, .int .i64 0, .int .i64 0] 157)).heap.size = w.heap.size + 3 := by simp [World.size_alloc]
  generalize (((w.alloc (.cells #[.int .i64 id, .slice va xs.length vcap] 76)).alloc (.cells #[.int .i64 0, .int .i64 0, .int .i64 0, .int .i64 0, .int .i64 0] 157)).alloc (.cells #[.int .i64 id, .int .i64 xs.length, .int .i64 0, .int .i64 0, .int .i64 0] 157)) = W at *
  have b0 := cell_of_row W _ 1 _ _ _ g0
  simp at b0
  have I2 := ints_below H.out hh
  refine wp_region_held_drew (S := fun w' => w'.cell? ⟨w.heap.size, 1, none⟩ = some (.slice va xs.length vcap)) (by kernel_rfl) b0 (fun hHeld => ?_)
  refine take_runs (i := 0) (v := ?_) (by simp only [List.getElem?_toArray, List.getElem?_cons_succ, List.getElem?_cons_zero]; rfl) (by kernel_rfl) (by kernel_rfl) (by kernel_rfl) rfl (by exact fun _ _ _ h => h) (by rfl) ?_ (by assumption) ?_
  rotate_left
  · intro w hSw; (try dsimp only at hSw); go_simp; try (with_reducible rfl)
  try simp only [Act.put, List.setIfInBounds_toArray, List.set_cons_zero, List.set_cons_succ]
  refine take_runs (i := 1) (v := ?_) (by simp only [List.getElem?_toArray, List.getElem?_cons_succ, List.getElem?_cons_zero]; rfl) (by kernel_rfl) (by kernel_rfl) (by kernel_rfl) rfl (by exact fun _ _ _ h => h) (by rfl) ?_ (by assumption) ?_
  rotate_left
  · intro w hSw; (try dsimp only at hSw); go_simp; try (with_reducible rfl)
  try simp only [Act.put, List.setIfInBounds_toArray, List.set_cons_zero, List.set_cons_succ]
  refine take_runs (i := 2) (v := ?_) (by simp only [List.getElem?_toArray, List.getElem?_cons_succ, List.getElem?_cons_zero]; rfl) (by kernel_rfl) (by kernel_rfl) (by kernel_rfl) rfl (by exact fun _ _ _ h => h) (by rfl) ?_ (by assumption) ?_
  rotate_left
  · intro w hSw; (try dsimp only at hSw); go_simp; try (with_reducible rfl)
  try simp only [Act.put, List.setIfInBounds_toArray, List.set_cons_zero, List.set_cons_succ]
  refine take_runs (i := 3) (v := ?_) (by simp only [List.getElem?_toArray, List.getElem?_cons_succ, List.getElem?_cons_zero]; rfl) (by kernel_rfl) (by kernel_rfl) (by kernel_rfl) rfl (by exact fun _ _ _ h => h) (by rfl) ?_ (by assumption) ?_
  rotate_left
  · intro w hSw; (try dsimp only at hSw); go_simp; try (with_reducible rfl)
  try simp only [Act.put, List.setIfInBounds_toArray, List.set_cons_zero, List.set_cons_succ]
  refine wpAnyH_ready (rs := [4]) (by kernel_rfl) (by simp) ?_
  refine AllReadyH.cons (o := _) (by simp only [List.getElem?_toArray, List.getElem?_cons_succ, List.getElem?_cons_zero]; rfl) (fun K hK => ?_) AllReadyH.nil
  refine step_copy_splice rfl (.tmp 11) (.tmp 13) 31 31 rfl 3 Try.underlying31 (info_size Try.infoI64) _ _ _ _ _ _ rfl rfl (w.heap.size + 2) 2 [.int .i64 id, .int .i64 xs.length, .int .i64 0, .int .i64 0, .int .i64 0] _ g2 ((xs.take 3).map (Value.int .i64)) (by simp [Nat.min_comm]) (copy_src I2) (by simp; omega) (fun u hu => by obtain ⟨y, _, rfl⟩ := List.mem_map.1 hu; rfl) (w.heap.size + 2) W (below_drew (Below.refl _ W)) (Nat.le_refl _) ?_
  intro W2 G2 bA
  rw [splice_rec] at G2
  have k0 := (bA.block w.heap.size (by omega)).trans g0
  have b1 := cell_of_row W2 _ 1 _ _ _ k0
  simp at b1
  refine hK.out _ _ b1 (fun hHeld2 => ?_)
  clear hK K hHeld
  try simp only [Act.put, List.setIfInBounds_toArray, List.set_cons_zero, List.set_cons_succ]
  refine wpAnyH_done (by kernel_rfl) ?_ _
  have k1 := (bA.block (w.heap.size + 1) (by omega)).trans g1
  have k2 := G2.out
  have hbb := hh.trans (bA.mono (by omega))
  clear G2 bA g0 g1 g2 I2 hHeld2 b0 b1 k0 hh hs
  obtain ⟨n, hn2⟩ : ∃ n : Nat, n = xs.length := ⟨_, rfl⟩
  have c0 := cell_of_row W2 _ 0 _ _ _ k2
  have d0 := cell_of_row W2 _ 0 _ _ _ k1
  have f0 := frozen_of_row W2 _ 0 _ _ k1
  have c1 := cell_of_row W2 _ 1 _ _ _ k2
  have d1 := cell_of_row W2 _ 1 _ _ _ k1
  have f1 := frozen_of_row W2 _ 1 _ _ k1
  have c2 := cell_of_row W2 _ 2 _ _ _ k2
  have d2 := cell_of_row W2 _ 2 _ _ _ k1
  have f2 := frozen_of_row W2 _ 2 _ _ k1
  have c3 := cell_of_row W2 _ 3 _ _ _ k2
  have d3 := cell_of_row W2 _ 3 _ _ _ k1
  have f3 := frozen_of_row W2 _ 3 _ _ k1
  have c4 := cell_of_row W2 _ 4 _ _ _ k2
  have d4 := cell_of_row W2 _ 4 _ _ _ k1
  have f4 := frozen_of_row W2 _ 4 _ _ k1
  simp at c0 c1 c2 c3 c4 d0 d1 d2 d3 d4
  clear k2 hn2
  generalize hx0 : xs[0]?.getD 0 = x0 at c2
  generalize hx1 : xs[1]?.getD 0 = x1 at c3
  generalize hx2 : xs[2]?.getD 0 = x2 at c4
  have HX := Lib.hid (And.intro hx0 (And.intro hx1 hx2))
  clear hx0 hx1 hx2
  go_wp2
  have r0 := heap_setCell_same W2 (w.heap.size + 1) 0 _ _ (.int .i64 id) k1
  have r1 := heap_setCell_same _ (w.heap.size + 1) 1 _ _ (.int .i64 xs.length) r0
  have r2 := heap_setCell_same _ (w.heap.size + 1) 2 _ _ (.int .i64 x0) r1
  have r3 := heap_setCell_same _ (w.heap.size + 1) 3 _ _ (.int .i64 x1) r2
  have r4 := heap_setCell_same _ (w.heap.size + 1) 4 _ _ (.int .i64 x2) r3
  have B4 := (((((hbb.setCell (p := ⟨w.heap.size + 1, 0, none⟩) (by simp) (.int .i64 id)).setCell (p := ⟨w.heap.size + 1, 1, none⟩) (by simp) (.int .i64 xs.length)).setCell (p := ⟨w.heap.size + 1, 2, none⟩) (by simp) (.int .i64 x0)).setCell (p := ⟨w.heap.size + 1, 3, none⟩) (by simp) (.int .i64 x1)).setCell (p := ⟨w.heap.size + 1, 4, none⟩) (by simp) (.int .i64 x2))
  clear r0 r1 r2 r3 k1
  have e0 := cell_of_row _ _ 0 _ _ _ r4
  have e1 := cell_of_row _ _ 1 _ _ _ r4
  have e2 := cell_of_row _ _ 2 _ _ _ r4
  have e3 := cell_of_row _ _ 3 _ _ _ r4
  have e4 := cell_of_row _ _ 4 _ _ _ r4
  simp at e0 e1 e2 e3 e4
  clear r4
  refine bodyPost_ret (v := .agg #[.int .i64 id, .int .i64 xs.length, .int .i64 x0, .int .i64 x1, .int .i64 x2]) ?_ rfl ?_
  · simp [results, Try.f135, go_sem, e0, e1, e2, e3, e4]
  · obtain ⟨rfl, rfl, rfl⟩ := HX.out
    exact ⟨by simp [recV], B4⟩
end Go.Proofs.Ytginjmnohnidiaa
namespace Go.Proofs.Ytginjmnohnidiaa
open Go.RowKit
set_option linter.unusedVariables false
set_option linter.unusedSimpArgs false
/-- A value moved into the range. -/
def limI (x : Int) : Int := min (max x 0) 99
theorem idx0 (a b c : Int) (w : World) : Sem.run Try.prog (Instr.index 155 (.agg #[.int .i64 a, .int .i64 b, .int .i64 c]) (.int .i64 0)) w = .ok (.int .i64 a) w := by
  have u := Try.underlying155
  have z := Try.sizeOf3
  have g := Try.isAgg3
  unfold Instr.index
  go_simp
theorem idx1 (a b c : Int) (w : World) : Sem.run Try.prog (Instr.index 155 (.agg #[.int .i64 a, .int .i64 b, .int .i64 c]) (.int .i64 1)) w = .ok (.int .i64 b) w := by
  have u := Try.underlying155
  have z := Try.sizeOf3
  have g := Try.isAgg3
  unfold Instr.index
  go_simp
theorem idx2 (a b c : Int) (w : World) : Sem.run Try.prog (Instr.index 155 (.agg #[.int .i64 a, .int .i64 b, .int .i64 c]) (.int .i64 2)) w = .ok (.int .i64 c) w := by
  have u := Try.underlying155
  have z := Try.sizeOf3
  have g := Try.isAgg3
  unfold Instr.index
  go_simp
set_option maxHeartbeats 4000000 in
set_option maxRecDepth 100000 in
theorem limited_any (a b c : Int) (w : World) :
    Calls Try.prog 147 #[.agg #[.int .i64 a, .int .i64 b, .int .i64 c]] w fun e w' => e = .returned (.agg #[.int .i64 (limI a), .int .i64 (limI b), .int .i64 (limI c)]) ∧ Below w.heap.size w w' := by
  have i0 := idx0 a b c
  have i1 := idx1 a b c
  have i2 := idx2 a b c
  go_enter Try.func147, Try.ntmps147
  go_wp2
  refine wp_loop_rounds 4 ?_
  rw [rounds_succ]
  go_wp2
  rw [rounds_succ]
  go_wp2
  rw [rounds_succ]
  go_wp2
  rw [rounds_succ]
  go_wp2
  refine bodyPost_ret (v := .agg #[.int .i64 (limI a), .int .i64 (limI b), .int .i64 (limI c)]) ?_ rfl ?_
  · simp [results, Try.f147, go_sem, limI]
  refine ⟨rfl, ?_⟩
  exact ((Below.refl _ w).alloc (Nat.le_refl _) _).alloc (by simp) _
end Go.Proofs.Ytginjmnohnidiaa
namespace Go.Proofs.Ytginjmnohnidiaa
open Go.RowKit
set_option linter.unusedVariables false
set_option linter.unusedSimpArgs false
theorem eqIn_arr (d : Nat) (a b c x y z : Int) (w : World) : (Op.equalIn (d + 2) 155 (.agg #[.int .i64 a, .int .i64 b, .int .i64 c]) (.agg #[.int .i64 x, .int .i64 y, .int .i64 z])).run Try.prog w = .ok (a == x && b == y && c == z) w := by
  have u := Try.underlying155
  have u3 := Try.underlying3
  have z3 := Try.sizeOf3
  have g := Try.isAgg3
  rw [Op.equalIn]
  simp only [Sem.run_bind, run_underlying u, Result.andThen_ok, z3]
  simp only [Std.Legacy.Range.forIn_eq_forIn_range', Std.Legacy.Range.size]
  simp [List.range', g, z3, go_sem, run_equalIn_int (P := Try.prog) _ d _ _ _ _ _ u3]
  by_cases h1 : a = x <;> by_cases h2 : b = y <;> by_cases h3 : c = z <;> simp [h1, h2, h3]
theorem eql_arr (a b c x y z : Int) (w : World) : Sem.run Try.prog (binOp .eql 155 (.agg #[.int .i64 a, .int .i64 b, .int .i64 c]) (.agg #[.int .i64 x, .int .i64 y, .int .i64 z])) w = .ok (.bool (a == x && b == y && c == z)) w := by
  rw [run_eql_struct, show (10000 : Nat) = 9998 + 2 from rfl, eqIn_arr]
  rfl
theorem guard_arr (o1 o2 : Operand) (xs ys : Array Value) (w : World) : Sem.run Try.prog (eqGuard .eql 155 o1 o2 (.agg xs) (.agg ys)) w = .ok () w := run_eqGuard_agg w _ _ _ _ _ _ (by kernel_rfl)
end Go.Proofs.Ytginjmnohnidiaa
