/-
 Texts of the proof, merged: VerBr, VerP1, VerSpec1, VerSpec2, VerSpec3, VerSpec4, RowInsM, RowSort, VerSpec5, NewMath.
-/
import Derived.Test.YtdhglmoanpkeoaaEQ1
import Derived.Test.YtdhglmoanpkeoaaEQ2
import Derived.Test.YtdhglmoanpkeoaaEQ3
import Derived.Test.YtdhglmoanpkeoaaEQ5
import Derived.Test.YtdhglmoanpkeoaaEQ6
import Derived.Lib.MinMax
namespace Go.Proofs.Ytdhglmoanpkeoaa
open Go.RowKit
set_option linter.unusedVariables false
set_option linter.unusedSimpArgs false
theorem verR_at {w : World} {v : Value} {l : List VerD} (h : SlR tVersion w v l) {k : Nat} (hk : k < l.length) :
  ∃ (b off cap : Nat) (a : Option Addr) (c : Nat), v = .slice (some ⟨b, off, none⟩) l.length cap ∧ b < w.heap.size ∧
   w.cell? ⟨b, off + k * 4, none⟩ = some (.int .i64 (l.getD k v0D).1) ∧ w.cell? ⟨b, off + k * 4 + 1, none⟩ = some (.slice a (l.getD k v0D).2.1.length c) ∧
   w.cell? ⟨b, off + k * 4 + 2, none⟩ = some (.int .i64 (l.getD k v0D).2.2.1) ∧ w.cell? ⟨b, off + k * 4 + 3, none⟩ = some (.int .i64 (l.getD k v0D).2.2.2) ∧
   Ints w (.slice a (l.getD k v0D).2.1.length c) (l.getD k v0D).2.1 := by
 obtain ⟨b, off, cap, cs, hv, hb, hc, hR⟩ := slR_at h hk
 change tVersion.R w cs (l.getD k v0D) at hR
 generalize l.getD k v0D = r at *
 obtain ⟨i, xs, bo, di⟩ := r
 obtain ⟨v1, rfl, h1⟩ := tVersion_R hR
 obtain ⟨a, c, rfl⟩ := slR_len h1
 exact ⟨b, off, cap, a, c, hv, hb, hc 0 (by decide), hc 1 (by decide), hc 2 (by decide), hc 3 (by decide), slR_ints h1⟩
theorem ver_sz (v : VerD) : tVersion.sz v = v.2.1.length := by
 obtain ⟨i, xs, bo, di⟩ := v
 rw [tVersion_sz, zL_ints]
theorem zL_seg {ss : List (List VerD)} {k : Nat} (hk : k < ss.length) : zL tVersion (ss.getD k []) ≤ zL tVersionS ss := zL_at (T := tVersionS) (Nat.le_refl _) hk
theorem ver_len {l : List VerD} (hs : zL tVersion l ≤ 1048576) {k : Nat} (hk : k < l.length) : (l.getD k v0D).2.1.length ≤ 1048576 := by
 have := zL_at (T := tVersion) hs hk
 rw [ver_sz] at this
 exact this
set_option maxHeartbeats 4000000 in
set_option maxRecDepth 100000 in
theorem verRow_any (id born died : Int) (va : Option Addr) (n vc : Nat) (w : World) :
  Calls Try.prog 88 #[.agg #[.int .i64 id, .slice va n vc, .int .i64 born, .int .i64 died]] w fun e w' => e = .returned (.agg #[.int .i64 id, .slice va n vc]) ∧ Below w.heap.size w w' := by
 have d0 := Lib.hid (show Below w.heap.size w ((w.alloc (.cells #[.int .i64 id, .slice va n vc, .int .i64 born, .int .i64 died] 115)).alloc (.cells #[.int .i64 id, .slice va n vc] 73)) from ((Below.refl _ w).alloc (Nat.le_refl _) _).alloc (by simp) _)
 have k1 : ((w.alloc (.cells #[.int .i64 id, .slice va n vc, .int .i64 born, .int .i64 died] 115)).alloc (.cells #[.int .i64 id, .slice va n vc] 73)).heap[w.heap.size + 1]? = some (.cells #[.int .i64 id, .slice va n vc] 73 (0, 0)) := by
  have := heap_alloc_new (w.alloc (.cells #[.int .i64 id, .slice va n vc, .int .i64 born, .int .i64 died] 115)) (.cells #[.int .i64 id, .slice va n vc] 73)
  simpa only [World.size_alloc] using this
 have e0 := cell_of_row _ _ 0 _ _ _ k1
 have e1 := cell_of_row _ _ 1 _ _ _ k1
 simp at e0 e1
 have E0 := Lib.hid e0
 have E1 := Lib.hid e1
 clear k1 e0 e1
 go_enter Try.func88, Try.ntmps88
 go_wp2
 refine bodyPost_ret (v := .agg #[.int .i64 id, .slice va n vc]) ?_ rfl ?_
 ·
  have e0 := E0.out
  have e1 := E1.out
  simp [results, Try.f88, go_sem, e0, e1]
 ·
  exact ⟨rfl, d0.out⟩
theorem vers_ne_at {l m : List VerD} {k : Nat} (h : ¬ l.getD k v0D = m.getD k v0D) : ¬ l = m := fun e => h (by rw [e])
theorem vers_eq_all {l m : List VerD} (hl : l.length = m.length) (h : ∀ j, j < l.length → l.getD j v0D = m.getD j v0D) : l = m := by
 apply List.ext_getElem hl
 intro i h1 h2
 have := h i h1
 simpa [List.getD, h1, h2] using this
set_option maxHeartbeats 8000000 in
set_option maxRecDepth 100000 in
theorem specL7Same (v u : Value) (l m : List VerD) (w : World) (h : SlR tVersion w v l) (g : SlR tVersion w u m) (hs : zL tVersion l ≤ 1048576) (ht : zL tVersion m ≤ 1048576) :
  Calls Try.prog 111 #[v, u] w fun e w' => e = .returned (.bool (decide (l = m))) ∧ Below w.heap.size w w' := by
 have H := Lib.hid h
 have G := Lib.hid g
 have HS := Lib.hid hs
 have HT := Lib.hid ht
 have hlen := zL_len hs
 obtain ⟨a, cap, rfl⟩ := slR_len h
 obtain ⟨a2, cap2, rfl⟩ := slR_len g
 clear h g hs ht
 by_cases hl : l.length = m.length
 ·
  have HL := Lib.hid hl
  have hne : ((l.length : Int) != (m.length : Int)) = false := by rw [hl]; simp
  clear hl
  go_enter Try.func111, Try.ntmps111
  go_wp2
  clear hne
  go_loopw [5] (fun i wr => ∃ k : Nat, k ≤ l.length ∧ i = .int .i64 k ∧ Hid (∀ j, j < k → l.getD j v0D = m.getD j v0D) ∧ Below w.heap.size w wr) (fun i _ => l.length - (intOf i).toNat)
  case atStart => exact ⟨0, Nat.zero_le _, rfl, Lib.hid (fun j hj => by omega), Below.refl _ _⟩
  case round =>
   obtain ⟨k, hk, rfl, hall, hbel⟩ := hrel
   by_cases hlt : k < l.length
   ·
    have hlt2 : k < m.length := by have := HL.out; omega
    obtain ⟨b, off, cap', xa, xc, hv, hbl, c0, c1, c2, c3, hx⟩ := verR_at H.out hlt
    simp only [Value.slice.injEq] at hv
    obtain ⟨rfl, _, rfl⟩ := hv
    obtain ⟨b2, off2, cap2', ya, yc, hv, hbl2, y0, y1, y2, y3, hy⟩ := verR_at G.out hlt2
    simp only [Value.slice.injEq] at hv
    obtain ⟨rfl, _, rfl⟩ := hv
    have hxl := ver_len HS.out hlt
    have hyl := ver_len HT.out hlt2
    have i1 : (0 : Int) ≤ (k : Int) := by omega
    have i2 : (k : Int) < (l.length : Int) := by omega
    have i3 : (k : Int) < (m.length : Int) := by omega
    have HNE := Lib.hid (fun e => decide_eq_false (vers_ne_at (l := l) (m := m) (k := k) e))
    have HALL : Hid (l.getD k v0D = m.getD k v0D → ∀ j, j < k + 1 → l.getD j v0D = m.getD j v0D) := Lib.hid (fun he j hj => by
     by_cases e : j = k
     ·
      exact e ▸ he
     ·
      exact hall.out j (by omega))
    clear hall
    generalize l.getD k v0D = r at *
    generalize m.getD k v0D = q at *
    obtain ⟨id, xs, born, died⟩ := r
    obtain ⟨id2, ys, born2, died2⟩ := q
    simp only at c0 c1 c2 c3 y0 y1 y2 y3 hxl hyl
    have C0 := Lib.hid c0; have C1 := Lib.hid c1; have C2 := Lib.hid c2; have C3 := Lib.hid c3
    have E0 := Lib.hid y0; have E1 := Lib.hid y1; have E2 := Lib.hid y2; have E3 := Lib.hid y3
    have HBL := Lib.hid hbl
    have HBL2 := Lib.hid hbl2
    have d := Lib.hid hbel
    have HX : Hid (Ints w (.slice xa xs.length xc) xs) := Lib.hid hx
    have HY : Hid (Ints w (.slice ya ys.length yc) ys) := Lib.hid hy
    have HSI := Lib.hid (fun w h g => specInts (.slice xa xs.length xc) (.slice ya ys.length yc) xs ys w h g hxl hyl)
    clear c0 c1 c2 c3 y0 y1 y2 y3 hbl hbl2 hbel hx hy hxl hyl
    by_cases q1 : id = id2
    rotate_left
    ·
     have HF := Lib.hid (HNE.out (fun e => q1 (Prod.mk.inj e).1))
     have e1 : (id != id2) = true := by simp [q1]
     clear HNE HALL q1
     go_wp2
     have p_C0 := (d.out.cell (p := ⟨b, off + k * 4, none⟩) HBL.out).trans C0.out
     have p_C1 := (d.out.cell (p := ⟨b, off + k * 4 + 1, none⟩) HBL.out).trans C1.out
     have p_C2 := (d.out.cell (p := ⟨b, off + k * 4 + 2, none⟩) HBL.out).trans C2.out
     have p_C3 := (d.out.cell (p := ⟨b, off + k * 4 + 3, none⟩) HBL.out).trans C3.out
     have p_E0 := (d.out.cell (p := ⟨b2, off2 + k * 4, none⟩) HBL2.out).trans E0.out
     have p_E1 := (d.out.cell (p := ⟨b2, off2 + k * 4 + 1, none⟩) HBL2.out).trans E1.out
     have p_E2 := (d.out.cell (p := ⟨b2, off2 + k * 4 + 2, none⟩) HBL2.out).trans E2.out
     have p_E3 := (d.out.cell (p := ⟨b2, off2 + k * 4 + 3, none⟩) HBL2.out).trans E3.out
     refine wp_region_held_drew (S := fun w' => w'.cell? ⟨b, off + k * 4, none⟩ = some (Value.int .i64 id) ∧ w'.cell? ⟨b, off + k * 4 + 1, none⟩ = some (Value.slice xa xs.length xc) ∧ w'.cell? ⟨b, off + k * 4 + 2, none⟩ = some (Value.int .i64 born) ∧ w'.cell? ⟨b, off + k * 4 + 3, none⟩ = some (Value.int .i64 died) ∧ w'.cell? ⟨b2, off2 + k * 4, none⟩ = some (Value.int .i64 id2) ∧ w'.cell? ⟨b2, off2 + k * 4 + 1, none⟩ = some (Value.slice ya ys.length yc) ∧ w'.cell? ⟨b2, off2 + k * 4 + 2, none⟩ = some (Value.int .i64 born2) ∧ w'.cell? ⟨b2, off2 + k * 4 + 3, none⟩ = some (Value.int .i64 died2)) (by kernel_rfl) ⟨p_C0, p_C1, p_C2, p_C3, p_E0, p_E1, p_E2, p_E3⟩ (fun hHeld => ?_)
     clear p_C0 p_C1 p_C2 p_C3 p_E0 p_E1 p_E2 p_E3
     have cdr : Below wr.heap.size wr wr.drew := below_drew (Below.refl _ _)
     replace d := Lib.hid (d.out.trans (cdr.mono d.out.size))
     clear cdr
     refine tR (i := 0) (v := ?_) ?_ ?_; rotate_left
     ·
      intro w hSw; (try dsimp only at hSw); go_simp; try (with_reducible rfl)
     try simp only [Act.put, lA, lB, lC]
     refine tR (i := 1) (v := ?_) ?_ ?_; rotate_left
     ·
      intro w hSw; (try dsimp only at hSw); go_simp; try (with_reducible rfl)
     try simp only [Act.put, lA, lB, lC]
     refine tR (i := 2) (v := ?_) ?_ ?_; rotate_left
     ·
      intro w hSw; (try dsimp only at hSw); go_simp; try (with_reducible rfl)
     try simp only [Act.put, lA, lB, lC]
     refine tR (i := 3) (v := ?_) ?_ ?_; rotate_left
     ·
      intro w hSw; (try dsimp only at hSw); go_simp; try (with_reducible rfl)
     try simp only [Act.put, lA, lB, lC]
     refine tR (i := 4) (v := ?_) ?_ ?_; rotate_left
     ·
      intro w hSw; (try dsimp only at hSw); go_simp; try (with_reducible rfl)
     try simp only [Act.put, lA, lB, lC]
     refine tR (i := 5) (v := ?_) ?_ ?_; rotate_left
     ·
      intro w hSw; (try dsimp only at hSw); go_simp; try (with_reducible rfl)
     try simp only [Act.put, lA, lB, lC]
     refine tR (i := 6) (v := ?_) ?_ ?_; rotate_left
     ·
      intro w hSw; (try dsimp only at hSw); go_simp; try (with_reducible rfl)
     try simp only [Act.put, lA, lB, lC]
     refine tR (i := 7) (v := ?_) ?_ ?_; rotate_left
     ·
      intro w hSw; (try dsimp only at hSw); go_simp; try (with_reducible rfl)
     try simp only [Act.put, lA, lB, lC]
     refine tR (i := 8) (v := ?_) ?_ ?_; rotate_left
     ·
      intro w hSw; (try dsimp only at hSw); go_simp; try (with_reducible rfl)
     try simp only [Act.put, lA, lB, lC]
     refine tR (i := 9) (v := ?_) ?_ ?_; rotate_left
     ·
      intro w hSw; (try dsimp only at hSw); go_simp; try (with_reducible rfl)
     try simp only [Act.put, lA, lB, lC]
     refine tR (i := 10) (v := .bool true) ?_ ?_
     ·
      intro w hSw; (try dsimp only at hSw); go_simp; all_goals first | (with_reducible rfl) | (rw [e1]; done) | (simpa using e1) | (simp [e1]; done) | (simp; omega)
     try simp only [Act.put, lA, lB, lC]
     refine tR (i := 11) (v := ?_) ?_ ?_; rotate_left
     ·
      intro w hSw; (try dsimp only at hSw); go_simp; try (with_reducible rfl)
     try simp only [Act.put, lA, lB, lC]
     refine tO (i := 12) ?_
     try simp only [Act.put, lA, lB, lC]
     refine tO (i := 13) ?_
     try simp only [Act.put, lA, lB, lC]
     refine tO (i := 14) ?_
     try simp only [Act.put, lA, lB, lC]
     refine tO (i := 15) ?_
     try simp only [Act.put, lA, lB, lC]
     refine tO (i := 16) ?_
     try simp only [Act.put, lA, lB, lC]
     refine tO (i := 17) ?_
     try simp only [Act.put, lA, lB, lC]
     refine tO (i := 18) ?_
     try simp only [Act.put, lA, lB, lC]
     refine tO (i := 19) ?_
     try simp only [Act.put, lA, lB, lC]
     refine tO (i := 20) ?_
     try simp only [Act.put, lA, lB, lC]
     refine tO (i := 21) ?_
     try simp only [Act.put, lA, lB, lC]
     refine tO (i := 22) ?_
     try simp only [Act.put, lA, lB, lC]
     refine tR (i := 23) (v := ?_) ?_ ?_; rotate_left
     ·
      intro w hSw; (try dsimp only at hSw); go_simp; try (with_reducible rfl)
     try simp only [Act.put, lA, lB, lC]
     refine tR (i := 24) (v := ?_) ?_ ?_; rotate_left
     ·
      intro w hSw; (try dsimp only at hSw); go_simp; try (with_reducible rfl)
     try simp only [Act.put, lA, lB, lC]
     refine tO (i := 25) ?_
     try simp only [Act.put, lA, lB, lC]
     refine tO (i := 26) ?_
     try simp only [Act.put, lA, lB, lC]
     refine tO (i := 27) ?_
     try simp only [Act.put, lA, lB, lC]
     refine tO (i := 28) ?_
     try simp only [Act.put, lA, lB, lC]
     refine tO (i := 29) ?_
     try simp only [Act.put, lA, lB, lC]
     refine tO (i := 30) ?_
     try simp only [Act.put, lA, lB, lC]
     refine tO (i := 31) ?_
     try simp only [Act.put, lA, lB, lC]
     refine tO (i := 32) ?_
     try simp only [Act.put, lA, lB, lC]
     refine tO (i := 33) ?_
     try simp only [Act.put, lA, lB, lC]
     refine tO (i := 34) ?_
     try simp only [Act.put, lA, lB, lC]
     refine tO (i := 35) ?_
     try simp only [Act.put, lA, lB, lC]
     refine tR (i := 36) (v := ?_) ?_ ?_; rotate_left
     ·
      intro w hSw; (try dsimp only at hSw); go_simp; try (with_reducible rfl)
     try simp only [Act.put, lA, lB, lC]
     refine tR (i := 37) (v := ?_) ?_ ?_; rotate_left
     ·
      intro w hSw; (try dsimp only at hSw); go_simp; try (with_reducible rfl)
     try simp only [Act.put, lA, lB, lC]
     refine tO (i := 38) ?_
     try simp only [Act.put, lA, lB, lC]
     refine tO (i := 39) ?_
     try simp only [Act.put, lA, lB, lC]
     refine tO (i := 40) ?_
     try simp only [Act.put, lA, lB, lC]
     refine tO (i := 41) ?_
     try simp only [Act.put, lA, lB, lC]
     refine tO (i := 42) ?_
     try simp only [Act.put, lA, lB, lC]
     refine tO (i := 43) ?_
     try simp only [Act.put, lA, lB, lC]
     refine tO (i := 44) ?_
     try simp only [Act.put, lA, lB, lC]
     refine tO (i := 45) ?_
     try simp only [Act.put, lA, lB, lC]
     refine tO (i := 46) ?_
     try simp only [Act.put, lA, lB, lC]
     refine tO (i := 47) ?_
     try simp only [Act.put, lA, lB, lC]
     refine tO (i := 48) ?_
     try simp only [Act.put, lA, lB, lC]
     refine tO (i := 49) ?_
     try simp only [Act.put, lA, lB, lC]
     refine tR (i := 50) (v := ?_) ?_ ?_; rotate_left
     ·
      intro w hSw; (try dsimp only at hSw); go_simp; try (with_reducible rfl)
     try simp only [Act.put, lA, lB, lC]
     refine wpAnyH_done (by kernel_rfl) ?_ _
     clear hHeld
     go_wp2
     go_ret
     exact ⟨ret_b HF.out.symm, d.out⟩
    subst q1
    by_cases q2 : born = born2
    rotate_left
    ·
     have HF := Lib.hid (HNE.out (fun e => q2 (Prod.mk.inj (Prod.mk.inj (Prod.mk.inj e).2).2).1))
     have e1 : (id != id) = false := by simp
     have e2 : (born != born2) = true := by simp [q2]
     clear HNE HALL q2
     go_wp2
     have p_C0 := (d.out.cell (p := ⟨b, off + k * 4, none⟩) HBL.out).trans C0.out
     have p_C1 := (d.out.cell (p := ⟨b, off + k * 4 + 1, none⟩) HBL.out).trans C1.out
     have p_C2 := (d.out.cell (p := ⟨b, off + k * 4 + 2, none⟩) HBL.out).trans C2.out
     have p_C3 := (d.out.cell (p := ⟨b, off + k * 4 + 3, none⟩) HBL.out).trans C3.out
     have p_E0 := (d.out.cell (p := ⟨b2, off2 + k * 4, none⟩) HBL2.out).trans E0.out
     have p_E1 := (d.out.cell (p := ⟨b2, off2 + k * 4 + 1, none⟩) HBL2.out).trans E1.out
     have p_E2 := (d.out.cell (p := ⟨b2, off2 + k * 4 + 2, none⟩) HBL2.out).trans E2.out
     have p_E3 := (d.out.cell (p := ⟨b2, off2 + k * 4 + 3, none⟩) HBL2.out).trans E3.out
     refine wp_region_held_drew (S := fun w' => w'.cell? ⟨b, off + k * 4, none⟩ = some (Value.int .i64 id) ∧ w'.cell? ⟨b, off + k * 4 + 1, none⟩ = some (Value.slice xa xs.length xc) ∧ w'.cell? ⟨b, off + k * 4 + 2, none⟩ = some (Value.int .i64 born) ∧ w'.cell? ⟨b, off + k * 4 + 3, none⟩ = some (Value.int .i64 died) ∧ w'.cell? ⟨b2, off2 + k * 4, none⟩ = some (Value.int .i64 id) ∧ w'.cell? ⟨b2, off2 + k * 4 + 1, none⟩ = some (Value.slice ya ys.length yc) ∧ w'.cell? ⟨b2, off2 + k * 4 + 2, none⟩ = some (Value.int .i64 born2) ∧ w'.cell? ⟨b2, off2 + k * 4 + 3, none⟩ = some (Value.int .i64 died2)) (by kernel_rfl) ⟨p_C0, p_C1, p_C2, p_C3, p_E0, p_E1, p_E2, p_E3⟩ (fun hHeld => ?_)
     clear p_C0 p_C1 p_C2 p_C3 p_E0 p_E1 p_E2 p_E3
     have cdr : Below wr.heap.size wr wr.drew := below_drew (Below.refl _ _)
     replace d := Lib.hid (d.out.trans (cdr.mono d.out.size))
     clear cdr
     refine tR (i := 0) (v := ?_) ?_ ?_; rotate_left
     ·
      intro w hSw; (try dsimp only at hSw); go_simp; try (with_reducible rfl)
     try simp only [Act.put, lA, lB, lC]
     refine tR (i := 1) (v := ?_) ?_ ?_; rotate_left
     ·
      intro w hSw; (try dsimp only at hSw); go_simp; try (with_reducible rfl)
     try simp only [Act.put, lA, lB, lC]
     refine tR (i := 2) (v := ?_) ?_ ?_; rotate_left
     ·
      intro w hSw; (try dsimp only at hSw); go_simp; try (with_reducible rfl)
     try simp only [Act.put, lA, lB, lC]
     refine tR (i := 3) (v := ?_) ?_ ?_; rotate_left
     ·
      intro w hSw; (try dsimp only at hSw); go_simp; try (with_reducible rfl)
     try simp only [Act.put, lA, lB, lC]
     refine tR (i := 4) (v := ?_) ?_ ?_; rotate_left
     ·
      intro w hSw; (try dsimp only at hSw); go_simp; try (with_reducible rfl)
     try simp only [Act.put, lA, lB, lC]
     refine tR (i := 5) (v := ?_) ?_ ?_; rotate_left
     ·
      intro w hSw; (try dsimp only at hSw); go_simp; try (with_reducible rfl)
     try simp only [Act.put, lA, lB, lC]
     refine tR (i := 6) (v := ?_) ?_ ?_; rotate_left
     ·
      intro w hSw; (try dsimp only at hSw); go_simp; try (with_reducible rfl)
     try simp only [Act.put, lA, lB, lC]
     refine tR (i := 7) (v := ?_) ?_ ?_; rotate_left
     ·
      intro w hSw; (try dsimp only at hSw); go_simp; try (with_reducible rfl)
     try simp only [Act.put, lA, lB, lC]
     refine tR (i := 8) (v := ?_) ?_ ?_; rotate_left
     ·
      intro w hSw; (try dsimp only at hSw); go_simp; try (with_reducible rfl)
     try simp only [Act.put, lA, lB, lC]
     refine tR (i := 9) (v := ?_) ?_ ?_; rotate_left
     ·
      intro w hSw; (try dsimp only at hSw); go_simp; try (with_reducible rfl)
     try simp only [Act.put, lA, lB, lC]
     refine tR (i := 10) (v := .bool false) ?_ ?_
     ·
      intro w hSw; (try dsimp only at hSw); go_simp; all_goals first | (with_reducible rfl) | (rw [e1]; done) | (simpa using e1) | (simp [e1]; done) | (simp; omega)
     try simp only [Act.put, lA, lB, lC]
     refine tR (i := 11) (v := ?_) ?_ ?_; rotate_left
     ·
      intro w hSw; (try dsimp only at hSw); go_simp; try (with_reducible rfl)
     try simp only [Act.put, lA, lB, lC]
     refine tR (i := 12) (v := ?_) ?_ ?_; rotate_left
     ·
      intro w hSw; (try dsimp only at hSw); go_simp; try (with_reducible rfl)
     try simp only [Act.put, lA, lB, lC]
     refine tR (i := 13) (v := ?_) ?_ ?_; rotate_left
     ·
      intro w hSw; (try dsimp only at hSw); go_simp; try (with_reducible rfl)
     try simp only [Act.put, lA, lB, lC]
     refine tR (i := 14) (v := ?_) ?_ ?_; rotate_left
     ·
      intro w hSw; (try dsimp only at hSw); go_simp; try (with_reducible rfl)
     try simp only [Act.put, lA, lB, lC]
     refine tR (i := 15) (v := ?_) ?_ ?_; rotate_left
     ·
      intro w hSw; (try dsimp only at hSw); go_simp; try (with_reducible rfl)
     try simp only [Act.put, lA, lB, lC]
     refine tR (i := 16) (v := ?_) ?_ ?_; rotate_left
     ·
      intro w hSw; (try dsimp only at hSw); go_simp; try (with_reducible rfl)
     try simp only [Act.put, lA, lB, lC]
     refine tR (i := 17) (v := ?_) ?_ ?_; rotate_left
     ·
      intro w hSw; (try dsimp only at hSw); go_simp; try (with_reducible rfl)
     try simp only [Act.put, lA, lB, lC]
     refine tR (i := 18) (v := ?_) ?_ ?_; rotate_left
     ·
      intro w hSw; (try dsimp only at hSw); go_simp; try (with_reducible rfl)
     try simp only [Act.put, lA, lB, lC]
     refine tR (i := 19) (v := ?_) ?_ ?_; rotate_left
     ·
      intro w hSw; (try dsimp only at hSw); go_simp; try (with_reducible rfl)
     try simp only [Act.put, lA, lB, lC]
     refine tR (i := 20) (v := ?_) ?_ ?_; rotate_left
     ·
      intro w hSw; (try dsimp only at hSw); go_simp; try (with_reducible rfl)
     try simp only [Act.put, lA, lB, lC]
     refine tR (i := 21) (v := ?_) ?_ ?_; rotate_left
     ·
      intro w hSw; (try dsimp only at hSw); go_simp; try (with_reducible rfl)
     try simp only [Act.put, lA, lB, lC]
     refine tR (i := 22) (v := .bool true) ?_ ?_
     ·
      intro w hSw; (try dsimp only at hSw); go_simp; all_goals first | (with_reducible rfl) | (rw [e2]; done) | (simpa using e2) | (simp [e2]; done) | (simp; omega)
     try simp only [Act.put, lA, lB, lC]
     refine tR (i := 23) (v := ?_) ?_ ?_; rotate_left
     ·
      intro w hSw; (try dsimp only at hSw); go_simp; try (with_reducible rfl)
     try simp only [Act.put, lA, lB, lC]
     refine tR (i := 24) (v := ?_) ?_ ?_; rotate_left
     ·
      intro w hSw; (try dsimp only at hSw); go_simp; try (with_reducible rfl)
     try simp only [Act.put, lA, lB, lC]
     refine tO (i := 25) ?_
     try simp only [Act.put, lA, lB, lC]
     refine tO (i := 26) ?_
     try simp only [Act.put, lA, lB, lC]
     refine tO (i := 27) ?_
     try simp only [Act.put, lA, lB, lC]
     refine tO (i := 28) ?_
     try simp only [Act.put, lA, lB, lC]
     refine tO (i := 29) ?_
     try simp only [Act.put, lA, lB, lC]
     refine tO (i := 30) ?_
     try simp only [Act.put, lA, lB, lC]
     refine tO (i := 31) ?_
     try simp only [Act.put, lA, lB, lC]
     refine tO (i := 32) ?_
     try simp only [Act.put, lA, lB, lC]
     refine tO (i := 33) ?_
     try simp only [Act.put, lA, lB, lC]
     refine tO (i := 34) ?_
     try simp only [Act.put, lA, lB, lC]
     refine tO (i := 35) ?_
     try simp only [Act.put, lA, lB, lC]
     refine tR (i := 36) (v := ?_) ?_ ?_; rotate_left
     ·
      intro w hSw; (try dsimp only at hSw); go_simp; try (with_reducible rfl)
     try simp only [Act.put, lA, lB, lC]
     refine tR (i := 37) (v := ?_) ?_ ?_; rotate_left
     ·
      intro w hSw; (try dsimp only at hSw); go_simp; try (with_reducible rfl)
     try simp only [Act.put, lA, lB, lC]
     refine tO (i := 38) ?_
     try simp only [Act.put, lA, lB, lC]
     refine tO (i := 39) ?_
     try simp only [Act.put, lA, lB, lC]
     refine tO (i := 40) ?_
     try simp only [Act.put, lA, lB, lC]
     refine tO (i := 41) ?_
     try simp only [Act.put, lA, lB, lC]
     refine tO (i := 42) ?_
     try simp only [Act.put, lA, lB, lC]
     refine tO (i := 43) ?_
     try simp only [Act.put, lA, lB, lC]
     refine tO (i := 44) ?_
     try simp only [Act.put, lA, lB, lC]
     refine tO (i := 45) ?_
     try simp only [Act.put, lA, lB, lC]
     refine tO (i := 46) ?_
     try simp only [Act.put, lA, lB, lC]
     refine tO (i := 47) ?_
     try simp only [Act.put, lA, lB, lC]
     refine tO (i := 48) ?_
     try simp only [Act.put, lA, lB, lC]
     refine tO (i := 49) ?_
     try simp only [Act.put, lA, lB, lC]
     refine tR (i := 50) (v := ?_) ?_ ?_; rotate_left
     ·
      intro w hSw; (try dsimp only at hSw); go_simp; try (with_reducible rfl)
     try simp only [Act.put, lA, lB, lC]
     refine wpAnyH_done (by kernel_rfl) ?_ _
     clear hHeld
     go_wp2
     go_ret
     exact ⟨ret_b HF.out.symm, d.out⟩
    subst q2
    by_cases q3 : died = died2
    rotate_left
    ·
     have HF := Lib.hid (HNE.out (fun e => q3 (Prod.mk.inj (Prod.mk.inj (Prod.mk.inj e).2).2).2))
     have e1 : (id != id) = false := by simp
     have e2 : (born != born) = false := by simp
     have e3 : (died != died2) = true := by simp [q3]
     clear HNE HALL q3
     go_wp2
     have p_C0 := (d.out.cell (p := ⟨b, off + k * 4, none⟩) HBL.out).trans C0.out
     have p_C1 := (d.out.cell (p := ⟨b, off + k * 4 + 1, none⟩) HBL.out).trans C1.out
     have p_C2 := (d.out.cell (p := ⟨b, off + k * 4 + 2, none⟩) HBL.out).trans C2.out
     have p_C3 := (d.out.cell (p := ⟨b, off + k * 4 + 3, none⟩) HBL.out).trans C3.out
     have p_E0 := (d.out.cell (p := ⟨b2, off2 + k * 4, none⟩) HBL2.out).trans E0.out
     have p_E1 := (d.out.cell (p := ⟨b2, off2 + k * 4 + 1, none⟩) HBL2.out).trans E1.out
     have p_E2 := (d.out.cell (p := ⟨b2, off2 + k * 4 + 2, none⟩) HBL2.out).trans E2.out
     have p_E3 := (d.out.cell (p := ⟨b2, off2 + k * 4 + 3, none⟩) HBL2.out).trans E3.out
     refine wp_region_held_drew (S := fun w' => w'.cell? ⟨b, off + k * 4, none⟩ = some (Value.int .i64 id) ∧ w'.cell? ⟨b, off + k * 4 + 1, none⟩ = some (Value.slice xa xs.length xc) ∧ w'.cell? ⟨b, off + k * 4 + 2, none⟩ = some (Value.int .i64 born) ∧ w'.cell? ⟨b, off + k * 4 + 3, none⟩ = some (Value.int .i64 died) ∧ w'.cell? ⟨b2, off2 + k * 4, none⟩ = some (Value.int .i64 id) ∧ w'.cell? ⟨b2, off2 + k * 4 + 1, none⟩ = some (Value.slice ya ys.length yc) ∧ w'.cell? ⟨b2, off2 + k * 4 + 2, none⟩ = some (Value.int .i64 born) ∧ w'.cell? ⟨b2, off2 + k * 4 + 3, none⟩ = some (Value.int .i64 died2)) (by kernel_rfl) ⟨p_C0, p_C1, p_C2, p_C3, p_E0, p_E1, p_E2, p_E3⟩ (fun hHeld => ?_)
     clear p_C0 p_C1 p_C2 p_C3 p_E0 p_E1 p_E2 p_E3
     have cdr : Below wr.heap.size wr wr.drew := below_drew (Below.refl _ _)
     replace d := Lib.hid (d.out.trans (cdr.mono d.out.size))
     clear cdr
     refine tR (i := 0) (v := ?_) ?_ ?_; rotate_left
     ·
      intro w hSw; (try dsimp only at hSw); go_simp; try (with_reducible rfl)
     try simp only [Act.put, lA, lB, lC]
     refine tR (i := 1) (v := ?_) ?_ ?_; rotate_left
     ·
      intro w hSw; (try dsimp only at hSw); go_simp; try (with_reducible rfl)
     try simp only [Act.put, lA, lB, lC]
     refine tR (i := 2) (v := ?_) ?_ ?_; rotate_left
     ·
      intro w hSw; (try dsimp only at hSw); go_simp; try (with_reducible rfl)
     try simp only [Act.put, lA, lB, lC]
     refine tR (i := 3) (v := ?_) ?_ ?_; rotate_left
     ·
      intro w hSw; (try dsimp only at hSw); go_simp; try (with_reducible rfl)
     try simp only [Act.put, lA, lB, lC]
     refine tR (i := 4) (v := ?_) ?_ ?_; rotate_left
     ·
      intro w hSw; (try dsimp only at hSw); go_simp; try (with_reducible rfl)
     try simp only [Act.put, lA, lB, lC]
     refine tR (i := 5) (v := ?_) ?_ ?_; rotate_left
     ·
      intro w hSw; (try dsimp only at hSw); go_simp; try (with_reducible rfl)
     try simp only [Act.put, lA, lB, lC]
     refine tR (i := 6) (v := ?_) ?_ ?_; rotate_left
     ·
      intro w hSw; (try dsimp only at hSw); go_simp; try (with_reducible rfl)
     try simp only [Act.put, lA, lB, lC]
     refine tR (i := 7) (v := ?_) ?_ ?_; rotate_left
     ·
      intro w hSw; (try dsimp only at hSw); go_simp; try (with_reducible rfl)
     try simp only [Act.put, lA, lB, lC]
     refine tR (i := 8) (v := ?_) ?_ ?_; rotate_left
     ·
      intro w hSw; (try dsimp only at hSw); go_simp; try (with_reducible rfl)
     try simp only [Act.put, lA, lB, lC]
     refine tR (i := 9) (v := ?_) ?_ ?_; rotate_left
     ·
      intro w hSw; (try dsimp only at hSw); go_simp; try (with_reducible rfl)
     try simp only [Act.put, lA, lB, lC]
     refine tR (i := 10) (v := .bool false) ?_ ?_
     ·
      intro w hSw; (try dsimp only at hSw); go_simp; all_goals first | (with_reducible rfl) | (rw [e1]; done) | (simpa using e1) | (simp [e1]; done) | (simp; omega)
     try simp only [Act.put, lA, lB, lC]
     refine tR (i := 11) (v := ?_) ?_ ?_; rotate_left
     ·
      intro w hSw; (try dsimp only at hSw); go_simp; try (with_reducible rfl)
     try simp only [Act.put, lA, lB, lC]
     refine tR (i := 12) (v := ?_) ?_ ?_; rotate_left
     ·
      intro w hSw; (try dsimp only at hSw); go_simp; try (with_reducible rfl)
     try simp only [Act.put, lA, lB, lC]
     refine tR (i := 13) (v := ?_) ?_ ?_; rotate_left
     ·
      intro w hSw; (try dsimp only at hSw); go_simp; try (with_reducible rfl)
     try simp only [Act.put, lA, lB, lC]
     refine tR (i := 14) (v := ?_) ?_ ?_; rotate_left
     ·
      intro w hSw; (try dsimp only at hSw); go_simp; try (with_reducible rfl)
     try simp only [Act.put, lA, lB, lC]
     refine tR (i := 15) (v := ?_) ?_ ?_; rotate_left
     ·
      intro w hSw; (try dsimp only at hSw); go_simp; try (with_reducible rfl)
     try simp only [Act.put, lA, lB, lC]
     refine tR (i := 16) (v := ?_) ?_ ?_; rotate_left
     ·
      intro w hSw; (try dsimp only at hSw); go_simp; try (with_reducible rfl)
     try simp only [Act.put, lA, lB, lC]
     refine tR (i := 17) (v := ?_) ?_ ?_; rotate_left
     ·
      intro w hSw; (try dsimp only at hSw); go_simp; try (with_reducible rfl)
     try simp only [Act.put, lA, lB, lC]
     refine tR (i := 18) (v := ?_) ?_ ?_; rotate_left
     ·
      intro w hSw; (try dsimp only at hSw); go_simp; try (with_reducible rfl)
     try simp only [Act.put, lA, lB, lC]
     refine tR (i := 19) (v := ?_) ?_ ?_; rotate_left
     ·
      intro w hSw; (try dsimp only at hSw); go_simp; try (with_reducible rfl)
     try simp only [Act.put, lA, lB, lC]
     refine tR (i := 20) (v := ?_) ?_ ?_; rotate_left
     ·
      intro w hSw; (try dsimp only at hSw); go_simp; try (with_reducible rfl)
     try simp only [Act.put, lA, lB, lC]
     refine tR (i := 21) (v := ?_) ?_ ?_; rotate_left
     ·
      intro w hSw; (try dsimp only at hSw); go_simp; try (with_reducible rfl)
     try simp only [Act.put, lA, lB, lC]
     refine tR (i := 22) (v := .bool false) ?_ ?_
     ·
      intro w hSw; (try dsimp only at hSw); go_simp; all_goals first | (with_reducible rfl) | (rw [e2]; done) | (simpa using e2) | (simp [e2]; done) | (simp; omega)
     try simp only [Act.put, lA, lB, lC]
     refine tR (i := 23) (v := ?_) ?_ ?_; rotate_left
     ·
      intro w hSw; (try dsimp only at hSw); go_simp; try (with_reducible rfl)
     try simp only [Act.put, lA, lB, lC]
     refine tR (i := 24) (v := ?_) ?_ ?_; rotate_left
     ·
      intro w hSw; (try dsimp only at hSw); go_simp; try (with_reducible rfl)
     try simp only [Act.put, lA, lB, lC]
     refine tR (i := 25) (v := ?_) ?_ ?_; rotate_left
     ·
      intro w hSw; (try dsimp only at hSw); go_simp; try (with_reducible rfl)
     try simp only [Act.put, lA, lB, lC]
     refine tR (i := 26) (v := ?_) ?_ ?_; rotate_left
     ·
      intro w hSw; (try dsimp only at hSw); go_simp; try (with_reducible rfl)
     try simp only [Act.put, lA, lB, lC]
     refine tR (i := 27) (v := ?_) ?_ ?_; rotate_left
     ·
      intro w hSw; (try dsimp only at hSw); go_simp; try (with_reducible rfl)
     try simp only [Act.put, lA, lB, lC]
     refine tR (i := 28) (v := ?_) ?_ ?_; rotate_left
     ·
      intro w hSw; (try dsimp only at hSw); go_simp; try (with_reducible rfl)
     try simp only [Act.put, lA, lB, lC]
     refine tR (i := 29) (v := ?_) ?_ ?_; rotate_left
     ·
      intro w hSw; (try dsimp only at hSw); go_simp; try (with_reducible rfl)
     try simp only [Act.put, lA, lB, lC]
     refine tR (i := 30) (v := ?_) ?_ ?_; rotate_left
     ·
      intro w hSw; (try dsimp only at hSw); go_simp; try (with_reducible rfl)
     try simp only [Act.put, lA, lB, lC]
     refine tR (i := 31) (v := ?_) ?_ ?_; rotate_left
     ·
      intro w hSw; (try dsimp only at hSw); go_simp; try (with_reducible rfl)
     try simp only [Act.put, lA, lB, lC]
     refine tR (i := 32) (v := ?_) ?_ ?_; rotate_left
     ·
      intro w hSw; (try dsimp only at hSw); go_simp; try (with_reducible rfl)
     try simp only [Act.put, lA, lB, lC]
     refine tR (i := 33) (v := ?_) ?_ ?_; rotate_left
     ·
      intro w hSw; (try dsimp only at hSw); go_simp; try (with_reducible rfl)
     try simp only [Act.put, lA, lB, lC]
     refine tR (i := 34) (v := ?_) ?_ ?_; rotate_left
     ·
      intro w hSw; (try dsimp only at hSw); go_simp; try (with_reducible rfl)
     try simp only [Act.put, lA, lB, lC]
     refine tR (i := 35) (v := .bool true) ?_ ?_
     ·
      intro w hSw; (try dsimp only at hSw); go_simp; all_goals first | (with_reducible rfl) | (rw [e3]; done) | (simpa using e3) | (simp [e3]; done) | (simp; omega)
     try simp only [Act.put, lA, lB, lC]
     refine tR (i := 36) (v := ?_) ?_ ?_; rotate_left
     ·
      intro w hSw; (try dsimp only at hSw); go_simp; try (with_reducible rfl)
     try simp only [Act.put, lA, lB, lC]
     refine tR (i := 37) (v := ?_) ?_ ?_; rotate_left
     ·
      intro w hSw; (try dsimp only at hSw); go_simp; try (with_reducible rfl)
     try simp only [Act.put, lA, lB, lC]
     refine tO (i := 38) ?_
     try simp only [Act.put, lA, lB, lC]
     refine tO (i := 39) ?_
     try simp only [Act.put, lA, lB, lC]
     refine tO (i := 40) ?_
     try simp only [Act.put, lA, lB, lC]
     refine tO (i := 41) ?_
     try simp only [Act.put, lA, lB, lC]
     refine tO (i := 42) ?_
     try simp only [Act.put, lA, lB, lC]
     refine tO (i := 43) ?_
     try simp only [Act.put, lA, lB, lC]
     refine tO (i := 44) ?_
     try simp only [Act.put, lA, lB, lC]
     refine tO (i := 45) ?_
     try simp only [Act.put, lA, lB, lC]
     refine tO (i := 46) ?_
     try simp only [Act.put, lA, lB, lC]
     refine tO (i := 47) ?_
     try simp only [Act.put, lA, lB, lC]
     refine tO (i := 48) ?_
     try simp only [Act.put, lA, lB, lC]
     refine tO (i := 49) ?_
     try simp only [Act.put, lA, lB, lC]
     refine tR (i := 50) (v := ?_) ?_ ?_; rotate_left
     ·
      intro w hSw; (try dsimp only at hSw); go_simp; try (with_reducible rfl)
     try simp only [Act.put, lA, lB, lC]
     refine wpAnyH_done (by kernel_rfl) ?_ _
     clear hHeld
     go_wp2
     go_ret
     exact ⟨ret_b HF.out.symm, d.out⟩
    subst q3
    have e1 : (id != id) = false := by simp
    have e2 : (born != born) = false := by simp
    have e3 : (died != died) = false := by simp
    by_cases hxy : xs = ys
    ·
     have HA := Lib.hid (HALL.out (by rw [hxy]))
     rw [decide_eq_true hxy] at HSI
     clear hxy HNE HALL
     go_wp2
     have p_C0 := (d.out.cell (p := ⟨b, off + k * 4, none⟩) HBL.out).trans C0.out
     have p_C1 := (d.out.cell (p := ⟨b, off + k * 4 + 1, none⟩) HBL.out).trans C1.out
     have p_C2 := (d.out.cell (p := ⟨b, off + k * 4 + 2, none⟩) HBL.out).trans C2.out
     have p_C3 := (d.out.cell (p := ⟨b, off + k * 4 + 3, none⟩) HBL.out).trans C3.out
     have p_E0 := (d.out.cell (p := ⟨b2, off2 + k * 4, none⟩) HBL2.out).trans E0.out
     have p_E1 := (d.out.cell (p := ⟨b2, off2 + k * 4 + 1, none⟩) HBL2.out).trans E1.out
     have p_E2 := (d.out.cell (p := ⟨b2, off2 + k * 4 + 2, none⟩) HBL2.out).trans E2.out
     have p_E3 := (d.out.cell (p := ⟨b2, off2 + k * 4 + 3, none⟩) HBL2.out).trans E3.out
     refine wp_region_held_drew (S := fun w' => w'.cell? ⟨b, off + k * 4, none⟩ = some (Value.int .i64 id) ∧ w'.cell? ⟨b, off + k * 4 + 1, none⟩ = some (Value.slice xa xs.length xc) ∧ w'.cell? ⟨b, off + k * 4 + 2, none⟩ = some (Value.int .i64 born) ∧ w'.cell? ⟨b, off + k * 4 + 3, none⟩ = some (Value.int .i64 died) ∧ w'.cell? ⟨b2, off2 + k * 4, none⟩ = some (Value.int .i64 id) ∧ w'.cell? ⟨b2, off2 + k * 4 + 1, none⟩ = some (Value.slice ya ys.length yc) ∧ w'.cell? ⟨b2, off2 + k * 4 + 2, none⟩ = some (Value.int .i64 born) ∧ w'.cell? ⟨b2, off2 + k * 4 + 3, none⟩ = some (Value.int .i64 died)) (by kernel_rfl) ⟨p_C0, p_C1, p_C2, p_C3, p_E0, p_E1, p_E2, p_E3⟩ (fun hHeld => ?_)
     clear p_C0 p_C1 p_C2 p_C3 p_E0 p_E1 p_E2 p_E3
     have cdr : Below wr.heap.size wr wr.drew := below_drew (Below.refl _ _)
     replace d := Lib.hid (d.out.trans (cdr.mono d.out.size))
     clear cdr
     refine tR (i := 0) (v := ?_) ?_ ?_; rotate_left
     ·
      intro w hSw; (try dsimp only at hSw); go_simp; try (with_reducible rfl)
     try simp only [Act.put, lA, lB, lC]
     refine tR (i := 1) (v := ?_) ?_ ?_; rotate_left
     ·
      intro w hSw; (try dsimp only at hSw); go_simp; try (with_reducible rfl)
     try simp only [Act.put, lA, lB, lC]
     refine tR (i := 2) (v := ?_) ?_ ?_; rotate_left
     ·
      intro w hSw; (try dsimp only at hSw); go_simp; try (with_reducible rfl)
     try simp only [Act.put, lA, lB, lC]
     refine tR (i := 3) (v := ?_) ?_ ?_; rotate_left
     ·
      intro w hSw; (try dsimp only at hSw); go_simp; try (with_reducible rfl)
     try simp only [Act.put, lA, lB, lC]
     refine tR (i := 4) (v := ?_) ?_ ?_; rotate_left
     ·
      intro w hSw; (try dsimp only at hSw); go_simp; try (with_reducible rfl)
     try simp only [Act.put, lA, lB, lC]
     refine tR (i := 5) (v := ?_) ?_ ?_; rotate_left
     ·
      intro w hSw; (try dsimp only at hSw); go_simp; try (with_reducible rfl)
     try simp only [Act.put, lA, lB, lC]
     refine tR (i := 6) (v := ?_) ?_ ?_; rotate_left
     ·
      intro w hSw; (try dsimp only at hSw); go_simp; try (with_reducible rfl)
     try simp only [Act.put, lA, lB, lC]
     refine tR (i := 7) (v := ?_) ?_ ?_; rotate_left
     ·
      intro w hSw; (try dsimp only at hSw); go_simp; try (with_reducible rfl)
     try simp only [Act.put, lA, lB, lC]
     refine tR (i := 8) (v := ?_) ?_ ?_; rotate_left
     ·
      intro w hSw; (try dsimp only at hSw); go_simp; try (with_reducible rfl)
     try simp only [Act.put, lA, lB, lC]
     refine tR (i := 9) (v := ?_) ?_ ?_; rotate_left
     ·
      intro w hSw; (try dsimp only at hSw); go_simp; try (with_reducible rfl)
     try simp only [Act.put, lA, lB, lC]
     refine tR (i := 10) (v := .bool false) ?_ ?_
     ·
      intro w hSw; (try dsimp only at hSw); go_simp; all_goals first | (with_reducible rfl) | (rw [e1]; done) | (simpa using e1) | (simp [e1]; done) | (simp; omega)
     try simp only [Act.put, lA, lB, lC]
     refine tR (i := 11) (v := ?_) ?_ ?_; rotate_left
     ·
      intro w hSw; (try dsimp only at hSw); go_simp; try (with_reducible rfl)
     try simp only [Act.put, lA, lB, lC]
     refine tR (i := 12) (v := ?_) ?_ ?_; rotate_left
     ·
      intro w hSw; (try dsimp only at hSw); go_simp; try (with_reducible rfl)
     try simp only [Act.put, lA, lB, lC]
     refine tR (i := 13) (v := ?_) ?_ ?_; rotate_left
     ·
      intro w hSw; (try dsimp only at hSw); go_simp; try (with_reducible rfl)
     try simp only [Act.put, lA, lB, lC]
     refine tR (i := 14) (v := ?_) ?_ ?_; rotate_left
     ·
      intro w hSw; (try dsimp only at hSw); go_simp; try (with_reducible rfl)
     try simp only [Act.put, lA, lB, lC]
     refine tR (i := 15) (v := ?_) ?_ ?_; rotate_left
     ·
      intro w hSw; (try dsimp only at hSw); go_simp; try (with_reducible rfl)
     try simp only [Act.put, lA, lB, lC]
     refine tR (i := 16) (v := ?_) ?_ ?_; rotate_left
     ·
      intro w hSw; (try dsimp only at hSw); go_simp; try (with_reducible rfl)
     try simp only [Act.put, lA, lB, lC]
     refine tR (i := 17) (v := ?_) ?_ ?_; rotate_left
     ·
      intro w hSw; (try dsimp only at hSw); go_simp; try (with_reducible rfl)
     try simp only [Act.put, lA, lB, lC]
     refine tR (i := 18) (v := ?_) ?_ ?_; rotate_left
     ·
      intro w hSw; (try dsimp only at hSw); go_simp; try (with_reducible rfl)
     try simp only [Act.put, lA, lB, lC]
     refine tR (i := 19) (v := ?_) ?_ ?_; rotate_left
     ·
      intro w hSw; (try dsimp only at hSw); go_simp; try (with_reducible rfl)
     try simp only [Act.put, lA, lB, lC]
     refine tR (i := 20) (v := ?_) ?_ ?_; rotate_left
     ·
      intro w hSw; (try dsimp only at hSw); go_simp; try (with_reducible rfl)
     try simp only [Act.put, lA, lB, lC]
     refine tR (i := 21) (v := ?_) ?_ ?_; rotate_left
     ·
      intro w hSw; (try dsimp only at hSw); go_simp; try (with_reducible rfl)
     try simp only [Act.put, lA, lB, lC]
     refine tR (i := 22) (v := .bool false) ?_ ?_
     ·
      intro w hSw; (try dsimp only at hSw); go_simp; all_goals first | (with_reducible rfl) | (rw [e2]; done) | (simpa using e2) | (simp [e2]; done) | (simp; omega)
     try simp only [Act.put, lA, lB, lC]
     refine tR (i := 23) (v := ?_) ?_ ?_; rotate_left
     ·
      intro w hSw; (try dsimp only at hSw); go_simp; try (with_reducible rfl)
     try simp only [Act.put, lA, lB, lC]
     refine tR (i := 24) (v := ?_) ?_ ?_; rotate_left
     ·
      intro w hSw; (try dsimp only at hSw); go_simp; try (with_reducible rfl)
     try simp only [Act.put, lA, lB, lC]
     refine tR (i := 25) (v := ?_) ?_ ?_; rotate_left
     ·
      intro w hSw; (try dsimp only at hSw); go_simp; try (with_reducible rfl)
     try simp only [Act.put, lA, lB, lC]
     refine tR (i := 26) (v := ?_) ?_ ?_; rotate_left
     ·
      intro w hSw; (try dsimp only at hSw); go_simp; try (with_reducible rfl)
     try simp only [Act.put, lA, lB, lC]
     refine tR (i := 27) (v := ?_) ?_ ?_; rotate_left
     ·
      intro w hSw; (try dsimp only at hSw); go_simp; try (with_reducible rfl)
     try simp only [Act.put, lA, lB, lC]
     refine tR (i := 28) (v := ?_) ?_ ?_; rotate_left
     ·
      intro w hSw; (try dsimp only at hSw); go_simp; try (with_reducible rfl)
     try simp only [Act.put, lA, lB, lC]
     refine tR (i := 29) (v := ?_) ?_ ?_; rotate_left
     ·
      intro w hSw; (try dsimp only at hSw); go_simp; try (with_reducible rfl)
     try simp only [Act.put, lA, lB, lC]
     refine tR (i := 30) (v := ?_) ?_ ?_; rotate_left
     ·
      intro w hSw; (try dsimp only at hSw); go_simp; try (with_reducible rfl)
     try simp only [Act.put, lA, lB, lC]
     refine tR (i := 31) (v := ?_) ?_ ?_; rotate_left
     ·
      intro w hSw; (try dsimp only at hSw); go_simp; try (with_reducible rfl)
     try simp only [Act.put, lA, lB, lC]
     refine tR (i := 32) (v := ?_) ?_ ?_; rotate_left
     ·
      intro w hSw; (try dsimp only at hSw); go_simp; try (with_reducible rfl)
     try simp only [Act.put, lA, lB, lC]
     refine tR (i := 33) (v := ?_) ?_ ?_; rotate_left
     ·
      intro w hSw; (try dsimp only at hSw); go_simp; try (with_reducible rfl)
     try simp only [Act.put, lA, lB, lC]
     refine tR (i := 34) (v := ?_) ?_ ?_; rotate_left
     ·
      intro w hSw; (try dsimp only at hSw); go_simp; try (with_reducible rfl)
     try simp only [Act.put, lA, lB, lC]
     refine tR (i := 35) (v := .bool false) ?_ ?_
     ·
      intro w hSw; (try dsimp only at hSw); go_simp; all_goals first | (with_reducible rfl) | (rw [e3]; done) | (simpa using e3) | (simp [e3]; done) | (simp; omega)
     try simp only [Act.put, lA, lB, lC]
     refine tR (i := 36) (v := ?_) ?_ ?_; rotate_left
     ·
      intro w hSw; (try dsimp only at hSw); go_simp; try (with_reducible rfl)
     try simp only [Act.put, lA, lB, lC]
     refine tR (i := 37) (v := ?_) ?_ ?_; rotate_left
     ·
      intro w hSw; (try dsimp only at hSw); go_simp; try (with_reducible rfl)
     try simp only [Act.put, lA, lB, lC]
     refine tR (i := 38) (v := ?_) ?_ ?_; rotate_left
     ·
      intro w hSw; (try dsimp only at hSw); go_simp; try (with_reducible rfl)
     try simp only [Act.put, lA, lB, lC]
     refine tR (i := 39) (v := ?_) ?_ ?_; rotate_left
     ·
      intro w hSw; (try dsimp only at hSw); go_simp; try (with_reducible rfl)
     try simp only [Act.put, lA, lB, lC]
     refine tR (i := 40) (v := ?_) ?_ ?_; rotate_left
     ·
      intro w hSw; (try dsimp only at hSw); go_simp; try (with_reducible rfl)
     try simp only [Act.put, lA, lB, lC]
     refine tR (i := 41) (v := ?_) ?_ ?_; rotate_left
     ·
      intro w hSw; (try dsimp only at hSw); go_simp; try (with_reducible rfl)
     try simp only [Act.put, lA, lB, lC]
     refine tR (i := 42) (v := ?_) ?_ ?_; rotate_left
     ·
      intro w hSw; (try dsimp only at hSw); go_simp; try (with_reducible rfl)
     try simp only [Act.put, lA, lB, lC]
     refine tR (i := 43) (v := ?_) ?_ ?_; rotate_left
     ·
      intro w hSw; (try dsimp only at hSw); go_simp; try (with_reducible rfl)
     try simp only [Act.put, lA, lB, lC]
     refine tR (i := 44) (v := ?_) ?_ ?_; rotate_left
     ·
      intro w hSw; (try dsimp only at hSw); go_simp; try (with_reducible rfl)
     try simp only [Act.put, lA, lB, lC]
     refine tR (i := 45) (v := ?_) ?_ ?_; rotate_left
     ·
      intro w hSw; (try dsimp only at hSw); go_simp; try (with_reducible rfl)
     try simp only [Act.put, lA, lB, lC]
     refine tR (i := 46) (v := ?_) ?_ ?_; rotate_left
     ·
      intro w hSw; (try dsimp only at hSw); go_simp; try (with_reducible rfl)
     try simp only [Act.put, lA, lB, lC]
     refine tR (i := 47) (v := ?_) ?_ ?_; rotate_left
     ·
      intro w hSw; (try dsimp only at hSw); go_simp; try (with_reducible rfl)
     try simp only [Act.put, lA, lB, lC]
     refine wpAnyH_ready (rs := [48]) (by kernel_rfl) (by simp) ?_
     refine (AllReadyH.cons (o := _) (by simp only [hA, hB, hC]; rfl) (fun K hK => ?_) AllReadyH.nil)
     go_simp
     refine (HSI.out (wr.drew) (ints_below HX.out d.out) (ints_below HY.out d.out)).mono ?_
     rintro e w5 ⟨rfl, c5⟩
     replace d := Lib.hid (d.out.trans (c5.mono d.out.size))
     have Z_w5 := Lib.hid (show wr.heap.size ≤ w5.heap.size from c5.size)
     clear c5
     have p_C0 := (d.out.cell (p := ⟨b, off + k * 4, none⟩) HBL.out).trans C0.out
     have p_C1 := (d.out.cell (p := ⟨b, off + k * 4 + 1, none⟩) HBL.out).trans C1.out
     have p_C2 := (d.out.cell (p := ⟨b, off + k * 4 + 2, none⟩) HBL.out).trans C2.out
     have p_C3 := (d.out.cell (p := ⟨b, off + k * 4 + 3, none⟩) HBL.out).trans C3.out
     have p_E0 := (d.out.cell (p := ⟨b2, off2 + k * 4, none⟩) HBL2.out).trans E0.out
     have p_E1 := (d.out.cell (p := ⟨b2, off2 + k * 4 + 1, none⟩) HBL2.out).trans E1.out
     have p_E2 := (d.out.cell (p := ⟨b2, off2 + k * 4 + 2, none⟩) HBL2.out).trans E2.out
     have p_E3 := (d.out.cell (p := ⟨b2, off2 + k * 4 + 3, none⟩) HBL2.out).trans E3.out
     refine hK.out _ _ ⟨p_C0, p_C1, p_C2, p_C3, p_E0, p_E1, p_E2, p_E3⟩ (fun hHeld => ?_)
     clear p_C0 p_C1 p_C2 p_C3 p_E0 p_E1 p_E2 p_E3
     clear hK K
     try simp only [Act.put, lA, lB, lC]
     refine tR (i := 49) (v := ?_) ?_ ?_; rotate_left
     ·
      intro w hSw; (try dsimp only at hSw); go_simp; try (with_reducible rfl)
     try simp only [Act.put, lA, lB, lC]
     refine tR (i := 50) (v := ?_) ?_ ?_; rotate_left
     ·
      intro w hSw; (try dsimp only at hSw); go_simp; try (with_reducible rfl)
     try simp only [Act.put, lA, lB, lC]
     refine wpAnyH_done (by kernel_rfl) ?_ _
     clear hHeld
     go_wp2
     go_roundw
     case rel => exact ⟨k + 1, by omega, by go_num, HA, d.out⟩
     case measure => simp [intOf]; omega
    ·
     have HF := Lib.hid (HNE.out (fun e => hxy (Prod.mk.inj (Prod.mk.inj e).2).1))
     rw [decide_eq_false hxy] at HSI
     clear hxy HNE HALL
     go_wp2
     have p_C0 := (d.out.cell (p := ⟨b, off + k * 4, none⟩) HBL.out).trans C0.out
     have p_C1 := (d.out.cell (p := ⟨b, off + k * 4 + 1, none⟩) HBL.out).trans C1.out
     have p_C2 := (d.out.cell (p := ⟨b, off + k * 4 + 2, none⟩) HBL.out).trans C2.out
     have p_C3 := (d.out.cell (p := ⟨b, off + k * 4 + 3, none⟩) HBL.out).trans C3.out
     have p_E0 := (d.out.cell (p := ⟨b2, off2 + k * 4, none⟩) HBL2.out).trans E0.out
     have p_E1 := (d.out.cell (p := ⟨b2, off2 + k * 4 + 1, none⟩) HBL2.out).trans E1.out
     have p_E2 := (d.out.cell (p := ⟨b2, off2 + k * 4 + 2, none⟩) HBL2.out).trans E2.out
     have p_E3 := (d.out.cell (p := ⟨b2, off2 + k * 4 + 3, none⟩) HBL2.out).trans E3.out
     refine wp_region_held_drew (S := fun w' => w'.cell? ⟨b, off + k * 4, none⟩ = some (Value.int .i64 id) ∧ w'.cell? ⟨b, off + k * 4 + 1, none⟩ = some (Value.slice xa xs.length xc) ∧ w'.cell? ⟨b, off + k * 4 + 2, none⟩ = some (Value.int .i64 born) ∧ w'.cell? ⟨b, off + k * 4 + 3, none⟩ = some (Value.int .i64 died) ∧ w'.cell? ⟨b2, off2 + k * 4, none⟩ = some (Value.int .i64 id) ∧ w'.cell? ⟨b2, off2 + k * 4 + 1, none⟩ = some (Value.slice ya ys.length yc) ∧ w'.cell? ⟨b2, off2 + k * 4 + 2, none⟩ = some (Value.int .i64 born) ∧ w'.cell? ⟨b2, off2 + k * 4 + 3, none⟩ = some (Value.int .i64 died)) (by kernel_rfl) ⟨p_C0, p_C1, p_C2, p_C3, p_E0, p_E1, p_E2, p_E3⟩ (fun hHeld => ?_)
     clear p_C0 p_C1 p_C2 p_C3 p_E0 p_E1 p_E2 p_E3
     have cdr : Below wr.heap.size wr wr.drew := below_drew (Below.refl _ _)
     replace d := Lib.hid (d.out.trans (cdr.mono d.out.size))
     clear cdr
     refine tR (i := 0) (v := ?_) ?_ ?_; rotate_left
     ·
      intro w hSw; (try dsimp only at hSw); go_simp; try (with_reducible rfl)
     try simp only [Act.put, lA, lB, lC]
     refine tR (i := 1) (v := ?_) ?_ ?_; rotate_left
     ·
      intro w hSw; (try dsimp only at hSw); go_simp; try (with_reducible rfl)
     try simp only [Act.put, lA, lB, lC]
     refine tR (i := 2) (v := ?_) ?_ ?_; rotate_left
     ·
      intro w hSw; (try dsimp only at hSw); go_simp; try (with_reducible rfl)
     try simp only [Act.put, lA, lB, lC]
     refine tR (i := 3) (v := ?_) ?_ ?_; rotate_left
     ·
      intro w hSw; (try dsimp only at hSw); go_simp; try (with_reducible rfl)
     try simp only [Act.put, lA, lB, lC]
     refine tR (i := 4) (v := ?_) ?_ ?_; rotate_left
     ·
      intro w hSw; (try dsimp only at hSw); go_simp; try (with_reducible rfl)
     try simp only [Act.put, lA, lB, lC]
     refine tR (i := 5) (v := ?_) ?_ ?_; rotate_left
     ·
      intro w hSw; (try dsimp only at hSw); go_simp; try (with_reducible rfl)
     try simp only [Act.put, lA, lB, lC]
     refine tR (i := 6) (v := ?_) ?_ ?_; rotate_left
     ·
      intro w hSw; (try dsimp only at hSw); go_simp; try (with_reducible rfl)
     try simp only [Act.put, lA, lB, lC]
     refine tR (i := 7) (v := ?_) ?_ ?_; rotate_left
     ·
      intro w hSw; (try dsimp only at hSw); go_simp; try (with_reducible rfl)
     try simp only [Act.put, lA, lB, lC]
     refine tR (i := 8) (v := ?_) ?_ ?_; rotate_left
     ·
      intro w hSw; (try dsimp only at hSw); go_simp; try (with_reducible rfl)
     try simp only [Act.put, lA, lB, lC]
     refine tR (i := 9) (v := ?_) ?_ ?_; rotate_left
     ·
      intro w hSw; (try dsimp only at hSw); go_simp; try (with_reducible rfl)
     try simp only [Act.put, lA, lB, lC]
     refine tR (i := 10) (v := .bool false) ?_ ?_
     ·
      intro w hSw; (try dsimp only at hSw); go_simp; all_goals first | (with_reducible rfl) | (rw [e1]; done) | (simpa using e1) | (simp [e1]; done) | (simp; omega)
     try simp only [Act.put, lA, lB, lC]
     refine tR (i := 11) (v := ?_) ?_ ?_; rotate_left
     ·
      intro w hSw; (try dsimp only at hSw); go_simp; try (with_reducible rfl)
     try simp only [Act.put, lA, lB, lC]
     refine tR (i := 12) (v := ?_) ?_ ?_; rotate_left
     ·
      intro w hSw; (try dsimp only at hSw); go_simp; try (with_reducible rfl)
     try simp only [Act.put, lA, lB, lC]
     refine tR (i := 13) (v := ?_) ?_ ?_; rotate_left
     ·
      intro w hSw; (try dsimp only at hSw); go_simp; try (with_reducible rfl)
     try simp only [Act.put, lA, lB, lC]
     refine tR (i := 14) (v := ?_) ?_ ?_; rotate_left
     ·
      intro w hSw; (try dsimp only at hSw); go_simp; try (with_reducible rfl)
     try simp only [Act.put, lA, lB, lC]
     refine tR (i := 15) (v := ?_) ?_ ?_; rotate_left
     ·
      intro w hSw; (try dsimp only at hSw); go_simp; try (with_reducible rfl)
     try simp only [Act.put, lA, lB, lC]
     refine tR (i := 16) (v := ?_) ?_ ?_; rotate_left
     ·
      intro w hSw; (try dsimp only at hSw); go_simp; try (with_reducible rfl)
     try simp only [Act.put, lA, lB, lC]
     refine tR (i := 17) (v := ?_) ?_ ?_; rotate_left
     ·
      intro w hSw; (try dsimp only at hSw); go_simp; try (with_reducible rfl)
     try simp only [Act.put, lA, lB, lC]
     refine tR (i := 18) (v := ?_) ?_ ?_; rotate_left
     ·
      intro w hSw; (try dsimp only at hSw); go_simp; try (with_reducible rfl)
     try simp only [Act.put, lA, lB, lC]
     refine tR (i := 19) (v := ?_) ?_ ?_; rotate_left
     ·
      intro w hSw; (try dsimp only at hSw); go_simp; try (with_reducible rfl)
     try simp only [Act.put, lA, lB, lC]
     refine tR (i := 20) (v := ?_) ?_ ?_; rotate_left
     ·
      intro w hSw; (try dsimp only at hSw); go_simp; try (with_reducible rfl)
     try simp only [Act.put, lA, lB, lC]
     refine tR (i := 21) (v := ?_) ?_ ?_; rotate_left
     ·
      intro w hSw; (try dsimp only at hSw); go_simp; try (with_reducible rfl)
     try simp only [Act.put, lA, lB, lC]
     refine tR (i := 22) (v := .bool false) ?_ ?_
     ·
      intro w hSw; (try dsimp only at hSw); go_simp; all_goals first | (with_reducible rfl) | (rw [e2]; done) | (simpa using e2) | (simp [e2]; done) | (simp; omega)
     try simp only [Act.put, lA, lB, lC]
     refine tR (i := 23) (v := ?_) ?_ ?_; rotate_left
     ·
      intro w hSw; (try dsimp only at hSw); go_simp; try (with_reducible rfl)
     try simp only [Act.put, lA, lB, lC]
     refine tR (i := 24) (v := ?_) ?_ ?_; rotate_left
     ·
      intro w hSw; (try dsimp only at hSw); go_simp; try (with_reducible rfl)
     try simp only [Act.put, lA, lB, lC]
     refine tR (i := 25) (v := ?_) ?_ ?_; rotate_left
     ·
      intro w hSw; (try dsimp only at hSw); go_simp; try (with_reducible rfl)
     try simp only [Act.put, lA, lB, lC]
     refine tR (i := 26) (v := ?_) ?_ ?_; rotate_left
     ·
      intro w hSw; (try dsimp only at hSw); go_simp; try (with_reducible rfl)
     try simp only [Act.put, lA, lB, lC]
     refine tR (i := 27) (v := ?_) ?_ ?_; rotate_left
     ·
      intro w hSw; (try dsimp only at hSw); go_simp; try (with_reducible rfl)
     try simp only [Act.put, lA, lB, lC]
     refine tR (i := 28) (v := ?_) ?_ ?_; rotate_left
     ·
      intro w hSw; (try dsimp only at hSw); go_simp; try (with_reducible rfl)
     try simp only [Act.put, lA, lB, lC]
     refine tR (i := 29) (v := ?_) ?_ ?_; rotate_left
     ·
      intro w hSw; (try dsimp only at hSw); go_simp; try (with_reducible rfl)
     try simp only [Act.put, lA, lB, lC]
     refine tR (i := 30) (v := ?_) ?_ ?_; rotate_left
     ·
      intro w hSw; (try dsimp only at hSw); go_simp; try (with_reducible rfl)
     try simp only [Act.put, lA, lB, lC]
     refine tR (i := 31) (v := ?_) ?_ ?_; rotate_left
     ·
      intro w hSw; (try dsimp only at hSw); go_simp; try (with_reducible rfl)
     try simp only [Act.put, lA, lB, lC]
     refine tR (i := 32) (v := ?_) ?_ ?_; rotate_left
     ·
      intro w hSw; (try dsimp only at hSw); go_simp; try (with_reducible rfl)
     try simp only [Act.put, lA, lB, lC]
     refine tR (i := 33) (v := ?_) ?_ ?_; rotate_left
     ·
      intro w hSw; (try dsimp only at hSw); go_simp; try (with_reducible rfl)
     try simp only [Act.put, lA, lB, lC]
     refine tR (i := 34) (v := ?_) ?_ ?_; rotate_left
     ·
      intro w hSw; (try dsimp only at hSw); go_simp; try (with_reducible rfl)
     try simp only [Act.put, lA, lB, lC]
     refine tR (i := 35) (v := .bool false) ?_ ?_
     ·
      intro w hSw; (try dsimp only at hSw); go_simp; all_goals first | (with_reducible rfl) | (rw [e3]; done) | (simpa using e3) | (simp [e3]; done) | (simp; omega)
     try simp only [Act.put, lA, lB, lC]
     refine tR (i := 36) (v := ?_) ?_ ?_; rotate_left
     ·
      intro w hSw; (try dsimp only at hSw); go_simp; try (with_reducible rfl)
     try simp only [Act.put, lA, lB, lC]
     refine tR (i := 37) (v := ?_) ?_ ?_; rotate_left
     ·
      intro w hSw; (try dsimp only at hSw); go_simp; try (with_reducible rfl)
     try simp only [Act.put, lA, lB, lC]
     refine tR (i := 38) (v := ?_) ?_ ?_; rotate_left
     ·
      intro w hSw; (try dsimp only at hSw); go_simp; try (with_reducible rfl)
     try simp only [Act.put, lA, lB, lC]
     refine tR (i := 39) (v := ?_) ?_ ?_; rotate_left
     ·
      intro w hSw; (try dsimp only at hSw); go_simp; try (with_reducible rfl)
     try simp only [Act.put, lA, lB, lC]
     refine tR (i := 40) (v := ?_) ?_ ?_; rotate_left
     ·
      intro w hSw; (try dsimp only at hSw); go_simp; try (with_reducible rfl)
     try simp only [Act.put, lA, lB, lC]
     refine tR (i := 41) (v := ?_) ?_ ?_; rotate_left
     ·
      intro w hSw; (try dsimp only at hSw); go_simp; try (with_reducible rfl)
     try simp only [Act.put, lA, lB, lC]
     refine tR (i := 42) (v := ?_) ?_ ?_; rotate_left
     ·
      intro w hSw; (try dsimp only at hSw); go_simp; try (with_reducible rfl)
     try simp only [Act.put, lA, lB, lC]
     refine tR (i := 43) (v := ?_) ?_ ?_; rotate_left
     ·
      intro w hSw; (try dsimp only at hSw); go_simp; try (with_reducible rfl)
     try simp only [Act.put, lA, lB, lC]
     refine tR (i := 44) (v := ?_) ?_ ?_; rotate_left
     ·
      intro w hSw; (try dsimp only at hSw); go_simp; try (with_reducible rfl)
     try simp only [Act.put, lA, lB, lC]
     refine tR (i := 45) (v := ?_) ?_ ?_; rotate_left
     ·
      intro w hSw; (try dsimp only at hSw); go_simp; try (with_reducible rfl)
     try simp only [Act.put, lA, lB, lC]
     refine tR (i := 46) (v := ?_) ?_ ?_; rotate_left
     ·
      intro w hSw; (try dsimp only at hSw); go_simp; try (with_reducible rfl)
     try simp only [Act.put, lA, lB, lC]
     refine tR (i := 47) (v := ?_) ?_ ?_; rotate_left
     ·
      intro w hSw; (try dsimp only at hSw); go_simp; try (with_reducible rfl)
     try simp only [Act.put, lA, lB, lC]
     refine wpAnyH_ready (rs := [48]) (by kernel_rfl) (by simp) ?_
     refine (AllReadyH.cons (o := _) (by simp only [hA, hB, hC]; rfl) (fun K hK => ?_) AllReadyH.nil)
     go_simp
     refine (HSI.out (wr.drew) (ints_below HX.out d.out) (ints_below HY.out d.out)).mono ?_
     rintro e w5 ⟨rfl, c5⟩
     replace d := Lib.hid (d.out.trans (c5.mono d.out.size))
     have Z_w5 := Lib.hid (show wr.heap.size ≤ w5.heap.size from c5.size)
     clear c5
     have p_C0 := (d.out.cell (p := ⟨b, off + k * 4, none⟩) HBL.out).trans C0.out
     have p_C1 := (d.out.cell (p := ⟨b, off + k * 4 + 1, none⟩) HBL.out).trans C1.out
     have p_C2 := (d.out.cell (p := ⟨b, off + k * 4 + 2, none⟩) HBL.out).trans C2.out
     have p_C3 := (d.out.cell (p := ⟨b, off + k * 4 + 3, none⟩) HBL.out).trans C3.out
     have p_E0 := (d.out.cell (p := ⟨b2, off2 + k * 4, none⟩) HBL2.out).trans E0.out
     have p_E1 := (d.out.cell (p := ⟨b2, off2 + k * 4 + 1, none⟩) HBL2.out).trans E1.out
     have p_E2 := (d.out.cell (p := ⟨b2, off2 + k * 4 + 2, none⟩) HBL2.out).trans E2.out
     have p_E3 := (d.out.cell (p := ⟨b2, off2 + k * 4 + 3, none⟩) HBL2.out).trans E3.out
     refine hK.out _ _ ⟨p_C0, p_C1, p_C2, p_C3, p_E0, p_E1, p_E2, p_E3⟩ (fun hHeld => ?_)
     clear p_C0 p_C1 p_C2 p_C3 p_E0 p_E1 p_E2 p_E3
     clear hK K
     try simp only [Act.put, lA, lB, lC]
     refine tR (i := 49) (v := ?_) ?_ ?_; rotate_left
     ·
      intro w hSw; (try dsimp only at hSw); go_simp; try (with_reducible rfl)
     try simp only [Act.put, lA, lB, lC]
     refine tR (i := 50) (v := ?_) ?_ ?_; rotate_left
     ·
      intro w hSw; (try dsimp only at hSw); go_simp; try (with_reducible rfl)
     try simp only [Act.put, lA, lB, lC]
     refine wpAnyH_done (by kernel_rfl) ?_ _
     clear hHeld
     go_wp2
     go_ret
     exact ⟨ret_b HF.out.symm, d.out⟩
   ·
    obtain rfl : k = l.length := by omega
    have HE := Lib.hid (decide_eq_true (vers_eq_all HL.out hall.out))
    clear hall
    go_wp2
    go_ret
    exact ⟨ret_b HE.out.symm, hbel⟩
 ·
  have HF := Lib.hid (decide_eq_false (show ¬ l = m from fun e => hl (by rw [e])))
  have hne : ((l.length : Int) != (m.length : Int)) = true := by rw [bne_iff_ne]; omega
  clear hl
  go_enter Try.func111, Try.ntmps111
  go_wp2
  go_ret
  exact ⟨ret_b HF.out.symm, Below.refl _ _⟩
def newP (rs : List RowD) (g : Int) : Prop := areB rs = true ∧ (1 ≤ g ∧ g ≤ 8) ∧ (rs.length : Int) ≤ 4 * g
instance (rs : List RowD) (g : Int) : Decidable (newP rs g) := by unfold newP; infer_instance
end Go.Proofs.Ytdhglmoanpkeoaa
