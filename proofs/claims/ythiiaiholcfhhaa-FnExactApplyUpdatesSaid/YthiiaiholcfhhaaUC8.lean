/-
 Texts of the proof, merged: VerSize, UpdSpec7, VerP5, VerP6, CopyVersX.
-/
import Derived.Test.YthiiaiholcfhhaaUC2
import Derived.Test.YthiiaiholcfhhaaUC3
import Derived.Test.YthiiaiholcfhhaaUC4
import Derived.Test.YthiiaiholcfhhaaUC5
import Derived.Test.YthiiaiholcfhhaaUC6
import Derived.Test.YthiiaiholcfhhaaUC7
namespace Go.Proofs.Ythiiaiholcfhhaa
open Go.RowKit
set_option linter.unusedVariables false
set_option linter.unusedSimpArgs false
theorem rowB_three {r : RowD} (h : rowB r = true) : r.2.length = 3 := by
 unfold rowB at h
 rw [Bool.and_eq_true, Bool.and_eq_true] at h
 exact of_decide_eq_true h.2.2
theorem verB_three {v : VerD} {now : Int} (h : verB v now = true) : v.2.1.length = 3 := by
 unfold verB at h
 rw [Bool.and_eq_true] at h
 exact rowB_three h.1
theorem sum_le_mul {c : Nat} : ∀ {l : List Nat}, (∀ x ∈ l, x ≤ c) → l.sum ≤ c * l.length
 | [], _ => by simp
 | x :: l, h => by
  have h1 := h x (by simp)
  have h2 := sum_le_mul (l := l) (c := c) (fun y hy => h y (by simp [hy]))
  simp only [List.sum_cons, List.length_cons, Nat.mul_add, Nat.mul_one]
  omega
theorem zL_threes {l : List VerD} (h : ∀ j, j < l.length → (l.getD j v0D).2.1.length ≤ 3) : zL tVersion l ≤ 4 * l.length := by
 rw [zL_sum]
 have := sum_le_mul (c := 3) (l := l.map tVersion.sz) (fun x hx => by
  obtain ⟨v, hv, rfl⟩ := List.mem_map.1 hx
  obtain ⟨j, hj, rfl⟩ := List.getElem_of_mem hv
  rw [ver_sz]
  have := h j hj
  simpa [List.getD, hj] using this)
 rw [List.length_map] at this
 omega
theorem flat_short {ss : List (List VerD)} (h : ShortP ss ss.length) : ss.flatten.length ≤ 4 * ss.length := by
 rw [List.length_flatten]
 have := sum_le_mul (c := 4) (l := ss.map List.length) (fun x hx => by
  obtain ⟨s, hs, rfl⟩ := List.mem_map.1 hx
  obtain ⟨j, hj, rfl⟩ := List.getElem_of_mem hs
  have := h j hj
  simpa [List.getD, hj] using this)
 rw [List.length_map] at this
 exact this
theorem store_small {ss : List (List VerD)} {now : Int} (h : storeB ss now = true) : zL tVersionS ss ≤ 136 := by
 obtain ⟨⟨h1, _⟩, h2, h3⟩ := store_iff h
 have g1 := flat_short h2
 have g2 := zL_threes (l := ss.flatten) (fun j hj => Nat.le_of_eq (verB_three (h3 j hj).1))
 have g3 := zL_all ss
 omega
/-- A new store and a number. -/
def FreshNI (w : World) (r : StoreD × Int) (e : Ending) (w' : World) : Prop := ∃ (g0 : List Value) (G0 : Nat → Prop), e = .returned (.tuple #[.agg g0.toArray, .int .i64 r.2]) ∧ tStore.O w' G0 g0 r.1 ∧ (∀ b, G0 b → w.heap.size ≤ b) ∧ Below w.heap.size w w'
theorem applys_small {s : StoreD} {l : List UpdD} (hs : zL tVersionS s.1 ≤ 1048576) {k : Nat} (hk : k ≤ l.length) : zL tVersionS (applysTo s l k).1.1 ≤ 1048576 := by
 cases h : storeB s.1 s.2 with
 | false => rw [applys_bad h hk]; exact hs
 | true => have := store_small (applys_store (l := l) h hk); omega
theorem updR_at {w : World} {v : Value} {l : List UpdD} (h : SlR tUpdate w v l) {k : Nat} (hk : k < l.length) :
  ∃ (b off cap : Nat) (a : Option Addr) (c : Nat), v = .slice (some ⟨b, off, none⟩) l.length cap ∧ b < w.heap.size ∧
   w.cell? ⟨b, off + k * 5, none⟩ = some (.int .i64 (l.getD k u0D).1) ∧ w.cell? ⟨b, off + k * 5 + 1, none⟩ = some (.int .i64 (l.getD k u0D).2.1.1) ∧ w.cell? ⟨b, off + k * 5 + 2, none⟩ = some (.slice a (l.getD k u0D).2.1.2.length c) ∧
   w.cell? ⟨b, off + k * 5 + 3, none⟩ = some (.int .i64 (l.getD k u0D).2.2.1) ∧ w.cell? ⟨b, off + k * 5 + 4, none⟩ = some (.int .i64 (l.getD k u0D).2.2.2) ∧ SlR tInt w (.slice a (l.getD k u0D).2.1.2.length c) (l.getD k u0D).2.1.2 := by
 obtain ⟨b, off, cap, cs, hv, hb, hc, hR⟩ := slR_at h hk
 change tUpdate.R w cs (l.getD k u0D) at hR
 generalize l.getD k u0D = r at *
 obtain ⟨k0, ⟨i, xs⟩, f, x⟩ := r
 obtain ⟨v1, rfl, h1⟩ := tUpdate_R hR
 obtain ⟨a, c, rfl⟩ := slR_len h1
 exact ⟨b, off, cap, a, c, hv, hb, hc 0 (by decide), hc 1 (by decide), hc 2 (by decide), hc 3 (by decide), hc 4 (by decide), h1⟩
theorem upd_len {l : List UpdD} (hs : zL tUpdate l ≤ 1048576) {k : Nat} (hk : k < l.length) : (l.getD k u0D).2.1.2.length ≤ 1048576 := by
 have h := zL_at (T := tUpdate) hs hk
 change tUpdate.sz (l.getD k u0D) ≤ 1048576 at h
 generalize l.getD k u0D = r at *
 obtain ⟨k0, ⟨i, xs⟩, f, x⟩ := r
 rw [tUpdate_sz, zL_ints] at h
 exact h
set_option maxHeartbeats 32000000 in
set_option maxRecDepth 100000 in
theorem specApplyUpdates (now : Int) (sv lv : Value) (ss : List (List VerD)) (l : List UpdD) (w : World) (h : SlR tVersionS w sv ss) (hs : zL tVersionS ss ≤ 1048576) (g : SlR tUpdate w lv l) (ht : zL tUpdate l ≤ 1048576) :
  Calls Try.prog 23 #[.agg #[sv, .int .i64 now], lv] w (FreshNI w (applysB (ss, now) l)) := by
 obtain ⟨a, cap, rfl⟩ := slR_len h
 have hlen := zL_len ht
 have HSM := Lib.hid (fun k hk => applys_small (s := (ss, now)) (l := l) hs (k := k) hk)
 have HT := Lib.hid ht
 have H := Lib.hid h
 have G := Lib.hid g
 have HC := Lib.hid (fun W h => specCopy (.slice a ss.length cap) ss now W h hs)
 obtain ⟨la, lc, rfl⟩ := slR_len g
 clear h g hs ht
 have d := Lib.hid (show Below w.heap.size w ((w.alloc (.cells #[.slice a ss.length cap, .int .i64 now] 41)).alloc (.cells #[.slice none 0 0, .int .i64 0] 41)) from ((Below.refl _ _).alloc (Nat.le_refl _) _).alloc (by simp <;> omega) _)
 have B0 : Hid (((w.alloc (.cells #[.slice a ss.length cap, .int .i64 now] 41)).alloc (.cells #[.slice none 0 0, .int .i64 0] 41)).heap[w.heap.size]? = some (.cells #[.slice a ss.length cap, .int .i64 now] 41 (0, 0))) := Lib.hid (by
  rw [Below.heap_alloc _ _ _ (by simp)]; exact heap_alloc_new w _)
 have BZ : Hid (((w.alloc (.cells #[.slice a ss.length cap, .int .i64 now] 41)).alloc (.cells #[.slice none 0 0, .int .i64 0] 41)).heap[(w.heap.size + 1)]? = some (.cells #[.slice none 0 0, .int .i64 0] 41 (0, 0))) := Lib.hid (by
  have := heap_alloc_new (w.alloc (.cells #[.slice a ss.length cap, .int .i64 now] 41)) (.cells #[.slice none 0 0, .int .i64 0] 41)
  simpa only [World.size_alloc] using this)
 have YW : Hid (w.heap.size + 1 < ((w.alloc (.cells #[.slice a ss.length cap, .int .i64 now] 41)).alloc (.cells #[.slice none 0 0, .int .i64 0] 41)).heap.size) := Lib.hid (by simp)
 go_enter Try.func23, Try.ntmps23
 go_wp2_with fail
 generalize ((w.alloc (.cells #[.slice a ss.length cap, .int .i64 now] 41)).alloc (.cells #[.slice none 0 0, .int .i64 0] 41)) = W at *
 refine (HC.out W (slR_below tVersionS_law H.out d.out)).mono ?_
 rintro e w4 ⟨cs, rfl, oc, c4⟩
 obtain ⟨fv, F4, rfl, of, q4⟩ := tStore_O (tStore_law.lt oc)
 obtain ⟨fa, fc, rfl⟩ := slO_len of
 have PF := Lib.hid (slO_mono of q4)
 replace B0 := Lib.hid ((c4.block w.heap.size (Array.getElem?_eq_some_iff.1 B0.out).1).trans B0.out)
 replace BZ := Lib.hid ((c4.block (w.heap.size + 1) (Array.getElem?_eq_some_iff.1 BZ.out).1).trans BZ.out)
 replace d := Lib.hid (d.out.trans (c4.mono d.out.size))
 have Z_w4 := Lib.hid (show W.heap.size ≤ w4.heap.size from c4.size)
 have QF := Lib.hid (fun q (h : since W q ∧ q < w4.heap.size) => (show W.heap.size ≤ q ∧ q < w4.heap.size from h))
 clear oc of q4 c4
 have hal : Below w4.heap.size w4 (w4.alloc (.cells #[.slice fa ss.length fc, .int .i64 now] 41)) := (Below.refl _ _).alloc (Nat.le_refl _) _
 have BX := Lib.hid (heap_alloc_new w4 (.cells #[.slice fa ss.length fc, .int .i64 now] 41))
 have Y_X := Lib.hid (show w4.heap.size < (w4.alloc (.cells #[.slice fa ss.length fc, .int .i64 now] 41)).heap.size by simp [World.size_alloc])
 replace B0 := Lib.hid ((hal.block w.heap.size (Array.getElem?_eq_some_iff.1 B0.out).1).trans B0.out)
 replace BZ := Lib.hid ((hal.block (w.heap.size + 1) (Array.getElem?_eq_some_iff.1 BZ.out).1).trans BZ.out)
 replace PF := Lib.hid (slO_fresh tVersionS_law PF.out hal)
 replace d := Lib.hid (d.out.trans (hal.mono d.out.size))
 clear hal
 go_wp2
 generalize (w4.alloc (.cells #[.slice fa ss.length fc, .int .i64 now] 41)) = w5 at *
 have y0 := YW.out
 have y1 := Z_w4.out
 have y2 := Y_X.out
 have PF2 := Lib.hid (slO_mono PF.out (F' := fun q => w.heap.size + 1 < q ∧ q ≠ w4.heap.size) (fun q h => by have r := QF.out q h; exact ⟨by omega, by omega⟩))
 have ZZ : Hid (w.heap.size + 1 < w4.heap.size ∧ w4.heap.size < w5.heap.size) := Lib.hid ⟨by omega, by omega⟩
 clear PF QF YW Z_w4 Y_X y0 y1 y2
 generalize w4.heap.size = R at *
 go_loopw [7, 8] (fun n i wr => ∃ (k : Nat) (fv : Value) (sk : List (List VerD)) (nk cnt : Int), k ≤ l.length ∧ i = .int .i64 k ∧ n = .int .i64 cnt ∧ Hid (applysTo (ss, now) l k = ((sk, nk), cnt)) ∧ wr.heap[w.heap.size]? = some (.cells #[.slice a ss.length cap, .int .i64 now] 41 (0, 0)) ∧ wr.heap[w.heap.size + 1]? = some (.cells #[.slice none 0 0, .int .i64 0] 41 (0, 0)) ∧ wr.heap[R]? = some (.cells #[fv, .int .i64 nk] 41 (0, 0)) ∧ SlO 89 tVersionS wr (fun q => w.heap.size + 1 < q ∧ q ≠ R) fv sk ∧ Below w.heap.size w wr ∧ R < wr.heap.size) (fun _ i _ => l.length - (intOf i).toNat)
 case atStart => exact ⟨0, _, _, _, 0, Nat.zero_le _, rfl, rfl, Lib.hid (applys_zero (ss, now) l), B0.out, BZ.out, BX.out, PF2.out, d.out, ZZ.out.2⟩
 case round =>
  obtain ⟨k, fv, sk, nk, cnt, hk, rfl, rfl, HST, r0, r1, r2, hown, hbel, hsz⟩ := hrel
  have hcn := applys_count (s := (ss, now)) (l := l) hk
  rw [HST.out] at hcn
  have n1 : 0 ≤ cnt := hcn.1
  have n2 : cnt ≤ 1048576 := by have h2 : cnt ≤ (k : Int) := hcn.2; omega
  have hsm : zL tVersionS sk ≤ 1048576 := by have h2 := HSM.out k hk; rw [HST.out] at h2; exact h2
  clear B0 BZ BX PF2 d
  obtain ⟨fa, fc, rfl⟩ := slO_len hown
  by_cases hlt : k < l.length
  ·
   have i1 : (0 : Int) ≤ (k : Int) := by omega
   have i2 : (k : Int) < (l.length : Int) := by omega
   obtain ⟨b, off, cap', ua, uc, hv, hbl, c0, c1, c2, c3, c4, hx⟩ := updR_at G.out hlt
   simp only [Value.slice.injEq] at hv
   obtain ⟨rfl, _, rfl⟩ := hv
   have hul := upd_len HT.out hlt
   have HNX := applys_step (s := (ss, now)) hlt
   rw [HST.out] at HNX
   replace HNX := Lib.hid HNX
   generalize l.getD k u0D = u at *
   obtain ⟨uk, ⟨uid, uxs⟩, uf, ux⟩ := u
   simp only at c0 c1 c2 c3 c4 hul
   change SlR tInt w (.slice ua uxs.length uc) uxs at hx
   have HCU := Lib.hid (fun W h g => specApplyUpdate uk uid uf ux nk (.slice fa sk.length fc) (.slice ua uxs.length uc) sk uxs W h hsm g hul)
   change Hid (applysTo (ss, now) l (k + 1) = ((applyB (sk, nk) (uk, (uid, uxs), uf, ux)).1, if (applyB (sk, nk) (uk, (uid, uxs), uf, ux)).2 = true then cnt + 1 else cnt)) at HNX
   have C0 := Lib.hid c0
   have C1 := Lib.hid c1
   have C2 := Lib.hid c2
   have C3 := Lib.hid c3
   have C4 := Lib.hid c4
   have HBL := Lib.hid hbl
   have GX := Lib.hid hx
   have B0 := Lib.hid r0
   have BZ := Lib.hid r1
   have BX := Lib.hid r2
   have PF := Lib.hid (slO_lt tVersionS_law hown)
   have d := Lib.hid hbel
   have ZR := Lib.hid hsz
   have ZR2 := Lib.hid ZZ.out.1
   clear c0 c1 c2 c3 c4 hbl hx r0 r1 r2 hown hbel hsz hsm hul HST hcn
   obtain ⟨⟨⟨s2, m2⟩, is⟩, hap⟩ : ∃ p, p = applyB (sk, nk) (uk, (uid, uxs), uf, ux) := ⟨_, rfl⟩
   rw [← hap] at HNX HCU
   clear hap
   cases is with
   | false =>
    have HN2 : Hid (applysTo (ss, now) l (k + 1) = ((s2, m2), cnt)) := HNX
    clear HNX
    have QF := Lib.hid (fun q (h : (w.heap.size + 1 < q ∧ q ≠ R) ∧ q < wr.heap.size) => h)
    go_wp2
    have p_BX_0 := (cell_of_row wr _ 0 _ _ _ BX.out).trans (show _ = some (Value.slice fa sk.length fc) from rfl)
    have p_BX_1 := (cell_of_row wr _ 1 _ _ _ BX.out).trans (show _ = some (Value.int .i64 nk) from rfl)
    have p_C0 := (d.out.cell (p := ⟨b, off + k * 5, none⟩) HBL.out).trans C0.out
    have p_C1 := (d.out.cell (p := ⟨b, off + k * 5 + 1, none⟩) HBL.out).trans C1.out
    have p_C2 := (d.out.cell (p := ⟨b, off + k * 5 + 2, none⟩) HBL.out).trans C2.out
    have p_C3 := (d.out.cell (p := ⟨b, off + k * 5 + 3, none⟩) HBL.out).trans C3.out
    have p_C4 := (d.out.cell (p := ⟨b, off + k * 5 + 4, none⟩) HBL.out).trans C4.out
    refine wp_region_held_drew (S := fun w' => w'.cell? ⟨R, 0, none⟩ = some (Value.slice fa sk.length fc) ∧ w'.cell? ⟨R, 1, none⟩ = some (Value.int .i64 nk) ∧ w'.cell? ⟨b, off + k * 5, none⟩ = some (Value.int .i64 uk) ∧ w'.cell? ⟨b, off + k * 5 + 1, none⟩ = some (Value.int .i64 uid) ∧ w'.cell? ⟨b, off + k * 5 + 2, none⟩ = some (Value.slice ua uxs.length uc) ∧ w'.cell? ⟨b, off + k * 5 + 3, none⟩ = some (Value.int .i64 uf) ∧ w'.cell? ⟨b, off + k * 5 + 4, none⟩ = some (Value.int .i64 ux)) (by kernel_rfl) ⟨p_BX_0, p_BX_1, p_C0, p_C1, p_C2, p_C3, p_C4⟩ (fun hHeld => ?_)
    clear p_BX_0 p_BX_1 p_C0 p_C1 p_C2 p_C3 p_C4
    have cdr : Below wr.heap.size wr wr.drew := below_drew (Below.refl _ _)
    replace BZ := Lib.hid ((cdr.block (w.heap.size + 1) (Array.getElem?_eq_some_iff.1 BZ.out).1).trans BZ.out)
    replace B0 := Lib.hid ((cdr.block w.heap.size (Array.getElem?_eq_some_iff.1 B0.out).1).trans B0.out)
    replace BX := Lib.hid ((cdr.block R (Array.getElem?_eq_some_iff.1 BX.out).1).trans BX.out)
    replace PF := Lib.hid (slO_fresh tVersionS_law PF.out cdr)
    replace d := Lib.hid (d.out.trans (cdr.mono d.out.size))
    clear cdr
    have Z_dr := Lib.hid (show wr.heap.size ≤ wr.drew.heap.size from Nat.le_refl _)
    generalize wr.drew = Wd at *
    refine tR (i := 0) (v := ?_) ?_ ?_; rotate_left
    ·
     intro w hSw; (try dsimp only at hSw); go_simp; try (with_reducible rfl)
    try simp only [Act.put, lA, lB, lC]
    refine tR (i := 1) (v := ?_) ?_ ?_; rotate_left
    ·
     intro w hSw; (try dsimp only at hSw); go_simp; try (with_reducible rfl)
    try simp only [Act.put, lA, lB, lC]
    refine tR (i := 2) (v := ?_) ?_ ?_; rotate_left
    ·
     intro w hSw; (try dsimp only at hSw); go_simp; try (with_reducible rfl)
    try simp only [Act.put, lA, lB, lC]
    refine tR (i := 3) (v := ?_) ?_ ?_; rotate_left
    ·
     intro w hSw; (try dsimp only at hSw); go_simp; try (with_reducible rfl)
    try simp only [Act.put, lA, lB, lC]
    refine tR (i := 4) (v := ?_) ?_ ?_; rotate_left
    ·
     intro w hSw; (try dsimp only at hSw); go_simp; try (with_reducible rfl)
    try simp only [Act.put, lA, lB, lC]
    refine wpAnyH_ready (rs := [5, 9]) (by kernel_rfl) (by simp) ?_
    refine (AllReadyH.cons (o := _) (by simp only [hA, hB, hC]; rfl) (fun K hK => ?_) (AllReadyH.cons (o := _) (by simp only [hA, hB, hC]; rfl) (fun K hK => ?_) AllReadyH.nil))
    ·
     go_simp
     refine (HCU.out Wd (slO_reads tVersionS_law PF.out) (slR_below tInt_law GX.out d.out)).mono ?_
     rintro e w6 ⟨g0, G0, rfl, og, qg, c6⟩
     obtain ⟨sv2, F2, rfl, o2, q2⟩ := tStore_O (tStore_law.lt og)
     obtain ⟨sa, sc, rfl⟩ := slO_len o2
     have P2 := Lib.hid (slO_mono o2 q2)
     have Q2 := Lib.hid (fun q (h : G0 q ∧ q < w6.heap.size) => (show Wd.heap.size ≤ q ∧ q < w6.heap.size from ⟨qg q h.1, h.2⟩))
     replace BZ := Lib.hid ((c6.block (w.heap.size + 1) (Array.getElem?_eq_some_iff.1 BZ.out).1).trans BZ.out)
     replace B0 := Lib.hid ((c6.block w.heap.size (Array.getElem?_eq_some_iff.1 B0.out).1).trans B0.out)
     replace BX := Lib.hid ((c6.block R (Array.getElem?_eq_some_iff.1 BX.out).1).trans BX.out)
     replace PF := Lib.hid (slO_fresh tVersionS_law PF.out c6)
     replace d := Lib.hid (d.out.trans (c6.mono d.out.size))
     have Z_w6 := Lib.hid (show Wd.heap.size ≤ w6.heap.size from c6.size)
     clear og qg c6 o2 q2
     have p_BX_0 := (cell_of_row w6 _ 0 _ _ _ BX.out).trans (show _ = some (Value.slice fa sk.length fc) from rfl)
     have p_BX_1 := (cell_of_row w6 _ 1 _ _ _ BX.out).trans (show _ = some (Value.int .i64 nk) from rfl)
     have p_C0 := (d.out.cell (p := ⟨b, off + k * 5, none⟩) HBL.out).trans C0.out
     have p_C1 := (d.out.cell (p := ⟨b, off + k * 5 + 1, none⟩) HBL.out).trans C1.out
     have p_C2 := (d.out.cell (p := ⟨b, off + k * 5 + 2, none⟩) HBL.out).trans C2.out
     have p_C3 := (d.out.cell (p := ⟨b, off + k * 5 + 3, none⟩) HBL.out).trans C3.out
     have p_C4 := (d.out.cell (p := ⟨b, off + k * 5 + 4, none⟩) HBL.out).trans C4.out
     refine hK.out _ _ ⟨p_BX_0, p_BX_1, p_C0, p_C1, p_C2, p_C3, p_C4⟩ (fun hHeld => ?_)
     clear p_BX_0 p_BX_1 p_C0 p_C1 p_C2 p_C3 p_C4
     clear hK K
     try simp only [Act.put, lA, lB, lC]
     refine tR (i := 6) (v := ?_) ?_ ?_; rotate_left
     ·
      intro w hSw; (try dsimp only at hSw); go_simp; try (with_reducible rfl)
     try simp only [Act.put, lA, lB, lC]
     refine tR (i := 7) (v := ?_) ?_ ?_; rotate_left
     ·
      intro w hSw; (try dsimp only at hSw); go_simp; try (with_reducible rfl)
     try simp only [Act.put, lA, lB, lC]
     refine tR (i := 8) (v := ?_) ?_ ?_; rotate_left
     ·
      intro w hSw; (try dsimp only at hSw); go_simp; try (with_reducible rfl)
     try simp only [Act.put, lA, lB, lC]
     refine wpAnyH_ready (rs := [9]) (by kernel_rfl) (by simp) ?_
     refine (AllReadyH.cons (o := _) (by simp only [hA, hB, hC]; rfl) (fun K hK => ?_) AllReadyH.nil)
     go_simp
     have hal : Below w6.heap.size w6 (w6.alloc (.cells #[.slice none 0 0, .int .i64 0] 41)) := (Below.refl _ _).alloc (Nat.le_refl _) _
     have BY := Lib.hid (heap_alloc_new w6 (.cells #[.slice none 0 0, .int .i64 0] 41))
     have Y_Y := Lib.hid (show w6.heap.size < (w6.alloc (.cells #[.slice none 0 0, .int .i64 0] 41)).heap.size by simp [World.size_alloc])
     replace BZ := Lib.hid ((hal.block (w.heap.size + 1) (Array.getElem?_eq_some_iff.1 BZ.out).1).trans BZ.out)
     replace B0 := Lib.hid ((hal.block w.heap.size (Array.getElem?_eq_some_iff.1 B0.out).1).trans B0.out)
     replace BX := Lib.hid ((hal.block R (Array.getElem?_eq_some_iff.1 BX.out).1).trans BX.out)
     replace PF := Lib.hid (slO_fresh tVersionS_law PF.out hal)
     replace P2 := Lib.hid (slO_fresh tVersionS_law P2.out hal)
     replace d := Lib.hid (d.out.trans (hal.mono d.out.size))
     clear hal
     generalize (w6.alloc (.cells #[.slice none 0 0, .int .i64 0] 41)) = V1 at *
     have p_BX_0 := (cell_of_row V1 _ 0 _ _ _ BX.out).trans (show _ = some (Value.slice fa sk.length fc) from rfl)
     have p_BX_1 := (cell_of_row V1 _ 1 _ _ _ BX.out).trans (show _ = some (Value.int .i64 nk) from rfl)
     have p_C0 := (d.out.cell (p := ⟨b, off + k * 5, none⟩) HBL.out).trans C0.out
     have p_C1 := (d.out.cell (p := ⟨b, off + k * 5 + 1, none⟩) HBL.out).trans C1.out
     have p_C2 := (d.out.cell (p := ⟨b, off + k * 5 + 2, none⟩) HBL.out).trans C2.out
     have p_C3 := (d.out.cell (p := ⟨b, off + k * 5 + 3, none⟩) HBL.out).trans C3.out
     have p_C4 := (d.out.cell (p := ⟨b, off + k * 5 + 4, none⟩) HBL.out).trans C4.out
     refine hK.out _ _ ⟨p_BX_0, p_BX_1, p_C0, p_C1, p_C2, p_C3, p_C4⟩ (fun hHeld => ?_)
     clear p_BX_0 p_BX_1 p_C0 p_C1 p_C2 p_C3 p_C4
     clear hK K
     try simp only [Act.put, lA, lB, lC]
     refine wpAnyH_ready (rs := [10]) (by kernel_rfl) (by simp) ?_
     refine (AllReadyH.cons (o := _) (by simp only [hA, hB, hC]; rfl) (fun K hK => ?_) AllReadyH.nil)
     have p_BY_0 := (cell_of_row V1 _ 0 _ _ _ BY.out).trans (show _ = some (Value.slice none 0 0) from rfl)
     have p_BY_1 := (cell_of_row V1 _ 1 _ _ _ BY.out).trans (show _ = some (Value.int .i64 0) from rfl)
     have f_BY_0 := frozen_of_row V1 _ 0 _ _ BY.out
     have f_BY_1 := frozen_of_row V1 _ 1 _ _ BY.out
     go_simp
     clear p_BY_0 p_BY_1 f_BY_0 f_BY_1
     have tt : Turn (fun q => q = w6.heap.size) V1 ((V1.setCell ⟨w6.heap.size, 0, none⟩ (.slice sa s2.length sc)).setCell ⟨w6.heap.size, 1, none⟩ (.int .i64 m2)) := (((Turn.refl (fun q => q = w6.heap.size) V1).trans (turn_set (G := fun q => q = w6.heap.size) (g := w6.heap.size) (j := 0) (u := .slice sa s2.length sc) rfl)).trans (turn_set (G := fun q => q = w6.heap.size) (g := w6.heap.size) (j := 1) (u := .int .i64 m2) rfl))
     have r := (heap_setCell_same _ (w6.heap.size) 1 _ _ (.int .i64 m2) (heap_setCell_same V1 (w6.heap.size) 0 _ _ (.slice sa s2.length sc) BY.out))
     simp at r
     generalize ((V1.setCell ⟨w6.heap.size, 0, none⟩ (.slice sa s2.length sc)).setCell ⟨w6.heap.size, 1, none⟩ (.int .i64 m2)) = V2 at *
     have y0 := ZR.out
     have y1 := ZR2.out
     have y2 := Z_dr.out
     have y3 := Z_w6.out
     have y4 := Y_Y.out
     have yd : w.heap.size ≤ V1.heap.size := d.out.size
     replace BZ := Lib.hid ((tt.block (w.heap.size + 1) (Array.getElem?_eq_some_iff.1 BZ.out).1 (fun h => by have r2 : _ = w6.heap.size := h; omega)).trans BZ.out)
     replace B0 := Lib.hid ((tt.block w.heap.size (Array.getElem?_eq_some_iff.1 B0.out).1 (fun h => by have r2 : _ = w6.heap.size := h; omega)).trans B0.out)
     replace BX := Lib.hid ((tt.block R (Array.getElem?_eq_some_iff.1 BX.out).1 (fun h => by have r2 : _ = w6.heap.size := h; omega)).trans BX.out)
     replace PF := Lib.hid (slO_turn tVersionS_law PF.out tt (fun b h1 h2 => by have r1 := QF.out b h1; have r2 : _ = w6.heap.size := h2; omega))
     replace P2 := Lib.hid (slO_turn tVersionS_law P2.out tt (fun b h1 h2 => by have r1 := Q2.out b h1; have r2 : _ = w6.heap.size := h2; omega))
     replace d := Lib.hid (below_turn d.out tt (fun b h => by have r2 : _ = w6.heap.size := h; omega) (by omega))
     have Z_V2 := Lib.hid (show V1.heap.size ≤ V2.heap.size from tt.size)
     clear yd y0 y1 y2 y3 y4
     replace BY : Hid (V2.heap[w6.heap.size]? = some (.cells #[.slice sa s2.length sc, .int .i64 m2] 41 (0, 0))) := Lib.hid r
     clear r tt
     have p_BX_0 := (cell_of_row V2 _ 0 _ _ _ BX.out).trans (show _ = some (Value.slice fa sk.length fc) from rfl)
     have p_BX_1 := (cell_of_row V2 _ 1 _ _ _ BX.out).trans (show _ = some (Value.int .i64 nk) from rfl)
     have p_C0 := (d.out.cell (p := ⟨b, off + k * 5, none⟩) HBL.out).trans C0.out
     have p_C1 := (d.out.cell (p := ⟨b, off + k * 5 + 1, none⟩) HBL.out).trans C1.out
     have p_C2 := (d.out.cell (p := ⟨b, off + k * 5 + 2, none⟩) HBL.out).trans C2.out
     have p_C3 := (d.out.cell (p := ⟨b, off + k * 5 + 3, none⟩) HBL.out).trans C3.out
     have p_C4 := (d.out.cell (p := ⟨b, off + k * 5 + 4, none⟩) HBL.out).trans C4.out
     refine hK.out _ _ ⟨p_BX_0, p_BX_1, p_C0, p_C1, p_C2, p_C3, p_C4⟩ (fun hHeld => ?_)
     clear p_BX_0 p_BX_1 p_C0 p_C1 p_C2 p_C3 p_C4
     clear hK K
     try simp only [Act.put, lA, lB, lC]
     refine tR (i := 11) (v := ?_) ?_ ?_; rotate_left
     ·
      intro w hSw; (try dsimp only at hSw); go_simp; try (with_reducible rfl)
     try simp only [Act.put, lA, lB, lC]
     refine wpAnyH_done (by kernel_rfl) ?_ _
     clear hHeld
     have p_BY_0 := (cell_of_row V2 _ 0 _ _ _ BY.out).trans (show _ = some (Value.slice sa s2.length sc) from rfl)
     have p_BY_1 := (cell_of_row V2 _ 1 _ _ _ BY.out).trans (show _ = some (Value.int .i64 m2) from rfl)
     have p_BX_0 := (cell_of_row V2 _ 0 _ _ _ BX.out).trans (show _ = some (Value.slice fa sk.length fc) from rfl)
     have p_BX_1 := (cell_of_row V2 _ 1 _ _ _ BX.out).trans (show _ = some (Value.int .i64 nk) from rfl)
     have f_BX_0 := frozen_of_row V2 _ 0 _ _ BX.out
     have f_BX_1 := frozen_of_row V2 _ 1 _ _ BX.out
     go_wp2
     clear p_BY_0 p_BY_1 p_BX_0 p_BX_1 f_BX_0 f_BX_1
     have y0 := ZR.out
     have y1 := ZR2.out
     have y2 := Z_dr.out
     have y3 := Z_w6.out
     have y4 := Y_Y.out
     have y5 := Z_V2.out
     have tt : Turn (fun q => q = R) V2 ((V2.setCell ⟨R, 0, none⟩ (.slice sa s2.length sc)).setCell ⟨R, 1, none⟩ (.int .i64 m2)) := (((Turn.refl (fun q => q = R) V2).trans (turn_set (G := fun q => q = R) (g := R) (j := 0) (u := .slice sa s2.length sc) rfl)).trans (turn_set (G := fun q => q = R) (g := R) (j := 1) (u := .int .i64 m2) rfl))
     have r := (heap_setCell_same _ R 1 _ _ (.int .i64 m2) (heap_setCell_same V2 R 0 _ _ (.slice sa s2.length sc) BX.out))
     simp at r
     generalize ((V2.setCell ⟨R, 0, none⟩ (.slice sa s2.length sc)).setCell ⟨R, 1, none⟩ (.int .i64 m2)) = wz at *
     have b0 := (tt.block w.heap.size (Array.getElem?_eq_some_iff.1 B0.out).1 (fun h => by have r2 : _ = R := h; omega)).trans B0.out
     have bz := (tt.block (w.heap.size + 1) (Array.getElem?_eq_some_iff.1 BZ.out).1 (fun h => by have r2 : _ = R := h; omega)).trans BZ.out
     have pn := slO_mono (slO_turn tVersionS_law P2.out tt (fun q h1 h2 => by have r1 := Q2.out q h1; have r2 : q = R := h2; omega)) (F' := fun q => w.heap.size + 1 < q ∧ q ≠ R) (fun q h => by have r1 := Q2.out q h; exact ⟨by omega, by omega⟩)
     have dn := below_turn d.out tt (fun q h => by have r2 : q = R := h; omega) d.out.size
     have zn : R < wz.heap.size := Nat.lt_of_lt_of_le (by omega) tt.size
     clear tt y0 y1 y2 y3 y4 y5
     go_roundw
     case rel => exact ⟨k + 1, _, s2, m2, cnt, by omega, by go_num, rfl, HN2, b0, bz, r, pn, dn, zn⟩
     case measure => simp [intOf]; omega
    ·
     go_simp
     have hal : Below Wd.heap.size Wd (Wd.alloc (.cells #[.slice none 0 0, .int .i64 0] 41)) := (Below.refl _ _).alloc (Nat.le_refl _) _
     have BY := Lib.hid (heap_alloc_new Wd (.cells #[.slice none 0 0, .int .i64 0] 41))
     have Y_Y := Lib.hid (show Wd.heap.size < (Wd.alloc (.cells #[.slice none 0 0, .int .i64 0] 41)).heap.size by simp [World.size_alloc])
     replace BZ := Lib.hid ((hal.block (w.heap.size + 1) (Array.getElem?_eq_some_iff.1 BZ.out).1).trans BZ.out)
     replace B0 := Lib.hid ((hal.block w.heap.size (Array.getElem?_eq_some_iff.1 B0.out).1).trans B0.out)
     replace BX := Lib.hid ((hal.block R (Array.getElem?_eq_some_iff.1 BX.out).1).trans BX.out)
     replace PF := Lib.hid (slO_fresh tVersionS_law PF.out hal)
     replace d := Lib.hid (d.out.trans (hal.mono d.out.size))
     clear hal
     generalize (Wd.alloc (.cells #[.slice none 0 0, .int .i64 0] 41)) = V1 at *
     have p_BX_0 := (cell_of_row V1 _ 0 _ _ _ BX.out).trans (show _ = some (Value.slice fa sk.length fc) from rfl)
     have p_BX_1 := (cell_of_row V1 _ 1 _ _ _ BX.out).trans (show _ = some (Value.int .i64 nk) from rfl)
     have p_C0 := (d.out.cell (p := ⟨b, off + k * 5, none⟩) HBL.out).trans C0.out
     have p_C1 := (d.out.cell (p := ⟨b, off + k * 5 + 1, none⟩) HBL.out).trans C1.out
     have p_C2 := (d.out.cell (p := ⟨b, off + k * 5 + 2, none⟩) HBL.out).trans C2.out
     have p_C3 := (d.out.cell (p := ⟨b, off + k * 5 + 3, none⟩) HBL.out).trans C3.out
     have p_C4 := (d.out.cell (p := ⟨b, off + k * 5 + 4, none⟩) HBL.out).trans C4.out
     refine hK.out _ _ ⟨p_BX_0, p_BX_1, p_C0, p_C1, p_C2, p_C3, p_C4⟩ (fun hHeld => ?_)
     clear p_BX_0 p_BX_1 p_C0 p_C1 p_C2 p_C3 p_C4
     clear hK K
     try simp only [Act.put, lA, lB, lC]
     refine wpAnyH_ready (rs := [5]) (by kernel_rfl) (by simp) ?_
     refine (AllReadyH.cons (o := _) (by simp only [hA, hB, hC]; rfl) (fun K hK => ?_) AllReadyH.nil)
     go_simp
     refine (HCU.out V1 (slO_reads tVersionS_law PF.out) (slR_below tInt_law GX.out d.out)).mono ?_
     rintro e w6 ⟨g0, G0, rfl, og, qg, c6⟩
     obtain ⟨sv2, F2, rfl, o2, q2⟩ := tStore_O (tStore_law.lt og)
     obtain ⟨sa, sc, rfl⟩ := slO_len o2
     have P2 := Lib.hid (slO_mono o2 q2)
     have Q2 := Lib.hid (fun q (h : G0 q ∧ q < w6.heap.size) => (show V1.heap.size ≤ q ∧ q < w6.heap.size from ⟨qg q h.1, h.2⟩))
     replace BZ := Lib.hid ((c6.block (w.heap.size + 1) (Array.getElem?_eq_some_iff.1 BZ.out).1).trans BZ.out)
     replace B0 := Lib.hid ((c6.block w.heap.size (Array.getElem?_eq_some_iff.1 B0.out).1).trans B0.out)
     replace BX := Lib.hid ((c6.block R (Array.getElem?_eq_some_iff.1 BX.out).1).trans BX.out)
     replace BY := Lib.hid ((c6.block Wd.heap.size (Array.getElem?_eq_some_iff.1 BY.out).1).trans BY.out)
     replace PF := Lib.hid (slO_fresh tVersionS_law PF.out c6)
     replace d := Lib.hid (d.out.trans (c6.mono d.out.size))
     have Z_w6 := Lib.hid (show V1.heap.size ≤ w6.heap.size from c6.size)
     clear og qg c6 o2 q2
     have p_BX_0 := (cell_of_row w6 _ 0 _ _ _ BX.out).trans (show _ = some (Value.slice fa sk.length fc) from rfl)
     have p_BX_1 := (cell_of_row w6 _ 1 _ _ _ BX.out).trans (show _ = some (Value.int .i64 nk) from rfl)
     have p_C0 := (d.out.cell (p := ⟨b, off + k * 5, none⟩) HBL.out).trans C0.out
     have p_C1 := (d.out.cell (p := ⟨b, off + k * 5 + 1, none⟩) HBL.out).trans C1.out
     have p_C2 := (d.out.cell (p := ⟨b, off + k * 5 + 2, none⟩) HBL.out).trans C2.out
     have p_C3 := (d.out.cell (p := ⟨b, off + k * 5 + 3, none⟩) HBL.out).trans C3.out
     have p_C4 := (d.out.cell (p := ⟨b, off + k * 5 + 4, none⟩) HBL.out).trans C4.out
     refine hK.out _ _ ⟨p_BX_0, p_BX_1, p_C0, p_C1, p_C2, p_C3, p_C4⟩ (fun hHeld => ?_)
     clear p_BX_0 p_BX_1 p_C0 p_C1 p_C2 p_C3 p_C4
     clear hK K
     try simp only [Act.put, lA, lB, lC]
     refine tR (i := 6) (v := ?_) ?_ ?_; rotate_left
     ·
      intro w hSw; (try dsimp only at hSw); go_simp; try (with_reducible rfl)
     try simp only [Act.put, lA, lB, lC]
     refine tR (i := 7) (v := ?_) ?_ ?_; rotate_left
     ·
      intro w hSw; (try dsimp only at hSw); go_simp; try (with_reducible rfl)
     try simp only [Act.put, lA, lB, lC]
     refine tR (i := 8) (v := ?_) ?_ ?_; rotate_left
     ·
      intro w hSw; (try dsimp only at hSw); go_simp; try (with_reducible rfl)
     try simp only [Act.put, lA, lB, lC]
     refine wpAnyH_ready (rs := [10]) (by kernel_rfl) (by simp) ?_
     refine (AllReadyH.cons (o := _) (by simp only [hA, hB, hC]; rfl) (fun K hK => ?_) AllReadyH.nil)
     have p_BY_0 := (cell_of_row w6 _ 0 _ _ _ BY.out).trans (show _ = some (Value.slice none 0 0) from rfl)
     have p_BY_1 := (cell_of_row w6 _ 1 _ _ _ BY.out).trans (show _ = some (Value.int .i64 0) from rfl)
     have f_BY_0 := frozen_of_row w6 _ 0 _ _ BY.out
     have f_BY_1 := frozen_of_row w6 _ 1 _ _ BY.out
     go_simp
     clear p_BY_0 p_BY_1 f_BY_0 f_BY_1
     have tt : Turn (fun q => q = Wd.heap.size) w6 ((w6.setCell ⟨Wd.heap.size, 0, none⟩ (.slice sa s2.length sc)).setCell ⟨Wd.heap.size, 1, none⟩ (.int .i64 m2)) := (((Turn.refl (fun q => q = Wd.heap.size) w6).trans (turn_set (G := fun q => q = Wd.heap.size) (g := Wd.heap.size) (j := 0) (u := .slice sa s2.length sc) rfl)).trans (turn_set (G := fun q => q = Wd.heap.size) (g := Wd.heap.size) (j := 1) (u := .int .i64 m2) rfl))
     have r := (heap_setCell_same _ (Wd.heap.size) 1 _ _ (.int .i64 m2) (heap_setCell_same w6 (Wd.heap.size) 0 _ _ (.slice sa s2.length sc) BY.out))
     simp at r
     generalize ((w6.setCell ⟨Wd.heap.size, 0, none⟩ (.slice sa s2.length sc)).setCell ⟨Wd.heap.size, 1, none⟩ (.int .i64 m2)) = V2 at *
     have y0 := ZR.out
     have y1 := ZR2.out
     have y2 := Z_dr.out
     have y3 := Y_Y.out
     have y4 := Z_w6.out
     have yd : w.heap.size ≤ w6.heap.size := d.out.size
     replace BZ := Lib.hid ((tt.block (w.heap.size + 1) (Array.getElem?_eq_some_iff.1 BZ.out).1 (fun h => by have r2 : _ = Wd.heap.size := h; omega)).trans BZ.out)
     replace B0 := Lib.hid ((tt.block w.heap.size (Array.getElem?_eq_some_iff.1 B0.out).1 (fun h => by have r2 : _ = Wd.heap.size := h; omega)).trans B0.out)
     replace BX := Lib.hid ((tt.block R (Array.getElem?_eq_some_iff.1 BX.out).1 (fun h => by have r2 : _ = Wd.heap.size := h; omega)).trans BX.out)
     replace PF := Lib.hid (slO_turn tVersionS_law PF.out tt (fun b h1 h2 => by have r1 := QF.out b h1; have r2 : _ = Wd.heap.size := h2; omega))
     replace P2 := Lib.hid (slO_turn tVersionS_law P2.out tt (fun b h1 h2 => by have r1 := Q2.out b h1; have r2 : _ = Wd.heap.size := h2; omega))
     replace d := Lib.hid (below_turn d.out tt (fun b h => by have r2 : _ = Wd.heap.size := h; omega) (by omega))
     have Z_V2 := Lib.hid (show w6.heap.size ≤ V2.heap.size from tt.size)
     clear yd y0 y1 y2 y3 y4
     replace BY : Hid (V2.heap[Wd.heap.size]? = some (.cells #[.slice sa s2.length sc, .int .i64 m2] 41 (0, 0))) := Lib.hid r
     clear r tt
     have p_BX_0 := (cell_of_row V2 _ 0 _ _ _ BX.out).trans (show _ = some (Value.slice fa sk.length fc) from rfl)
     have p_BX_1 := (cell_of_row V2 _ 1 _ _ _ BX.out).trans (show _ = some (Value.int .i64 nk) from rfl)
     have p_C0 := (d.out.cell (p := ⟨b, off + k * 5, none⟩) HBL.out).trans C0.out
     have p_C1 := (d.out.cell (p := ⟨b, off + k * 5 + 1, none⟩) HBL.out).trans C1.out
     have p_C2 := (d.out.cell (p := ⟨b, off + k * 5 + 2, none⟩) HBL.out).trans C2.out
     have p_C3 := (d.out.cell (p := ⟨b, off + k * 5 + 3, none⟩) HBL.out).trans C3.out
     have p_C4 := (d.out.cell (p := ⟨b, off + k * 5 + 4, none⟩) HBL.out).trans C4.out
     refine hK.out _ _ ⟨p_BX_0, p_BX_1, p_C0, p_C1, p_C2, p_C3, p_C4⟩ (fun hHeld => ?_)
     clear p_BX_0 p_BX_1 p_C0 p_C1 p_C2 p_C3 p_C4
     clear hK K
     try simp only [Act.put, lA, lB, lC]
     refine tR (i := 11) (v := ?_) ?_ ?_; rotate_left
     ·
      intro w hSw; (try dsimp only at hSw); go_simp; try (with_reducible rfl)
     try simp only [Act.put, lA, lB, lC]
     refine wpAnyH_done (by kernel_rfl) ?_ _
     clear hHeld
     have p_BY_0 := (cell_of_row V2 _ 0 _ _ _ BY.out).trans (show _ = some (Value.slice sa s2.length sc) from rfl)
     have p_BY_1 := (cell_of_row V2 _ 1 _ _ _ BY.out).trans (show _ = some (Value.int .i64 m2) from rfl)
     have p_BX_0 := (cell_of_row V2 _ 0 _ _ _ BX.out).trans (show _ = some (Value.slice fa sk.length fc) from rfl)
     have p_BX_1 := (cell_of_row V2 _ 1 _ _ _ BX.out).trans (show _ = some (Value.int .i64 nk) from rfl)
     have f_BX_0 := frozen_of_row V2 _ 0 _ _ BX.out
     have f_BX_1 := frozen_of_row V2 _ 1 _ _ BX.out
     go_wp2
     clear p_BY_0 p_BY_1 p_BX_0 p_BX_1 f_BX_0 f_BX_1
     have y0 := ZR.out
     have y1 := ZR2.out
     have y2 := Z_dr.out
     have y3 := Y_Y.out
     have y4 := Z_w6.out
     have y5 := Z_V2.out
     have tt : Turn (fun q => q = R) V2 ((V2.setCell ⟨R, 0, none⟩ (.slice sa s2.length sc)).setCell ⟨R, 1, none⟩ (.int .i64 m2)) := (((Turn.refl (fun q => q = R) V2).trans (turn_set (G := fun q => q = R) (g := R) (j := 0) (u := .slice sa s2.length sc) rfl)).trans (turn_set (G := fun q => q = R) (g := R) (j := 1) (u := .int .i64 m2) rfl))
     have r := (heap_setCell_same _ R 1 _ _ (.int .i64 m2) (heap_setCell_same V2 R 0 _ _ (.slice sa s2.length sc) BX.out))
     simp at r
     generalize ((V2.setCell ⟨R, 0, none⟩ (.slice sa s2.length sc)).setCell ⟨R, 1, none⟩ (.int .i64 m2)) = wz at *
     have b0 := (tt.block w.heap.size (Array.getElem?_eq_some_iff.1 B0.out).1 (fun h => by have r2 : _ = R := h; omega)).trans B0.out
     have bz := (tt.block (w.heap.size + 1) (Array.getElem?_eq_some_iff.1 BZ.out).1 (fun h => by have r2 : _ = R := h; omega)).trans BZ.out
     have pn := slO_mono (slO_turn tVersionS_law P2.out tt (fun q h1 h2 => by have r1 := Q2.out q h1; have r2 : q = R := h2; omega)) (F' := fun q => w.heap.size + 1 < q ∧ q ≠ R) (fun q h => by have r1 := Q2.out q h; exact ⟨by omega, by omega⟩)
     have dn := below_turn d.out tt (fun q h => by have r2 : q = R := h; omega) d.out.size
     have zn : R < wz.heap.size := Nat.lt_of_lt_of_le (by omega) tt.size
     clear tt y0 y1 y2 y3 y4 y5
     go_roundw
     case rel => exact ⟨k + 1, _, s2, m2, cnt, by omega, by go_num, rfl, HN2, b0, bz, r, pn, dn, zn⟩
     case measure => simp [intOf]; omega
   | true =>
    have HN2 : Hid (applysTo (ss, now) l (k + 1) = ((s2, m2), cnt + 1)) := HNX
    clear HNX
    have QF := Lib.hid (fun q (h : (w.heap.size + 1 < q ∧ q ≠ R) ∧ q < wr.heap.size) => h)
    go_wp2
    have p_BX_0 := (cell_of_row wr _ 0 _ _ _ BX.out).trans (show _ = some (Value.slice fa sk.length fc) from rfl)
    have p_BX_1 := (cell_of_row wr _ 1 _ _ _ BX.out).trans (show _ = some (Value.int .i64 nk) from rfl)
    have p_C0 := (d.out.cell (p := ⟨b, off + k * 5, none⟩) HBL.out).trans C0.out
    have p_C1 := (d.out.cell (p := ⟨b, off + k * 5 + 1, none⟩) HBL.out).trans C1.out
    have p_C2 := (d.out.cell (p := ⟨b, off + k * 5 + 2, none⟩) HBL.out).trans C2.out
    have p_C3 := (d.out.cell (p := ⟨b, off + k * 5 + 3, none⟩) HBL.out).trans C3.out
    have p_C4 := (d.out.cell (p := ⟨b, off + k * 5 + 4, none⟩) HBL.out).trans C4.out
    refine wp_region_held_drew (S := fun w' => w'.cell? ⟨R, 0, none⟩ = some (Value.slice fa sk.length fc) ∧ w'.cell? ⟨R, 1, none⟩ = some (Value.int .i64 nk) ∧ w'.cell? ⟨b, off + k * 5, none⟩ = some (Value.int .i64 uk) ∧ w'.cell? ⟨b, off + k * 5 + 1, none⟩ = some (Value.int .i64 uid) ∧ w'.cell? ⟨b, off + k * 5 + 2, none⟩ = some (Value.slice ua uxs.length uc) ∧ w'.cell? ⟨b, off + k * 5 + 3, none⟩ = some (Value.int .i64 uf) ∧ w'.cell? ⟨b, off + k * 5 + 4, none⟩ = some (Value.int .i64 ux)) (by kernel_rfl) ⟨p_BX_0, p_BX_1, p_C0, p_C1, p_C2, p_C3, p_C4⟩ (fun hHeld => ?_)
    clear p_BX_0 p_BX_1 p_C0 p_C1 p_C2 p_C3 p_C4
    have cdr : Below wr.heap.size wr wr.drew := below_drew (Below.refl _ _)
    replace BZ := Lib.hid ((cdr.block (w.heap.size + 1) (Array.getElem?_eq_some_iff.1 BZ.out).1).trans BZ.out)
    replace B0 := Lib.hid ((cdr.block w.heap.size (Array.getElem?_eq_some_iff.1 B0.out).1).trans B0.out)
    replace BX := Lib.hid ((cdr.block R (Array.getElem?_eq_some_iff.1 BX.out).1).trans BX.out)
    replace PF := Lib.hid (slO_fresh tVersionS_law PF.out cdr)
    replace d := Lib.hid (d.out.trans (cdr.mono d.out.size))
    clear cdr
    have Z_dr := Lib.hid (show wr.heap.size ≤ wr.drew.heap.size from Nat.le_refl _)
    generalize wr.drew = Wd at *
    refine tR (i := 0) (v := ?_) ?_ ?_; rotate_left
    ·
     intro w hSw; (try dsimp only at hSw); go_simp; try (with_reducible rfl)
    try simp only [Act.put, lA, lB, lC]
    refine tR (i := 1) (v := ?_) ?_ ?_; rotate_left
    ·
     intro w hSw; (try dsimp only at hSw); go_simp; try (with_reducible rfl)
    try simp only [Act.put, lA, lB, lC]
    refine tR (i := 2) (v := ?_) ?_ ?_; rotate_left
    ·
     intro w hSw; (try dsimp only at hSw); go_simp; try (with_reducible rfl)
    try simp only [Act.put, lA, lB, lC]
    refine tR (i := 3) (v := ?_) ?_ ?_; rotate_left
    ·
     intro w hSw; (try dsimp only at hSw); go_simp; try (with_reducible rfl)
    try simp only [Act.put, lA, lB, lC]
    refine tR (i := 4) (v := ?_) ?_ ?_; rotate_left
    ·
     intro w hSw; (try dsimp only at hSw); go_simp; try (with_reducible rfl)
    try simp only [Act.put, lA, lB, lC]
    refine wpAnyH_ready (rs := [5, 9]) (by kernel_rfl) (by simp) ?_
    refine (AllReadyH.cons (o := _) (by simp only [hA, hB, hC]; rfl) (fun K hK => ?_) (AllReadyH.cons (o := _) (by simp only [hA, hB, hC]; rfl) (fun K hK => ?_) AllReadyH.nil))
    ·
     go_simp
     refine (HCU.out Wd (slO_reads tVersionS_law PF.out) (slR_below tInt_law GX.out d.out)).mono ?_
     rintro e w6 ⟨g0, G0, rfl, og, qg, c6⟩
     obtain ⟨sv2, F2, rfl, o2, q2⟩ := tStore_O (tStore_law.lt og)
     obtain ⟨sa, sc, rfl⟩ := slO_len o2
     have P2 := Lib.hid (slO_mono o2 q2)
     have Q2 := Lib.hid (fun q (h : G0 q ∧ q < w6.heap.size) => (show Wd.heap.size ≤ q ∧ q < w6.heap.size from ⟨qg q h.1, h.2⟩))
     replace BZ := Lib.hid ((c6.block (w.heap.size + 1) (Array.getElem?_eq_some_iff.1 BZ.out).1).trans BZ.out)
     replace B0 := Lib.hid ((c6.block w.heap.size (Array.getElem?_eq_some_iff.1 B0.out).1).trans B0.out)
     replace BX := Lib.hid ((c6.block R (Array.getElem?_eq_some_iff.1 BX.out).1).trans BX.out)
     replace PF := Lib.hid (slO_fresh tVersionS_law PF.out c6)
     replace d := Lib.hid (d.out.trans (c6.mono d.out.size))
     have Z_w6 := Lib.hid (show Wd.heap.size ≤ w6.heap.size from c6.size)
     clear og qg c6 o2 q2
     have p_BX_0 := (cell_of_row w6 _ 0 _ _ _ BX.out).trans (show _ = some (Value.slice fa sk.length fc) from rfl)
     have p_BX_1 := (cell_of_row w6 _ 1 _ _ _ BX.out).trans (show _ = some (Value.int .i64 nk) from rfl)
     have p_C0 := (d.out.cell (p := ⟨b, off + k * 5, none⟩) HBL.out).trans C0.out
     have p_C1 := (d.out.cell (p := ⟨b, off + k * 5 + 1, none⟩) HBL.out).trans C1.out
     have p_C2 := (d.out.cell (p := ⟨b, off + k * 5 + 2, none⟩) HBL.out).trans C2.out
     have p_C3 := (d.out.cell (p := ⟨b, off + k * 5 + 3, none⟩) HBL.out).trans C3.out
     have p_C4 := (d.out.cell (p := ⟨b, off + k * 5 + 4, none⟩) HBL.out).trans C4.out
     refine hK.out _ _ ⟨p_BX_0, p_BX_1, p_C0, p_C1, p_C2, p_C3, p_C4⟩ (fun hHeld => ?_)
     clear p_BX_0 p_BX_1 p_C0 p_C1 p_C2 p_C3 p_C4
     clear hK K
     try simp only [Act.put, lA, lB, lC]
     refine tR (i := 6) (v := ?_) ?_ ?_; rotate_left
     ·
      intro w hSw; (try dsimp only at hSw); go_simp; try (with_reducible rfl)
     try simp only [Act.put, lA, lB, lC]
     refine tR (i := 7) (v := ?_) ?_ ?_; rotate_left
     ·
      intro w hSw; (try dsimp only at hSw); go_simp; try (with_reducible rfl)
     try simp only [Act.put, lA, lB, lC]
     refine tR (i := 8) (v := ?_) ?_ ?_; rotate_left
     ·
      intro w hSw; (try dsimp only at hSw); go_simp; try (with_reducible rfl)
     try simp only [Act.put, lA, lB, lC]
     refine wpAnyH_ready (rs := [9]) (by kernel_rfl) (by simp) ?_
     refine (AllReadyH.cons (o := _) (by simp only [hA, hB, hC]; rfl) (fun K hK => ?_) AllReadyH.nil)
     go_simp
     have hal : Below w6.heap.size w6 (w6.alloc (.cells #[.slice none 0 0, .int .i64 0] 41)) := (Below.refl _ _).alloc (Nat.le_refl _) _
     have BY := Lib.hid (heap_alloc_new w6 (.cells #[.slice none 0 0, .int .i64 0] 41))
     have Y_Y := Lib.hid (show w6.heap.size < (w6.alloc (.cells #[.slice none 0 0, .int .i64 0] 41)).heap.size by simp [World.size_alloc])
     replace BZ := Lib.hid ((hal.block (w.heap.size + 1) (Array.getElem?_eq_some_iff.1 BZ.out).1).trans BZ.out)
     replace B0 := Lib.hid ((hal.block w.heap.size (Array.getElem?_eq_some_iff.1 B0.out).1).trans B0.out)
     replace BX := Lib.hid ((hal.block R (Array.getElem?_eq_some_iff.1 BX.out).1).trans BX.out)
     replace PF := Lib.hid (slO_fresh tVersionS_law PF.out hal)
     replace P2 := Lib.hid (slO_fresh tVersionS_law P2.out hal)
     replace d := Lib.hid (d.out.trans (hal.mono d.out.size))
     clear hal
     generalize (w6.alloc (.cells #[.slice none 0 0, .int .i64 0] 41)) = V1 at *
     have p_BX_0 := (cell_of_row V1 _ 0 _ _ _ BX.out).trans (show _ = some (Value.slice fa sk.length fc) from rfl)
     have p_BX_1 := (cell_of_row V1 _ 1 _ _ _ BX.out).trans (show _ = some (Value.int .i64 nk) from rfl)
     have p_C0 := (d.out.cell (p := ⟨b, off + k * 5, none⟩) HBL.out).trans C0.out
     have p_C1 := (d.out.cell (p := ⟨b, off + k * 5 + 1, none⟩) HBL.out).trans C1.out
     have p_C2 := (d.out.cell (p := ⟨b, off + k * 5 + 2, none⟩) HBL.out).trans C2.out
     have p_C3 := (d.out.cell (p := ⟨b, off + k * 5 + 3, none⟩) HBL.out).trans C3.out
     have p_C4 := (d.out.cell (p := ⟨b, off + k * 5 + 4, none⟩) HBL.out).trans C4.out
     refine hK.out _ _ ⟨p_BX_0, p_BX_1, p_C0, p_C1, p_C2, p_C3, p_C4⟩ (fun hHeld => ?_)
     clear p_BX_0 p_BX_1 p_C0 p_C1 p_C2 p_C3 p_C4
     clear hK K
     try simp only [Act.put, lA, lB, lC]
     refine wpAnyH_ready (rs := [10]) (by kernel_rfl) (by simp) ?_
     refine (AllReadyH.cons (o := _) (by simp only [hA, hB, hC]; rfl) (fun K hK => ?_) AllReadyH.nil)
     have p_BY_0 := (cell_of_row V1 _ 0 _ _ _ BY.out).trans (show _ = some (Value.slice none 0 0) from rfl)
     have p_BY_1 := (cell_of_row V1 _ 1 _ _ _ BY.out).trans (show _ = some (Value.int .i64 0) from rfl)
     have f_BY_0 := frozen_of_row V1 _ 0 _ _ BY.out
     have f_BY_1 := frozen_of_row V1 _ 1 _ _ BY.out
     go_simp
     clear p_BY_0 p_BY_1 f_BY_0 f_BY_1
     have tt : Turn (fun q => q = w6.heap.size) V1 ((V1.setCell ⟨w6.heap.size, 0, none⟩ (.slice sa s2.length sc)).setCell ⟨w6.heap.size, 1, none⟩ (.int .i64 m2)) := (((Turn.refl (fun q => q = w6.heap.size) V1).trans (turn_set (G := fun q => q = w6.heap.size) (g := w6.heap.size) (j := 0) (u := .slice sa s2.length sc) rfl)).trans (turn_set (G := fun q => q = w6.heap.size) (g := w6.heap.size) (j := 1) (u := .int .i64 m2) rfl))
     have r := (heap_setCell_same _ (w6.heap.size) 1 _ _ (.int .i64 m2) (heap_setCell_same V1 (w6.heap.size) 0 _ _ (.slice sa s2.length sc) BY.out))
     simp at r
     generalize ((V1.setCell ⟨w6.heap.size, 0, none⟩ (.slice sa s2.length sc)).setCell ⟨w6.heap.size, 1, none⟩ (.int .i64 m2)) = V2 at *
     have y0 := ZR.out
     have y1 := ZR2.out
     have y2 := Z_dr.out
     have y3 := Z_w6.out
     have y4 := Y_Y.out
     have yd : w.heap.size ≤ V1.heap.size := d.out.size
     replace BZ := Lib.hid ((tt.block (w.heap.size + 1) (Array.getElem?_eq_some_iff.1 BZ.out).1 (fun h => by have r2 : _ = w6.heap.size := h; omega)).trans BZ.out)
     replace B0 := Lib.hid ((tt.block w.heap.size (Array.getElem?_eq_some_iff.1 B0.out).1 (fun h => by have r2 : _ = w6.heap.size := h; omega)).trans B0.out)
     replace BX := Lib.hid ((tt.block R (Array.getElem?_eq_some_iff.1 BX.out).1 (fun h => by have r2 : _ = w6.heap.size := h; omega)).trans BX.out)
     replace PF := Lib.hid (slO_turn tVersionS_law PF.out tt (fun b h1 h2 => by have r1 := QF.out b h1; have r2 : _ = w6.heap.size := h2; omega))
     replace P2 := Lib.hid (slO_turn tVersionS_law P2.out tt (fun b h1 h2 => by have r1 := Q2.out b h1; have r2 : _ = w6.heap.size := h2; omega))
     replace d := Lib.hid (below_turn d.out tt (fun b h => by have r2 : _ = w6.heap.size := h; omega) (by omega))
     have Z_V2 := Lib.hid (show V1.heap.size ≤ V2.heap.size from tt.size)
     clear yd y0 y1 y2 y3 y4
     replace BY : Hid (V2.heap[w6.heap.size]? = some (.cells #[.slice sa s2.length sc, .int .i64 m2] 41 (0, 0))) := Lib.hid r
     clear r tt
     have p_BX_0 := (cell_of_row V2 _ 0 _ _ _ BX.out).trans (show _ = some (Value.slice fa sk.length fc) from rfl)
     have p_BX_1 := (cell_of_row V2 _ 1 _ _ _ BX.out).trans (show _ = some (Value.int .i64 nk) from rfl)
     have p_C0 := (d.out.cell (p := ⟨b, off + k * 5, none⟩) HBL.out).trans C0.out
     have p_C1 := (d.out.cell (p := ⟨b, off + k * 5 + 1, none⟩) HBL.out).trans C1.out
     have p_C2 := (d.out.cell (p := ⟨b, off + k * 5 + 2, none⟩) HBL.out).trans C2.out
     have p_C3 := (d.out.cell (p := ⟨b, off + k * 5 + 3, none⟩) HBL.out).trans C3.out
     have p_C4 := (d.out.cell (p := ⟨b, off + k * 5 + 4, none⟩) HBL.out).trans C4.out
     refine hK.out _ _ ⟨p_BX_0, p_BX_1, p_C0, p_C1, p_C2, p_C3, p_C4⟩ (fun hHeld => ?_)
     clear p_BX_0 p_BX_1 p_C0 p_C1 p_C2 p_C3 p_C4
     clear hK K
     try simp only [Act.put, lA, lB, lC]
     refine tR (i := 11) (v := ?_) ?_ ?_; rotate_left
     ·
      intro w hSw; (try dsimp only at hSw); go_simp; try (with_reducible rfl)
     try simp only [Act.put, lA, lB, lC]
     refine wpAnyH_done (by kernel_rfl) ?_ _
     clear hHeld
     have p_BY_0 := (cell_of_row V2 _ 0 _ _ _ BY.out).trans (show _ = some (Value.slice sa s2.length sc) from rfl)
     have p_BY_1 := (cell_of_row V2 _ 1 _ _ _ BY.out).trans (show _ = some (Value.int .i64 m2) from rfl)
     have p_BX_0 := (cell_of_row V2 _ 0 _ _ _ BX.out).trans (show _ = some (Value.slice fa sk.length fc) from rfl)
     have p_BX_1 := (cell_of_row V2 _ 1 _ _ _ BX.out).trans (show _ = some (Value.int .i64 nk) from rfl)
     have f_BX_0 := frozen_of_row V2 _ 0 _ _ BX.out
     have f_BX_1 := frozen_of_row V2 _ 1 _ _ BX.out
     go_wp2
     clear p_BY_0 p_BY_1 p_BX_0 p_BX_1 f_BX_0 f_BX_1
     have y0 := ZR.out
     have y1 := ZR2.out
     have y2 := Z_dr.out
     have y3 := Z_w6.out
     have y4 := Y_Y.out
     have y5 := Z_V2.out
     have tt : Turn (fun q => q = R) V2 ((V2.setCell ⟨R, 0, none⟩ (.slice sa s2.length sc)).setCell ⟨R, 1, none⟩ (.int .i64 m2)) := (((Turn.refl (fun q => q = R) V2).trans (turn_set (G := fun q => q = R) (g := R) (j := 0) (u := .slice sa s2.length sc) rfl)).trans (turn_set (G := fun q => q = R) (g := R) (j := 1) (u := .int .i64 m2) rfl))
     have r := (heap_setCell_same _ R 1 _ _ (.int .i64 m2) (heap_setCell_same V2 R 0 _ _ (.slice sa s2.length sc) BX.out))
     simp at r
     generalize ((V2.setCell ⟨R, 0, none⟩ (.slice sa s2.length sc)).setCell ⟨R, 1, none⟩ (.int .i64 m2)) = wz at *
     have b0 := (tt.block w.heap.size (Array.getElem?_eq_some_iff.1 B0.out).1 (fun h => by have r2 : _ = R := h; omega)).trans B0.out
     have bz := (tt.block (w.heap.size + 1) (Array.getElem?_eq_some_iff.1 BZ.out).1 (fun h => by have r2 : _ = R := h; omega)).trans BZ.out
     have pn := slO_mono (slO_turn tVersionS_law P2.out tt (fun q h1 h2 => by have r1 := Q2.out q h1; have r2 : q = R := h2; omega)) (F' := fun q => w.heap.size + 1 < q ∧ q ≠ R) (fun q h => by have r1 := Q2.out q h; exact ⟨by omega, by omega⟩)
     have dn := below_turn d.out tt (fun q h => by have r2 : q = R := h; omega) d.out.size
     have zn : R < wz.heap.size := Nat.lt_of_lt_of_le (by omega) tt.size
     clear tt y0 y1 y2 y3 y4 y5
     go_roundw
     case rel => exact ⟨k + 1, _, s2, m2, cnt + 1, by omega, by go_num, rfl, HN2, b0, bz, r, pn, dn, zn⟩
     case measure => simp [intOf]; omega
    ·
     go_simp
     have hal : Below Wd.heap.size Wd (Wd.alloc (.cells #[.slice none 0 0, .int .i64 0] 41)) := (Below.refl _ _).alloc (Nat.le_refl _) _
     have BY := Lib.hid (heap_alloc_new Wd (.cells #[.slice none 0 0, .int .i64 0] 41))
     have Y_Y := Lib.hid (show Wd.heap.size < (Wd.alloc (.cells #[.slice none 0 0, .int .i64 0] 41)).heap.size by simp [World.size_alloc])
     replace BZ := Lib.hid ((hal.block (w.heap.size + 1) (Array.getElem?_eq_some_iff.1 BZ.out).1).trans BZ.out)
     replace B0 := Lib.hid ((hal.block w.heap.size (Array.getElem?_eq_some_iff.1 B0.out).1).trans B0.out)
     replace BX := Lib.hid ((hal.block R (Array.getElem?_eq_some_iff.1 BX.out).1).trans BX.out)
     replace PF := Lib.hid (slO_fresh tVersionS_law PF.out hal)
     replace d := Lib.hid (d.out.trans (hal.mono d.out.size))
     clear hal
     generalize (Wd.alloc (.cells #[.slice none 0 0, .int .i64 0] 41)) = V1 at *
     have p_BX_0 := (cell_of_row V1 _ 0 _ _ _ BX.out).trans (show _ = some (Value.slice fa sk.length fc) from rfl)
     have p_BX_1 := (cell_of_row V1 _ 1 _ _ _ BX.out).trans (show _ = some (Value.int .i64 nk) from rfl)
     have p_C0 := (d.out.cell (p := ⟨b, off + k * 5, none⟩) HBL.out).trans C0.out
     have p_C1 := (d.out.cell (p := ⟨b, off + k * 5 + 1, none⟩) HBL.out).trans C1.out
     have p_C2 := (d.out.cell (p := ⟨b, off + k * 5 + 2, none⟩) HBL.out).trans C2.out
     have p_C3 := (d.out.cell (p := ⟨b, off + k * 5 + 3, none⟩) HBL.out).trans C3.out
     have p_C4 := (d.out.cell (p := ⟨b, off + k * 5 + 4, none⟩) HBL.out).trans C4.out
     refine hK.out _ _ ⟨p_BX_0, p_BX_1, p_C0, p_C1, p_C2, p_C3, p_C4⟩ (fun hHeld => ?_)
     clear p_BX_0 p_BX_1 p_C0 p_C1 p_C2 p_C3 p_C4
     clear hK K
     try simp only [Act.put, lA, lB, lC]
     refine wpAnyH_ready (rs := [5]) (by kernel_rfl) (by simp) ?_
     refine (AllReadyH.cons (o := _) (by simp only [hA, hB, hC]; rfl) (fun K hK => ?_) AllReadyH.nil)
     go_simp
     refine (HCU.out V1 (slO_reads tVersionS_law PF.out) (slR_below tInt_law GX.out d.out)).mono ?_
     rintro e w6 ⟨g0, G0, rfl, og, qg, c6⟩
     obtain ⟨sv2, F2, rfl, o2, q2⟩ := tStore_O (tStore_law.lt og)
     obtain ⟨sa, sc, rfl⟩ := slO_len o2
     have P2 := Lib.hid (slO_mono o2 q2)
     have Q2 := Lib.hid (fun q (h : G0 q ∧ q < w6.heap.size) => (show V1.heap.size ≤ q ∧ q < w6.heap.size from ⟨qg q h.1, h.2⟩))
     replace BZ := Lib.hid ((c6.block (w.heap.size + 1) (Array.getElem?_eq_some_iff.1 BZ.out).1).trans BZ.out)
     replace B0 := Lib.hid ((c6.block w.heap.size (Array.getElem?_eq_some_iff.1 B0.out).1).trans B0.out)
     replace BX := Lib.hid ((c6.block R (Array.getElem?_eq_some_iff.1 BX.out).1).trans BX.out)
     replace BY := Lib.hid ((c6.block Wd.heap.size (Array.getElem?_eq_some_iff.1 BY.out).1).trans BY.out)
     replace PF := Lib.hid (slO_fresh tVersionS_law PF.out c6)
     replace d := Lib.hid (d.out.trans (c6.mono d.out.size))
     have Z_w6 := Lib.hid (show V1.heap.size ≤ w6.heap.size from c6.size)
     clear og qg c6 o2 q2
     have p_BX_0 := (cell_of_row w6 _ 0 _ _ _ BX.out).trans (show _ = some (Value.slice fa sk.length fc) from rfl)
     have p_BX_1 := (cell_of_row w6 _ 1 _ _ _ BX.out).trans (show _ = some (Value.int .i64 nk) from rfl)
     have p_C0 := (d.out.cell (p := ⟨b, off + k * 5, none⟩) HBL.out).trans C0.out
     have p_C1 := (d.out.cell (p := ⟨b, off + k * 5 + 1, none⟩) HBL.out).trans C1.out
     have p_C2 := (d.out.cell (p := ⟨b, off + k * 5 + 2, none⟩) HBL.out).trans C2.out
     have p_C3 := (d.out.cell (p := ⟨b, off + k * 5 + 3, none⟩) HBL.out).trans C3.out
     have p_C4 := (d.out.cell (p := ⟨b, off + k * 5 + 4, none⟩) HBL.out).trans C4.out
     refine hK.out _ _ ⟨p_BX_0, p_BX_1, p_C0, p_C1, p_C2, p_C3, p_C4⟩ (fun hHeld => ?_)
     clear p_BX_0 p_BX_1 p_C0 p_C1 p_C2 p_C3 p_C4
     clear hK K
     try simp only [Act.put, lA, lB, lC]
     refine tR (i := 6) (v := ?_) ?_ ?_; rotate_left
     ·
      intro w hSw; (try dsimp only at hSw); go_simp; try (with_reducible rfl)
     try simp only [Act.put, lA, lB, lC]
     refine tR (i := 7) (v := ?_) ?_ ?_; rotate_left
     ·
      intro w hSw; (try dsimp only at hSw); go_simp; try (with_reducible rfl)
     try simp only [Act.put, lA, lB, lC]
     refine tR (i := 8) (v := ?_) ?_ ?_; rotate_left
     ·
      intro w hSw; (try dsimp only at hSw); go_simp; try (with_reducible rfl)
     try simp only [Act.put, lA, lB, lC]
     refine wpAnyH_ready (rs := [10]) (by kernel_rfl) (by simp) ?_
     refine (AllReadyH.cons (o := _) (by simp only [hA, hB, hC]; rfl) (fun K hK => ?_) AllReadyH.nil)
     have p_BY_0 := (cell_of_row w6 _ 0 _ _ _ BY.out).trans (show _ = some (Value.slice none 0 0) from rfl)
     have p_BY_1 := (cell_of_row w6 _ 1 _ _ _ BY.out).trans (show _ = some (Value.int .i64 0) from rfl)
     have f_BY_0 := frozen_of_row w6 _ 0 _ _ BY.out
     have f_BY_1 := frozen_of_row w6 _ 1 _ _ BY.out
     go_simp
     clear p_BY_0 p_BY_1 f_BY_0 f_BY_1
     have tt : Turn (fun q => q = Wd.heap.size) w6 ((w6.setCell ⟨Wd.heap.size, 0, none⟩ (.slice sa s2.length sc)).setCell ⟨Wd.heap.size, 1, none⟩ (.int .i64 m2)) := (((Turn.refl (fun q => q = Wd.heap.size) w6).trans (turn_set (G := fun q => q = Wd.heap.size) (g := Wd.heap.size) (j := 0) (u := .slice sa s2.length sc) rfl)).trans (turn_set (G := fun q => q = Wd.heap.size) (g := Wd.heap.size) (j := 1) (u := .int .i64 m2) rfl))
     have r := (heap_setCell_same _ (Wd.heap.size) 1 _ _ (.int .i64 m2) (heap_setCell_same w6 (Wd.heap.size) 0 _ _ (.slice sa s2.length sc) BY.out))
     simp at r
     generalize ((w6.setCell ⟨Wd.heap.size, 0, none⟩ (.slice sa s2.length sc)).setCell ⟨Wd.heap.size, 1, none⟩ (.int .i64 m2)) = V2 at *
     have y0 := ZR.out
     have y1 := ZR2.out
     have y2 := Z_dr.out
     have y3 := Y_Y.out
     have y4 := Z_w6.out
     have yd : w.heap.size ≤ w6.heap.size := d.out.size
     replace BZ := Lib.hid ((tt.block (w.heap.size + 1) (Array.getElem?_eq_some_iff.1 BZ.out).1 (fun h => by have r2 : _ = Wd.heap.size := h; omega)).trans BZ.out)
     replace B0 := Lib.hid ((tt.block w.heap.size (Array.getElem?_eq_some_iff.1 B0.out).1 (fun h => by have r2 : _ = Wd.heap.size := h; omega)).trans B0.out)
     replace BX := Lib.hid ((tt.block R (Array.getElem?_eq_some_iff.1 BX.out).1 (fun h => by have r2 : _ = Wd.heap.size := h; omega)).trans BX.out)
     replace PF := Lib.hid (slO_turn tVersionS_law PF.out tt (fun b h1 h2 => by have r1 := QF.out b h1; have r2 : _ = Wd.heap.size := h2; omega))
     replace P2 := Lib.hid (slO_turn tVersionS_law P2.out tt (fun b h1 h2 => by have r1 := Q2.out b h1; have r2 : _ = Wd.heap.size := h2; omega))
     replace d := Lib.hid (below_turn d.out tt (fun b h => by have r2 : _ = Wd.heap.size := h; omega) (by omega))
     have Z_V2 := Lib.hid (show w6.heap.size ≤ V2.heap.size from tt.size)
     clear yd y0 y1 y2 y3 y4
     replace BY : Hid (V2.heap[Wd.heap.size]? = some (.cells #[.slice sa s2.length sc, .int .i64 m2] 41 (0, 0))) := Lib.hid r
     clear r tt
     have p_BX_0 := (cell_of_row V2 _ 0 _ _ _ BX.out).trans (show _ = some (Value.slice fa sk.length fc) from rfl)
     have p_BX_1 := (cell_of_row V2 _ 1 _ _ _ BX.out).trans (show _ = some (Value.int .i64 nk) from rfl)
     have p_C0 := (d.out.cell (p := ⟨b, off + k * 5, none⟩) HBL.out).trans C0.out
     have p_C1 := (d.out.cell (p := ⟨b, off + k * 5 + 1, none⟩) HBL.out).trans C1.out
     have p_C2 := (d.out.cell (p := ⟨b, off + k * 5 + 2, none⟩) HBL.out).trans C2.out
     have p_C3 := (d.out.cell (p := ⟨b, off + k * 5 + 3, none⟩) HBL.out).trans C3.out
     have p_C4 := (d.out.cell (p := ⟨b, off + k * 5 + 4, none⟩) HBL.out).trans C4.out
     refine hK.out _ _ ⟨p_BX_0, p_BX_1, p_C0, p_C1, p_C2, p_C3, p_C4⟩ (fun hHeld => ?_)
     clear p_BX_0 p_BX_1 p_C0 p_C1 p_C2 p_C3 p_C4
     clear hK K
     try simp only [Act.put, lA, lB, lC]
     refine tR (i := 11) (v := ?_) ?_ ?_; rotate_left
     ·
      intro w hSw; (try dsimp only at hSw); go_simp; try (with_reducible rfl)
     try simp only [Act.put, lA, lB, lC]
     refine wpAnyH_done (by kernel_rfl) ?_ _
     clear hHeld
     have p_BY_0 := (cell_of_row V2 _ 0 _ _ _ BY.out).trans (show _ = some (Value.slice sa s2.length sc) from rfl)
     have p_BY_1 := (cell_of_row V2 _ 1 _ _ _ BY.out).trans (show _ = some (Value.int .i64 m2) from rfl)
     have p_BX_0 := (cell_of_row V2 _ 0 _ _ _ BX.out).trans (show _ = some (Value.slice fa sk.length fc) from rfl)
     have p_BX_1 := (cell_of_row V2 _ 1 _ _ _ BX.out).trans (show _ = some (Value.int .i64 nk) from rfl)
     have f_BX_0 := frozen_of_row V2 _ 0 _ _ BX.out
     have f_BX_1 := frozen_of_row V2 _ 1 _ _ BX.out
     go_wp2
     clear p_BY_0 p_BY_1 p_BX_0 p_BX_1 f_BX_0 f_BX_1
     have y0 := ZR.out
     have y1 := ZR2.out
     have y2 := Z_dr.out
     have y3 := Y_Y.out
     have y4 := Z_w6.out
     have y5 := Z_V2.out
     have tt : Turn (fun q => q = R) V2 ((V2.setCell ⟨R, 0, none⟩ (.slice sa s2.length sc)).setCell ⟨R, 1, none⟩ (.int .i64 m2)) := (((Turn.refl (fun q => q = R) V2).trans (turn_set (G := fun q => q = R) (g := R) (j := 0) (u := .slice sa s2.length sc) rfl)).trans (turn_set (G := fun q => q = R) (g := R) (j := 1) (u := .int .i64 m2) rfl))
     have r := (heap_setCell_same _ R 1 _ _ (.int .i64 m2) (heap_setCell_same V2 R 0 _ _ (.slice sa s2.length sc) BX.out))
     simp at r
     generalize ((V2.setCell ⟨R, 0, none⟩ (.slice sa s2.length sc)).setCell ⟨R, 1, none⟩ (.int .i64 m2)) = wz at *
     have b0 := (tt.block w.heap.size (Array.getElem?_eq_some_iff.1 B0.out).1 (fun h => by have r2 : _ = R := h; omega)).trans B0.out
     have bz := (tt.block (w.heap.size + 1) (Array.getElem?_eq_some_iff.1 BZ.out).1 (fun h => by have r2 : _ = R := h; omega)).trans BZ.out
     have pn := slO_mono (slO_turn tVersionS_law P2.out tt (fun q h1 h2 => by have r1 := Q2.out q h1; have r2 : q = R := h2; omega)) (F' := fun q => w.heap.size + 1 < q ∧ q ≠ R) (fun q h => by have r1 := Q2.out q h; exact ⟨by omega, by omega⟩)
     have dn := below_turn d.out tt (fun q h => by have r2 : q = R := h; omega) d.out.size
     have zn : R < wz.heap.size := Nat.lt_of_lt_of_le (by omega) tt.size
     clear tt y0 y1 y2 y3 y4 y5
     go_roundw
     case rel => exact ⟨k + 1, _, s2, m2, cnt + 1, by omega, by go_num, rfl, HN2, b0, bz, r, pn, dn, zn⟩
     case measure => simp [intOf]; omega
  ·
   obtain rfl : k = l.length := by omega
   have HE : Hid (applysB (ss, now) l = ((sk, nk), cnt)) := Lib.hid (by rw [← applys_all]; exact HST.out)
   have BZ := Lib.hid r1
   have BX := Lib.hid r2
   have PF := Lib.hid hown
   have QF := Lib.hid (fun q (h : w.heap.size + 1 < q ∧ q ≠ R) => h)
   have d := Lib.hid hbel
   clear r0 r1 r2 hown hbel hcn
   have p_BX_0 := (cell_of_row wr _ 0 _ _ _ BX.out).trans (show _ = some (Value.slice fa sk.length fc) from rfl)
   have p_BX_1 := (cell_of_row wr _ 1 _ _ _ BX.out).trans (show _ = some (Value.int .i64 nk) from rfl)
   have p_BZ_0 := (cell_of_row wr _ 0 _ _ _ BZ.out).trans (show _ = some (Value.slice none 0 0) from rfl)
   have p_BZ_1 := (cell_of_row wr _ 1 _ _ _ BZ.out).trans (show _ = some (Value.int .i64 0) from rfl)
   have f_BZ_0 := frozen_of_row wr _ 0 _ _ BZ.out
   have f_BZ_1 := frozen_of_row wr _ 1 _ _ BZ.out
   have tt : Turn (fun q => q = w.heap.size + 1) wr ((wr.setCell ⟨w.heap.size + 1, 0, none⟩ (.slice fa sk.length fc)).setCell ⟨w.heap.size + 1, 1, none⟩ (.int .i64 nk)) := ((Turn.refl (fun q => q = w.heap.size + 1) _).trans (turn_set (G := fun q => q = w.heap.size + 1) (g := w.heap.size + 1) (j := 0) (u := .slice fa sk.length fc) rfl)).trans (turn_set (G := fun q => q = w.heap.size + 1) (g := w.heap.size + 1) (j := 1) (u := .int .i64 nk) rfl)
   have r := heap_setCell_same _ (w.heap.size + 1) 1 _ _ (.int .i64 nk) (heap_setCell_same wr (w.heap.size + 1) 0 _ _ (.slice fa sk.length fc) BZ.out)
   have e0 := cell_of_row _ _ 0 _ _ _ r
   have e1 := cell_of_row _ _ 1 _ _ _ r
   simp at e0 e1
   have DF := Lib.hid (below_turn d.out tt (fun q h => by omega) d.out.size)
   have PE := Lib.hid (slO_turn tVersionS_law PF.out tt (fun q h1 h2 => by have r1 := QF.out q h1; omega))
   have QE := Lib.hid (fun q h => (show w.heap.size ≤ q by have r1 := QF.out q h; omega))
   clear tt r
   go_wp2
   refine bodyPost_ret (v := .tuple #[.agg #[.slice fa sk.length fc, .int .i64 nk], .int .i64 cnt]) ?_ rfl ?_
   ·
    simp [results, Try.f23, go_sem, e0, e1]
   ·
    show FreshNI _ _ _ _; rw [HE.out]; exact ⟨[.slice fa sk.length fc, .int .i64 nk], _, rfl, tStore_mkO PE.out (fun q h => h), QE.out, DF.out⟩
def possP (ss : List (List VerD)) (now : Int) : Prop := ShortP ss ss.length ∧ VersP ss.flatten now ss.flatten.length
instance (ss : List (List VerD)) (now : Int) : Decidable (possP ss now) := by unfold possP; infer_instance
def possB (ss : List (List VerD)) (now : Int) : Bool := decide (possP ss now)
theorem poss_short {ss : List (List VerD)} {now : Int} {i : Nat} (hi : i < ss.length) (h : ¬ (ss.getD i []).length ≤ 4) : possB ss now = false := decide_eq_false (fun g => h (g.1 i hi))
theorem poss_ver {ss : List (List VerD)} {now : Int} {i : Nat} (hi : i < ss.flatten.length) (h : verB (ss.flatten.getD i v0D) now = false) : possB ss now = false := decide_eq_false (fun g => by
 have := (g.2 i hi).1; rw [h] at this; cases this)
theorem take_get {l : List VerD} {i j : Nat} (h : j < (l.take i).length) : (l.take i)[j] = l.getD j v0D := by
 have h2 : j < i ∧ j < l.length := by rw [List.length_take] at h; omega
 simp [List.getD, h2.1, h2.2]
/-- One that is seen with an earlier one: the store is not possible. -/
theorem poss_seen {ss : List (List VerD)} {now : Int} {i : Nat} (hv : VersP ss.flatten now i) (hi : i < ss.flatten.length) (h1 : verB (ss.flatten.getD i v0D) now = true) (h : anyB (ss.flatten.getD i v0D) (ss.flatten.take i) = true) : possB ss now = false := decide_eq_false (fun g => by
 unfold anyB at h
 rw [List.any_eq_true] at h
 obtain ⟨y, hy, hs⟩ := h
 obtain ⟨j, hj, rfl⟩ := List.getElem_of_mem hy
 have hji : j < i := by rw [List.length_take] at hj; omega
 have e : (ss.flatten.take i)[j] = ss.flatten.getD j v0D := take_get hj
 rw [e, seenB_apart h1 (hv j hji).1, (g.2 i hi).2 j hji] at hs
 cases hs)
theorem poss_step {ss : List (List VerD)} {now : Int} {i : Nat} (hv : VersP ss.flatten now i) (hi : i < ss.flatten.length) (h1 : verB (ss.flatten.getD i v0D) now = true) (h : anyB (ss.flatten.getD i v0D) (ss.flatten.take i) = false) : VersP ss.flatten now (i + 1) := by
 refine vers_step hv h1 (fun k hk => ?_)
 unfold anyB at h
 rw [List.any_eq_false] at h
 have hkl : k < (ss.flatten.take i).length := by rw [List.length_take]; omega
 have := h _ (List.getElem_mem hkl)
 have e : (ss.flatten.take i)[k] = ss.flatten.getD k v0D := take_get hkl
 rw [e, seenB_apart h1 (hv k hk).1] at this
 simpa using this
theorem poss_yes {ss : List (List VerD)} {now : Int} (h1 : ShortP ss ss.length) (h2 : VersP ss.flatten now ss.flatten.length) : possB ss now = true := decide_eq_true ⟨h1, h2⟩
theorem store_poss (ss : List (List VerD)) (now : Int) : storeB ss now = (decide (1 ≤ (ss.length : Int) ∧ (ss.length : Int) ≤ 8) && decide (0 ≤ now ∧ now ≤ 100000) && possB ss now) := by
 unfold storeB possB
 by_cases h1 : 1 ≤ ss.length ∧ ss.length ≤ 8
 ·
  by_cases h2 : 0 ≤ now ∧ now ≤ 100000
  ·
   rw [decide_eq_true (show 1 ≤ (ss.length : Int) ∧ (ss.length : Int) ≤ 8 by omega), decide_eq_true h2]
   by_cases h3 : possP ss now
   ·
    rw [decide_eq_true h3, decide_eq_true ⟨⟨h1, h2⟩, h3⟩]; rfl
   ·
    rw [decide_eq_false h3, decide_eq_false (fun g => h3 g.2)]; rfl
  ·
   rw [decide_eq_false h2, decide_eq_false (fun g => h2 g.1.2), Bool.and_false]; rfl
 ·
  rw [decide_eq_false (show ¬ (1 ≤ (ss.length : Int) ∧ (ss.length : Int) ≤ 8) by omega), decide_eq_false (fun g => h1 g.1.1)]; rfl
theorem cat_take (ss : List (List VerD)) (k : Nat) : ss.flatten.take (cat ss k).length = cat ss k := by
 unfold cat
 have e : ss.flatten = (ss.take k).flatten ++ (ss.drop k).flatten := by rw [← List.flatten_append, List.take_append_drop]
 rw [e, List.take_left]
set_option maxHeartbeats 16000000 in
set_option maxRecDepth 100000 in
theorem isPossible_any (B g : Nat) (bs : List Nat) (us : List SegV) (ss : List (List VerD)) (now : Int) (w : World) (ht : TabN B w g bs us) (hr : SegsR w us ss) (hs : zL tVersionS ss ≤ 1048576) :
  Calls Try.prog 102 #[.slice (some ⟨g, 0, none⟩) us.length us.length, .int .i64 now] w (fun e w' => e = .returned (.bool (possB ss now)) ∧ Below w.heap.size w w') := by
 have hlen := zL_len hs
 have HZF : Hid (zL tVersion ss.flatten ≤ 1048576) := Lib.hid (by have := zL_all ss; omega)
 have HFL := Lib.hid (zL_len HZF.out)
 have HS := Lib.hid hs
 have hul := hr.1
 have HR := Lib.hid hr
 have HT := Lib.hid ht
 rw [hul]
 have HUL := Lib.hid hul
 clear ht hr hs hul
 go_enter Try.func102, Try.ntmps102
 go_wp2
 go_loopw [5, 12] (fun o i wr => ∃ (k : Nat) (L : List (List Value)), k ≤ ss.length ∧ i = .int .i64 k ∧ SlO 88 (tRaw 4) wr (since w) o L ∧ Hid (Sh tVersion w L (cat ss k)) ∧ Hid (ShortP ss k) ∧ Hid (VersP ss.flatten now (cat ss k).length) ∧ Below w.heap.size w wr) (fun _ i _ => ss.length - (intOf i).toNat)
 case atStart => exact ⟨0, [], Nat.zero_le _, rfl, slO_nil _ _ _ _, Lib.hid (by rw [cat_zero]; exact sh_nil w), Lib.hid (fun j hj => by omega), Lib.hid (by rw [cat_zero]; exact fun j hj => by simp at hj), Below.refl _ _⟩
 case round =>
  obtain ⟨k, L, hk, rfl, hown, hsh, hshort, hvers, hbel⟩ := hrel
  obtain ⟨oa, oc, rfl⟩ := slO_len hown
  by_cases hlt : k < ss.length
  ·
   have i1 : (0 : Int) ≤ (k : Int) := by omega
   have i2 : (k : Int) < (ss.length : Int) := by omega
   obtain ⟨_, tg, tl, trow, _⟩ := tabN_below HT.out hbel
   obtain ⟨r0, r1, _⟩ := trow k (by have := HUL.out; omega)
   obtain ⟨s1, s2⟩ := HR.out.2 k hlt
   have HSM := Lib.hid (zL_seg hlt)
   have HCI := Lib.hid (fun j hj => cat_in (ss := ss) (k := k) (j := j) hlt hj)
   have HCL := Lib.hid (cat_len hlt)
   have HCF := Lib.hid (cat_le ss (k + 1))
   have HNS := Lib.hid (fun h => poss_short (ss := ss) (now := now) hlt h)
   have HYS : Hid ((ss.getD k []).length ≤ 4 → ShortP ss (k + 1)) := Lib.hid (fun g j hj => by
    by_cases e : j = k
    ·
     rw [e]; exact g
    ·
     exact hshort.out j (by omega))
   have HVS := hvers
   have HSH := hsh
   have HOW := Lib.hid hown
   have HB := Lib.hid hbel
   clear trow tg tl hown hbel hshort hvers hsh
   generalize us.getD k s0V = u at *
   generalize bs.getD k 0 = pb at *
   obtain ⟨ua, m0, uc⟩ := u
   simp only at s2
   subst s2
   have p1 := (cell_of_row wr _ 0 _ _ _ r1).trans (show _ = some (Value.slice ua (ss.getD k []).length (ss.getD k []).length) from rfl)
   have P1 := Lib.hid p1
   have RS : Hid (SlR tVersion w (.slice ua (ss.getD k []).length (ss.getD k []).length) (ss.getD k [])) := Lib.hid s1
   have RR := Lib.hid r0
   unfold ptrV at r0
   clear s1 r1
   have HML : Hid ((ss.getD k []).length ≤ 1048576) := Lib.hid (zL_len (T := tVersion) (Nat.le_trans HSM.out HS.out))
   generalize ss.getD k [] = seg at *
   obtain ⟨m, hm⟩ : ∃ m, m = seg.length := ⟨_, rfl⟩
   have HM := Lib.hid hm
   rw [← hm] at p1 P1 RS HCL HML HNS HYS
   clear hm
   by_cases h4 : m ≤ 4
   rotate_left
   ·
    have HF := Lib.hid (HNS.out h4)
    have h5 : (4 : Int) < (m : Int) := by omega
    clear HNS HYS
    go_wp2
    go_ret
    exact ⟨ret_b HF.out.symm, HB.out⟩
   have HSK := Lib.hid (HYS.out h4)
   have h5 : ¬ (4 : Int) < (m : Int) := by omega
   clear HNS HYS
   go_wp2
   clear r0 p1 h5
   go_loopw [5, 27] (fun o i wi => ∃ (j : Nat) (L : List (List Value)), j ≤ m ∧ i = .int .i64 j ∧ SlO 88 (tRaw 4) wi (since w) o L ∧ Hid (Sh tVersion w L (ss.flatten.take ((cat ss k).length + j))) ∧ Hid (VersP ss.flatten now ((cat ss k).length + j)) ∧ Below w.heap.size w wi) (fun _ i _ => m - (intOf i).toNat)
   case atStart => exact ⟨0, L, Nat.zero_le _, rfl, HOW.out, Lib.hid (by rw [Nat.add_zero, cat_take]; exact HSH.out), Lib.hid (by rw [Nat.add_zero]; exact HVS.out), HB.out⟩
   case round =>
    obtain ⟨j, L2, hj, rfl, hown, hsh, hvers, hbel⟩ := hrel
    clear HOW HSH HVS HB
    obtain ⟨oa2, oc2, rfl⟩ := slO_len hown
    by_cases hjl : j < m
    ·
     have j1 : (0 : Int) ≤ (j : Int) := by omega
     have j2 : (j : Int) < (m : Int) := by omega
     have hjs : j < seg.length := by have := HM.out; omega
     obtain ⟨b, off, cap', xa, xc, hv, hbl, c0, c1, c2, c3, hx⟩ := verR_at RS.out hjs
     simp only [Value.slice.injEq] at hv
     obtain ⟨rfl, hm1, hm2⟩ := hv
     clear hm1 hm2
     have hif : (cat ss k).length + j < ss.flatten.length := by have := HCL.out; have := HCF.out; omega
     have hci := HCI.out j hjs
     have HXL := Lib.hid (ver_len (l := ss.flatten) HZF.out hif)
     have HNV := Lib.hid (fun q => poss_ver (ss := ss) (now := now) hif q)
     have HNA := Lib.hid (fun q r => poss_seen (ss := ss) (now := now) hvers.out hif q r)
     have HST := Lib.hid (fun q r => poss_step (ss := ss) (now := now) hvers.out hif q r)
     have HTK := Lib.hid (take_getD hif)
     rw [hci] at HXL HNV HNA HST HTK
     have HLL : Hid (L2.length ≤ 1048576 ∧ (ss.flatten.take ((cat ss k).length + j)).length ≤ 1048576) := Lib.hid (by
      have h1 := sh_len hsh.out; have h2 := HFL.out; rw [List.length_take] at h1 ⊢; omega)
     clear hci hif hvers
     generalize seg.getD j v0D = x at *
     obtain ⟨id, xs, born, died⟩ := x
     simp only at c0 c1 c2 c3 HXL
     have e0 := (hbel.cell (p := ⟨b, off + j * 4, none⟩) hbl).trans c0
     have e1 := (hbel.cell (p := ⟨b, off + j * 4 + 1, none⟩) hbl).trans c1
     have e2 := (hbel.cell (p := ⟨b, off + j * 4 + 2, none⟩) hbl).trans c2
     have e3 := (hbel.cell (p := ⟨b, off + j * 4 + 3, none⟩) hbl).trans c3
     have hal : Below wr.heap.size wr (wr.alloc (.cells #[.int .i64 id, .slice xa xs.length xc, .int .i64 born, .int .i64 died] 88)) := (Below.refl _ _).alloc (Nat.le_refl _) _
     have BV : Hid ((wr.alloc (.cells #[.int .i64 id, .slice xa xs.length xc, .int .i64 born, .int .i64 died] 88)).heap[wr.heap.size]? = some (.cells #[.int .i64 id, .slice xa xs.length xc, .int .i64 born, .int .i64 died] 88 (0, 0))) := Lib.hid (heap_alloc_new wr _)
     have YV : Hid (wr.heap.size < (wr.alloc (.cells #[.int .i64 id, .slice xa xs.length xc, .int .i64 born, .int .i64 died] 88)).heap.size) := Lib.hid (by simp [World.size_alloc])
     have PF := Lib.hid (slO_fresh (tRaw_law (by decide)) (slO_lt (tRaw_law (by decide)) hown) hal)
     have d := Lib.hid (hbel.trans (hal.mono hbel.size))
     have DZ := Lib.hid hbel.size
     have HX : Hid (Ints w (.slice xa xs.length xc) xs) := Lib.hid hx
     have HSH := hsh
     have HIV := Lib.hid (fun W h => isVersion_any id born died now (.slice xa xs.length xc) xs W h HXL.out)
     clear hown hbel hal hx c0 c1 c2 c3 hbl hsh
     cases hver : verB (id, xs, born, died) now with
     | false =>
      have HF := Lib.hid (HNV.out hver)
      rw [hver] at HIV
      clear hver HNV HNA HST
      go_wp2_with fail
      clear e0 e1 e2 e3
      generalize wr.alloc (.cells #[.int .i64 id, .slice xa xs.length xc, .int .i64 born, .int .i64 died] 88) = W1 at *
      refine (HIV.out W1 (ints_below HX.out d.out)).mono ?_
      rintro e w2 ⟨rfl, b2⟩
      have d2 := d.out.trans (b2.mono d.out.size)
      go_wp2
      go_ret
      exact ⟨ret_b HF.out.symm, d2⟩
     | true =>
      have HNA2 := Lib.hid (fun r => HNA.out hver r)
      have HST2 := Lib.hid (fun r => HST.out hver r)
      rw [hver] at HIV
      clear hver HNV HNA HST
      go_wp2_with fail
      clear e0 e1 e2 e3
      generalize wr.alloc (.cells #[.int .i64 id, .slice xa xs.length xc, .int .i64 born, .int .i64 died] 88) = W1 at *
      refine (HIV.out W1 (ints_below HX.out d.out)).mono ?_
      rintro e w2 ⟨rfl, b2⟩
      have kv := (b2.block wr.heap.size YV.out).trans BV.out
      have p0 := (cell_of_row w2 _ 0 _ _ _ kv).trans (show _ = some (Value.int .i64 id) from rfl)
      have p1 := (cell_of_row w2 _ 1 _ _ _ kv).trans (show _ = some (Value.slice xa xs.length xc) from rfl)
      have p2 := (cell_of_row w2 _ 2 _ _ _ kv).trans (show _ = some (Value.int .i64 born) from rfl)
      have p3 := (cell_of_row w2 _ 3 _ _ _ kv).trans (show _ = some (Value.int .i64 died) from rfl)
      have KV := Lib.hid kv
      have PF2 := Lib.hid (slO_fresh (tRaw_law (by decide)) PF.out b2)
      have d2 := Lib.hid (d.out.trans (b2.mono d.out.size))
      have Z2 := Lib.hid (Nat.lt_of_lt_of_le YV.out b2.size)
      have HO := Lib.hid (raw_reads (T := tVersion) (by decide) PF2.out (sh_below tVersion_law HSH.out d2.out))
      have HCS := Lib.hid (fun W h => containsSeen (.slice oa2 L2.length oc2) (ss.flatten.take ((cat ss k).length + j)) id born died xs xa xs.length xc W h HLL.out.2)
      clear PF d b2 kv
      cases hany : anyB (id, xs, born, died) (ss.flatten.take ((cat ss k).length + j)) with
      | true =>
       have HF := Lib.hid (HNA2.out hany)
       rw [hany] at HCS
       clear hany HNA2 HST2
       go_wp2_with fail
       refine (HCS.out w2 HO.out).mono ?_
       rintro e w3 ⟨rfl, b3⟩
       have d3 := d2.out.trans (b3.mono d2.out.size)
       clear p0 p1 p2 p3
       go_wp2
       go_ret
       exact ⟨ret_b HF.out.symm, d3⟩
      | false =>
       have HV2 := Lib.hid (HST2.out hany)
       rw [hany] at HCS
       clear hany HNA2 HST2
       go_wp2_with fail
       refine (HCS.out w2 HO.out).mono ?_
       rintro e w3 ⟨rfl, b3⟩
       have kv := (b3.block wr.heap.size Z2.out).trans KV.out
       clear p0 p1 p2 p3
       have p0 := (cell_of_row w3 _ 0 _ _ _ kv).trans (show _ = some (Value.int .i64 id) from rfl)
       have p1 := (cell_of_row w3 _ 1 _ _ _ kv).trans (show _ = some (Value.slice xa xs.length xc) from rfl)
       have p2 := (cell_of_row w3 _ 2 _ _ _ kv).trans (show _ = some (Value.int .i64 born) from rfl)
       have p3 := (cell_of_row w3 _ 3 _ _ _ kv).trans (show _ = some (Value.int .i64 died) from rfl)
       have PF3 := Lib.hid (slO_fresh (tRaw_law (by decide)) PF2.out b3)
       have d3 := Lib.hid (d2.out.trans (b3.mono d2.out.size))
       have Z3 := Lib.hid (Nat.le_trans (Nat.le_of_lt Z2.out) b3.size)
       have ON : Hid ((tRaw 4).O w3 (fun b => wr.heap.size ≤ b) [.int .i64 id, .slice xa xs.length xc, .int .i64 born, .int .i64 died] [.int .i64 id, .slice xa xs.length xc, .int .i64 born, .int .i64 died]) := Lib.hid ⟨rfl, rfl, by simp [Value.oneCell']⟩
       clear PF2 d2 b3 kv KV HO
       go_wp2_with (at_builtin; refine append_T (tRaw_law (by decide)) info_R_Version Try.underlying89 rfl rfl (.tmp 41) (.tmp 43) rfl (since w) wr.heap.size _ L2 rfl PF3.out Z3.out (fun b hb => Nat.le_trans DZ.out hb) HLL.out.1 [.int .i64 id, .slice xa xs.length xc, .int .i64 born, .int .i64 died] [.int .i64 id, .slice xa xs.length xc, .int .i64 born, .int .i64 died] ON.out (by simp [Value.oneCell']) 1 _ rfl rfl ?_)
       intro v' w4 o4 t4
       have d4 := Lib.hid (below_turn d3.out t4 (fun b hb => hb.1) d3.out.size)
       have SH : Hid (Sh tVersion w (L2 ++ [[.int .i64 id, .slice xa xs.length xc, .int .i64 born, .int .i64 died]]) (ss.flatten.take ((cat ss k).length + (j + 1)))) := Lib.hid (by rw [← Nat.add_assoc, HTK.out]; exact sh_app HSH.out (sh_one (tVersion_mkR (ints_slR HX.out))))
       have O4 := Lib.hid o4
       clear PF3 d3 t4 o4 p0 p1 p2 p3
       go_wp2
       go_roundw
       case rel => exact ⟨j + 1, _, by omega, by go_num, O4.out, SH, HV2, d4.out⟩
       case measure => simp [intOf]; omega
    ·
     obtain rfl : j = m := by omega
     have SH : Hid (Sh tVersion w L2 (cat ss (k + 1))) := Lib.hid (by have := hsh.out; rw [← HCL.out, cat_take] at this; exact this)
     have HV2 : Hid (VersP ss.flatten now (cat ss (k + 1)).length) := Lib.hid (by rw [HCL.out]; exact hvers.out)
     have O2 := Lib.hid hown
     have HB := Lib.hid hbel
     clear hsh hvers hown hbel
     go_wp2
     go_roundw
     case rel => exact ⟨k + 1, L2, by omega, by go_num, O2.out, SH, HSK, HV2, HB.out⟩
     case measure => simp [intOf]; omega
  ·
   obtain rfl : k = ss.length := by omega
   have HY := Lib.hid (poss_yes hshort.out (by have := hvers.out; rw [cat_all] at this; exact this))
   clear hsh hshort hvers
   go_wp2
   go_ret
   exact ⟨ret_b HY.out.symm, hbel⟩
set_option maxHeartbeats 8000000 in
set_option maxRecDepth 100000 in
theorem implIsStore (sv : Value) (ss : List (List VerD)) (now : Int) (w : World) (h : SlR tVersionS w sv ss) (hs : zL tVersionS ss ≤ 1048576) :
  Calls Try.prog 86 #[.agg #[sv, .int .i64 now]] w (fun e w' => e = .returned (.bool (storeB ss now)) ∧ Below w.heap.size w w') := by
 obtain ⟨us, hls, hsr⟩ := slR_ls h
 have HUL := Lib.hid hsr.1
 obtain ⟨a, cap, rfl⟩ := slR_len h
 have hlen := zL_len hs
 have HSS := Lib.hid hs
 have H := Lib.hid h
 have HLS := Lib.hid hls
 have HSR := Lib.hid hsr
 have d0 := Lib.hid (show Below w.heap.size w (w.alloc (.cells #[.slice a ss.length cap, .int .i64 now] 41)) from (Below.refl _ _).alloc (Nat.le_refl _) _)
 have B0 : Hid ((w.alloc (.cells #[.slice a ss.length cap, .int .i64 now] 41)).heap[w.heap.size]? = some (.cells #[.slice a ss.length cap, .int .i64 now] 41 (0, 0))) := Lib.hid (heap_alloc_new w _)
 have Y0 : Hid (w.heap.size < (w.alloc (.cells #[.slice a ss.length cap, .int .i64 now] 41)).heap.size) := Lib.hid (by simp [World.size_alloc])
 clear hls hsr h hs
 rw [store_poss]
 have HC1 := Lib.hid (isSegmentCount_any (ss.length : Int))
 have HC2 := Lib.hid (isTime_any now)
 have HPS : Hid (∀ (B g : Nat) (bs : List Nat) (W : World), TabN B W g bs us → SegsR W us ss → Calls Try.prog 102 #[.slice (some ⟨g, 0, none⟩) us.length us.length, .int .i64 now] W (fun e w' => e = .returned (.bool (possB ss now)) ∧ Below W.heap.size W w')) := Lib.hid (fun B g bs W h1 h2 => isPossible_any B g bs us ss now W h1 h2 HSS.out)
 have HTB := Lib.hid (fun W h => tableOf_any (.slice a ss.length cap) us W h (by have := HUL.out; omega))
 generalize possB ss now = pb at *
 have B1 := B0
 have d := d0
 cases hc1 : decide (1 ≤ (ss.length : Int) ∧ (ss.length : Int) ≤ 8) with
 | false =>
  rw [hc1] at HC1
  rw [Bool.false_and, Bool.false_and]
  clear hc1
  go_enter Try.func86, Try.ntmps86
  go_wp2
  generalize w.alloc (.cells #[.slice a ss.length cap, .int .i64 now] 41) = W at *
  have p_B0_0 := (cell_of_row W _ 0 _ _ _ B0.out).trans (show _ = some (Value.slice a ss.length cap) from rfl)
  have p_B0_1 := (cell_of_row W _ 1 _ _ _ B0.out).trans (show _ = some (Value.int .i64 now) from rfl)
  refine wp_region_held_drew (S := fun w' => w'.cell? ⟨w.heap.size, 0, none⟩ = some (Value.slice a ss.length cap) ∧ w'.cell? ⟨w.heap.size, 1, none⟩ = some (Value.int .i64 now)) (by kernel_rfl) ⟨p_B0_0, p_B0_1⟩ (fun hHeld => ?_)
  clear p_B0_0 p_B0_1
  have cdr : Below W.heap.size W W.drew := below_drew (Below.refl _ _)
  replace B0 := Lib.hid ((cdr.block w.heap.size (Array.getElem?_eq_some_iff.1 B0.out).1).trans B0.out)
  replace d := Lib.hid (d.out.trans (cdr.mono d.out.size))
  clear cdr
  refine tR (i := 0) (v := ?_) ?_ ?_; rotate_left
  ·
   intro w hSw; (try dsimp only at hSw); go_simp; try (with_reducible rfl)
  try simp only [Act.put, lA, lB, lC]
  refine tR (i := 1) (v := ?_) ?_ ?_; rotate_left
  ·
   intro w hSw; (try dsimp only at hSw); go_simp; try (with_reducible rfl)
  try simp only [Act.put, lA, lB, lC]
  refine tR (i := 2) (v := ?_) ?_ ?_; rotate_left
  ·
   intro w hSw; (try dsimp only at hSw); go_simp; try (with_reducible rfl)
  try simp only [Act.put, lA, lB, lC]
  refine wpAnyH_ready (rs := [3]) (by kernel_rfl) (by simp) ?_
  refine (AllReadyH.cons (o := _) (by simp only [hA, hB, hC]; rfl) (fun K hK => ?_) AllReadyH.nil)
  go_simp
  refine (HC1.out (W.drew)).mono ?_
  rintro e wx ⟨rfl, rfl⟩
  have p_B0_0 := (cell_of_row (W.drew) _ 0 _ _ _ B0.out).trans (show _ = some (Value.slice a ss.length cap) from rfl)
  have p_B0_1 := (cell_of_row (W.drew) _ 1 _ _ _ B0.out).trans (show _ = some (Value.int .i64 now) from rfl)
  refine hK.out _ _ ⟨p_B0_0, p_B0_1⟩ (fun hHeld => ?_)
  clear p_B0_0 p_B0_1
  clear hK K
  try simp only [Act.put, lA, lB, lC]
  refine tR (i := 4) (v := ?_) ?_ ?_; rotate_left
  ·
   intro w hSw; (try dsimp only at hSw); go_simp; try (with_reducible rfl)
  try simp only [Act.put, lA, lB, lC]
  refine tO (i := 5) ?_
  try simp only [Act.put, lA, lB, lC]
  refine tO (i := 6) ?_
  try simp only [Act.put, lA, lB, lC]
  refine tO (i := 7) ?_
  try simp only [Act.put, lA, lB, lC]
  refine tR (i := 8) (v := ?_) ?_ ?_; rotate_left
  ·
   intro w hSw; (try dsimp only at hSw); go_simp; try (with_reducible rfl)
  try simp only [Act.put, lA, lB, lC]
  refine tR (i := 9) (v := ?_) ?_ ?_; rotate_left
  ·
   intro w hSw; (try dsimp only at hSw); go_simp; try (with_reducible rfl)
  try simp only [Act.put, lA, lB, lC]
  refine tO (i := 10) ?_
  try simp only [Act.put, lA, lB, lC]
  refine tO (i := 11) ?_
  try simp only [Act.put, lA, lB, lC]
  refine tO (i := 12) ?_
  try simp only [Act.put, lA, lB, lC]
  refine tO (i := 13) ?_
  try simp only [Act.put, lA, lB, lC]
  refine tO (i := 14) ?_
  try simp only [Act.put, lA, lB, lC]
  refine tO (i := 15) ?_
  try simp only [Act.put, lA, lB, lC]
  refine tR (i := 16) (v := ?_) ?_ ?_; rotate_left
  ·
   intro w hSw; (try dsimp only at hSw); go_simp; try (with_reducible rfl)
  try simp only [Act.put, lA, lB, lC]
  refine tR (i := 17) (v := ?_) ?_ ?_; rotate_left
  ·
   intro w hSw; (try dsimp only at hSw); go_simp; try (with_reducible rfl)
  try simp only [Act.put, lA, lB, lC]
  refine wpAnyH_done (by kernel_rfl) ?_ _
  clear hHeld
  go_wp2
  go_ret
  exact ⟨rfl, d.out⟩
 | true =>
  rw [hc1] at HC1
  rw [Bool.true_and]
  clear hc1
  cases hc2 : decide (0 ≤ now ∧ now ≤ 100000) with
  | false =>
   rw [hc2] at HC2
   rw [Bool.false_and]
   clear hc2
   go_enter Try.func86, Try.ntmps86
   go_wp2
   generalize w.alloc (.cells #[.slice a ss.length cap, .int .i64 now] 41) = W at *
   have p_B0_0 := (cell_of_row W _ 0 _ _ _ B0.out).trans (show _ = some (Value.slice a ss.length cap) from rfl)
   have p_B0_1 := (cell_of_row W _ 1 _ _ _ B0.out).trans (show _ = some (Value.int .i64 now) from rfl)
   refine wp_region_held_drew (S := fun w' => w'.cell? ⟨w.heap.size, 0, none⟩ = some (Value.slice a ss.length cap) ∧ w'.cell? ⟨w.heap.size, 1, none⟩ = some (Value.int .i64 now)) (by kernel_rfl) ⟨p_B0_0, p_B0_1⟩ (fun hHeld => ?_)
   clear p_B0_0 p_B0_1
   have cdr : Below W.heap.size W W.drew := below_drew (Below.refl _ _)
   replace B0 := Lib.hid ((cdr.block w.heap.size (Array.getElem?_eq_some_iff.1 B0.out).1).trans B0.out)
   replace d := Lib.hid (d.out.trans (cdr.mono d.out.size))
   clear cdr
   refine tR (i := 0) (v := ?_) ?_ ?_; rotate_left
   ·
    intro w hSw; (try dsimp only at hSw); go_simp; try (with_reducible rfl)
   try simp only [Act.put, lA, lB, lC]
   refine tR (i := 1) (v := ?_) ?_ ?_; rotate_left
   ·
    intro w hSw; (try dsimp only at hSw); go_simp; try (with_reducible rfl)
   try simp only [Act.put, lA, lB, lC]
   refine tR (i := 2) (v := ?_) ?_ ?_; rotate_left
   ·
    intro w hSw; (try dsimp only at hSw); go_simp; try (with_reducible rfl)
   try simp only [Act.put, lA, lB, lC]
   refine wpAnyH_ready (rs := [3]) (by kernel_rfl) (by simp) ?_
   refine (AllReadyH.cons (o := _) (by simp only [hA, hB, hC]; rfl) (fun K hK => ?_) AllReadyH.nil)
   go_simp
   refine (HC1.out (W.drew)).mono ?_
   rintro e wx ⟨rfl, rfl⟩
   have p_B0_0 := (cell_of_row (W.drew) _ 0 _ _ _ B0.out).trans (show _ = some (Value.slice a ss.length cap) from rfl)
   have p_B0_1 := (cell_of_row (W.drew) _ 1 _ _ _ B0.out).trans (show _ = some (Value.int .i64 now) from rfl)
   refine hK.out _ _ ⟨p_B0_0, p_B0_1⟩ (fun hHeld => ?_)
   clear p_B0_0 p_B0_1
   clear hK K
   try simp only [Act.put, lA, lB, lC]
   refine tR (i := 4) (v := ?_) ?_ ?_; rotate_left
   ·
    intro w hSw; (try dsimp only at hSw); go_simp; try (with_reducible rfl)
   try simp only [Act.put, lA, lB, lC]
   refine tR (i := 5) (v := ?_) ?_ ?_; rotate_left
   ·
    intro w hSw; (try dsimp only at hSw); go_simp; try (with_reducible rfl)
   try simp only [Act.put, lA, lB, lC]
   refine tR (i := 6) (v := ?_) ?_ ?_; rotate_left
   ·
    intro w hSw; (try dsimp only at hSw); go_simp; try (with_reducible rfl)
   try simp only [Act.put, lA, lB, lC]
   refine wpAnyH_ready (rs := [7]) (by kernel_rfl) (by simp) ?_
   refine (AllReadyH.cons (o := _) (by simp only [hA, hB, hC]; rfl) (fun K hK => ?_) AllReadyH.nil)
   go_simp
   refine (HC2.out (W.drew)).mono ?_
   rintro e wx ⟨rfl, rfl⟩
   have p_B0_0 := (cell_of_row (W.drew) _ 0 _ _ _ B0.out).trans (show _ = some (Value.slice a ss.length cap) from rfl)
   have p_B0_1 := (cell_of_row (W.drew) _ 1 _ _ _ B0.out).trans (show _ = some (Value.int .i64 now) from rfl)
   refine hK.out _ _ ⟨p_B0_0, p_B0_1⟩ (fun hHeld => ?_)
   clear p_B0_0 p_B0_1
   clear hK K
   try simp only [Act.put, lA, lB, lC]
   refine tR (i := 8) (v := ?_) ?_ ?_; rotate_left
   ·
    intro w hSw; (try dsimp only at hSw); go_simp; try (with_reducible rfl)
   try simp only [Act.put, lA, lB, lC]
   refine tR (i := 9) (v := ?_) ?_ ?_; rotate_left
   ·
    intro w hSw; (try dsimp only at hSw); go_simp; try (with_reducible rfl)
   try simp only [Act.put, lA, lB, lC]
   refine tO (i := 10) ?_
   try simp only [Act.put, lA, lB, lC]
   refine tO (i := 11) ?_
   try simp only [Act.put, lA, lB, lC]
   refine tO (i := 12) ?_
   try simp only [Act.put, lA, lB, lC]
   refine tO (i := 13) ?_
   try simp only [Act.put, lA, lB, lC]
   refine tO (i := 14) ?_
   try simp only [Act.put, lA, lB, lC]
   refine tO (i := 15) ?_
   try simp only [Act.put, lA, lB, lC]
   refine tR (i := 16) (v := ?_) ?_ ?_; rotate_left
   ·
    intro w hSw; (try dsimp only at hSw); go_simp; try (with_reducible rfl)
   try simp only [Act.put, lA, lB, lC]
   refine tR (i := 17) (v := ?_) ?_ ?_; rotate_left
   ·
    intro w hSw; (try dsimp only at hSw); go_simp; try (with_reducible rfl)
   try simp only [Act.put, lA, lB, lC]
   refine wpAnyH_done (by kernel_rfl) ?_ _
   clear hHeld
   go_wp2
   go_ret
   exact ⟨rfl, d.out⟩
  | true =>
   rw [hc2] at HC2
   rw [Bool.true_and]
   clear hc2
   go_enter Try.func86, Try.ntmps86
   go_wp2
   generalize w.alloc (.cells #[.slice a ss.length cap, .int .i64 now] 41) = W at *
   have p_B0_0 := (cell_of_row W _ 0 _ _ _ B0.out).trans (show _ = some (Value.slice a ss.length cap) from rfl)
   have p_B0_1 := (cell_of_row W _ 1 _ _ _ B0.out).trans (show _ = some (Value.int .i64 now) from rfl)
   refine wp_region_held_drew (S := fun w' => w'.cell? ⟨w.heap.size, 0, none⟩ = some (Value.slice a ss.length cap) ∧ w'.cell? ⟨w.heap.size, 1, none⟩ = some (Value.int .i64 now)) (by kernel_rfl) ⟨p_B0_0, p_B0_1⟩ (fun hHeld => ?_)
   clear p_B0_0 p_B0_1
   have cdr : Below W.heap.size W W.drew := below_drew (Below.refl _ _)
   replace B0 := Lib.hid ((cdr.block w.heap.size (Array.getElem?_eq_some_iff.1 B0.out).1).trans B0.out)
   replace d := Lib.hid (d.out.trans (cdr.mono d.out.size))
   clear cdr
   refine tR (i := 0) (v := ?_) ?_ ?_; rotate_left
   ·
    intro w hSw; (try dsimp only at hSw); go_simp; try (with_reducible rfl)
   try simp only [Act.put, lA, lB, lC]
   refine tR (i := 1) (v := ?_) ?_ ?_; rotate_left
   ·
    intro w hSw; (try dsimp only at hSw); go_simp; try (with_reducible rfl)
   try simp only [Act.put, lA, lB, lC]
   refine tR (i := 2) (v := ?_) ?_ ?_; rotate_left
   ·
    intro w hSw; (try dsimp only at hSw); go_simp; try (with_reducible rfl)
   try simp only [Act.put, lA, lB, lC]
   refine wpAnyH_ready (rs := [3]) (by kernel_rfl) (by simp) ?_
   refine (AllReadyH.cons (o := _) (by simp only [hA, hB, hC]; rfl) (fun K hK => ?_) AllReadyH.nil)
   go_simp
   refine (HC1.out (W.drew)).mono ?_
   rintro e wx ⟨rfl, rfl⟩
   have p_B0_0 := (cell_of_row (W.drew) _ 0 _ _ _ B0.out).trans (show _ = some (Value.slice a ss.length cap) from rfl)
   have p_B0_1 := (cell_of_row (W.drew) _ 1 _ _ _ B0.out).trans (show _ = some (Value.int .i64 now) from rfl)
   refine hK.out _ _ ⟨p_B0_0, p_B0_1⟩ (fun hHeld => ?_)
   clear p_B0_0 p_B0_1
   clear hK K
   try simp only [Act.put, lA, lB, lC]
   refine tR (i := 4) (v := ?_) ?_ ?_; rotate_left
   ·
    intro w hSw; (try dsimp only at hSw); go_simp; try (with_reducible rfl)
   try simp only [Act.put, lA, lB, lC]
   refine tR (i := 5) (v := ?_) ?_ ?_; rotate_left
   ·
    intro w hSw; (try dsimp only at hSw); go_simp; try (with_reducible rfl)
   try simp only [Act.put, lA, lB, lC]
   refine tR (i := 6) (v := ?_) ?_ ?_; rotate_left
   ·
    intro w hSw; (try dsimp only at hSw); go_simp; try (with_reducible rfl)
   try simp only [Act.put, lA, lB, lC]
   refine wpAnyH_ready (rs := [7]) (by kernel_rfl) (by simp) ?_
   refine (AllReadyH.cons (o := _) (by simp only [hA, hB, hC]; rfl) (fun K hK => ?_) AllReadyH.nil)
   go_simp
   refine (HC2.out (W.drew)).mono ?_
   rintro e wx ⟨rfl, rfl⟩
   have p_B0_0 := (cell_of_row (W.drew) _ 0 _ _ _ B0.out).trans (show _ = some (Value.slice a ss.length cap) from rfl)
   have p_B0_1 := (cell_of_row (W.drew) _ 1 _ _ _ B0.out).trans (show _ = some (Value.int .i64 now) from rfl)
   refine hK.out _ _ ⟨p_B0_0, p_B0_1⟩ (fun hHeld => ?_)
   clear p_B0_0 p_B0_1
   clear hK K
   try simp only [Act.put, lA, lB, lC]
   refine tR (i := 8) (v := ?_) ?_ ?_; rotate_left
   ·
    intro w hSw; (try dsimp only at hSw); go_simp; try (with_reducible rfl)
   try simp only [Act.put, lA, lB, lC]
   refine tR (i := 9) (v := ?_) ?_ ?_; rotate_left
   ·
    intro w hSw; (try dsimp only at hSw); go_simp; try (with_reducible rfl)
   try simp only [Act.put, lA, lB, lC]
   refine tR (i := 10) (v := ?_) ?_ ?_; rotate_left
   ·
    intro w hSw; (try dsimp only at hSw); go_simp; try (with_reducible rfl)
   try simp only [Act.put, lA, lB, lC]
   refine tR (i := 11) (v := ?_) ?_ ?_; rotate_left
   ·
    intro w hSw; (try dsimp only at hSw); go_simp; try (with_reducible rfl)
   try simp only [Act.put, lA, lB, lC]
   refine tR (i := 13) (v := ?_) ?_ ?_; rotate_left
   ·
    intro w hSw; (try dsimp only at hSw); go_simp; try (with_reducible rfl)
   try simp only [Act.put, lA, lB, lC]
   refine tR (i := 14) (v := ?_) ?_ ?_; rotate_left
   ·
    intro w hSw; (try dsimp only at hSw); go_simp; try (with_reducible rfl)
   try simp only [Act.put, lA, lB, lC]
   refine wpAnyH_ready (rs := [12]) (by kernel_rfl) (by simp) ?_
   refine (AllReadyH.cons (o := _) (by simp only [hA, hB, hC]; rfl) (fun K hK => ?_) AllReadyH.nil)
   go_simp
   refine (HTB.out (W.drew) (lsR_below HLS.out d.out)).mono ?_
   rintro e w5 ⟨g, bs, rfl, ht, c5⟩
   have HT5 := Lib.hid ht
   replace B0 := Lib.hid ((c5.block w.heap.size (Array.getElem?_eq_some_iff.1 B0.out).1).trans B0.out)
   replace d := Lib.hid (d.out.trans (c5.mono d.out.size))
   have Z_w5 := Lib.hid (show W.heap.size ≤ w5.heap.size from c5.size)
   clear c5 ht
   have p_B0_0 := (cell_of_row w5 _ 0 _ _ _ B0.out).trans (show _ = some (Value.slice a ss.length cap) from rfl)
   have p_B0_1 := (cell_of_row w5 _ 1 _ _ _ B0.out).trans (show _ = some (Value.int .i64 now) from rfl)
   refine hK.out _ _ ⟨p_B0_0, p_B0_1⟩ (fun hHeld => ?_)
   clear p_B0_0 p_B0_1
   clear hK K
   try simp only [Act.put, lA, lB, lC]
   refine wpAnyH_ready (rs := [15]) (by kernel_rfl) (by simp) ?_
   refine (AllReadyH.cons (o := _) (by simp only [hA, hB, hC]; rfl) (fun K hK => ?_) AllReadyH.nil)
   go_simp
   refine (HPS.out _ g bs w5 HT5.out (segsR_below HSR.out d.out)).mono ?_
   rintro e w6 ⟨rfl, c6⟩
   replace B0 := Lib.hid ((c6.block w.heap.size (Array.getElem?_eq_some_iff.1 B0.out).1).trans B0.out)
   replace d := Lib.hid (d.out.trans (c6.mono d.out.size))
   have Z_w6 := Lib.hid (show w5.heap.size ≤ w6.heap.size from c6.size)
   clear c6
   have p_B0_0 := (cell_of_row w6 _ 0 _ _ _ B0.out).trans (show _ = some (Value.slice a ss.length cap) from rfl)
   have p_B0_1 := (cell_of_row w6 _ 1 _ _ _ B0.out).trans (show _ = some (Value.int .i64 now) from rfl)
   refine hK.out _ _ ⟨p_B0_0, p_B0_1⟩ (fun hHeld => ?_)
   clear p_B0_0 p_B0_1
   clear hK K
   try simp only [Act.put, lA, lB, lC]
   refine tR (i := 16) (v := ?_) ?_ ?_; rotate_left
   ·
    intro w hSw; (try dsimp only at hSw); go_simp; try (with_reducible rfl)
   try simp only [Act.put, lA, lB, lC]
   refine tR (i := 17) (v := ?_) ?_ ?_; rotate_left
   ·
    intro w hSw; (try dsimp only at hSw); go_simp; try (with_reducible rfl)
   try simp only [Act.put, lA, lB, lC]
   refine wpAnyH_done (by kernel_rfl) ?_ _
   clear hHeld
   go_wp2
   go_ret
   exact ⟨rfl, d.out⟩
set_option maxHeartbeats 8000000 in
set_option maxRecDepth 100000 in
theorem checkStore_no (sv : Value) (ss : List (List VerD)) (now : Int) (w : World) (h : SlR tVersionS w sv ss) (hs : zL tVersionS ss ≤ 1048576) (hst : storeB ss now = false) :
  Calls Try.prog 58 #[.agg #[sv, .int .i64 now]] w (fun e w' => e = .returned (.tuple #[.slice none 0 0, .bool false]) ∧ Below w.heap.size w w') := by
 obtain ⟨us, hls, hsr⟩ := slR_ls h
 have HUL := Lib.hid hsr.1
 obtain ⟨a, cap, rfl⟩ := slR_len h
 have hlen := zL_len hs
 have HSS := Lib.hid hs
 have H := Lib.hid h
 have HLS := Lib.hid hls
 have HSR := Lib.hid hsr
 have d0 := Lib.hid (show Below w.heap.size w (w.alloc (.cells #[.slice a ss.length cap, .int .i64 now] 41)) from (Below.refl _ _).alloc (Nat.le_refl _) _)
 have B0 : Hid ((w.alloc (.cells #[.slice a ss.length cap, .int .i64 now] 41)).heap[w.heap.size]? = some (.cells #[.slice a ss.length cap, .int .i64 now] 41 (0, 0))) := Lib.hid (heap_alloc_new w _)
 have Y0 : Hid (w.heap.size < (w.alloc (.cells #[.slice a ss.length cap, .int .i64 now] 41)).heap.size) := Lib.hid (by simp [World.size_alloc])
 have HI := Lib.hid (fun W g => implIsStore (.slice a ss.length cap) ss now W g HSS.out)
 rw [hst] at HI
 clear hls hsr h hs hst
 go_enter Try.func58, Try.ntmps58
 go_wp2_with fail
 generalize w.alloc (.cells #[.slice a ss.length cap, .int .i64 now] 41) = W at *
 refine (HI.out W (slR_below tVersionS_law H.out d0.out)).mono ?_
 rintro e w1 ⟨rfl, b1⟩
 have D1 := Lib.hid (d0.out.trans (b1.mono d0.out.size))
 have k0 := (b1.block w.heap.size Y0.out).trans B0.out
 have p0 := (cell_of_row w1 _ 0 _ _ _ k0).trans (show _ = some (Value.slice a ss.length cap) from rfl)
 clear b1 k0
 go_wp2
 go_ret2
 exact ⟨rfl, D1.out⟩
/-- A slice in new memory without room beyond its length. -/
def FreshE {α : Type} (t : TypeId) (T : Ty α) (w : World) (xs : List α) (e : Ending) (w' : World) : Prop := ∃ g : Nat, e = .returned (.slice (some ⟨g, 0, none⟩) xs.length xs.length) ∧ SlO t T w' (since w) (.slice (some ⟨g, 0, none⟩) xs.length xs.length) xs ∧ Below w.heap.size w w'
/-- A segment as a slice without room beyond its length. -/
def tX : Ty (List VerD) := { tVersionS with
 R := fun w cs xs => ∃ a, cs = [.slice a xs.length xs.length] ∧ SlR tVersion w (.slice a xs.length xs.length) xs
 O := fun w F cs xs => ∃ a, cs = [.slice a xs.length xs.length] ∧ SlO 88 tVersion w F (.slice a xs.length xs.length) xs }
theorem tX_law : tX.Law where
 pos := Nat.one_pos
 len := fun {w cs x} h => by obtain ⟨v, rfl, _⟩ := h; rfl
 below := fun {W w cs x} h hb => by obtain ⟨v, e, h⟩ := h; exact ⟨v, e, slR_below tVersion_law h hb⟩
 reads := fun {w F cs x} h => by obtain ⟨v, e, h⟩ := h; exact ⟨v, e, slO_reads tVersion_law h⟩
 turn := fun {w w' F G cs x} h k hd => by obtain ⟨v, e, h⟩ := h; exact ⟨v, e, slO_turn tVersion_law h k hd⟩
 mono := fun {w F F' cs x} h hf => by obtain ⟨v, e, h⟩ := h; exact ⟨v, e, slO_mono h hf⟩
 lt := fun {w F cs x} h => by obtain ⟨v, e, h⟩ := h; exact ⟨v, e, slO_lt tVersion_law h⟩
 nd_le := fun x => tVersionS_law.nd_le x
 nv_le := fun x => tVersionS_law.nv_le x
theorem tX_zero (w : World) : tX.O w (fun _ => False) #[.slice none 0 0].toList tX.d := ⟨none, rfl, slO_nil _ _ _ _⟩
theorem tX_O {w : World} {F : Nat → Prop} {cs : List Value} {xs : List VerD} (h : tX.O w F cs xs) : tVersionS.O w F cs xs := by obtain ⟨a, e, h⟩ := h; exact ⟨_, e, h⟩
theorem slO_X {e : TypeId} {w : World} {F : Nat → Prop} {v : Value} {ss : List (List VerD)} (h : SlO e tX w F v ss) : SlO e tVersionS w F v ss := by
 obtain ⟨L, us, Fs, h1, h2, h3, h4⟩ := h
 exact ⟨L, us, Fs, h1, h2, fun j hj => ⟨(h3 j hj).1, tX_O (h3 j hj).2.1, (h3 j hj).2.2⟩, h4⟩
set_option maxHeartbeats 8000000 in
set_option maxRecDepth 100000 in
theorem copyEachVersionX (v : Value) (xs : List (Int × List Int × Int × Int)) (w : World) (h : SlR tVersion w v xs) (hs : zL tVersion xs ≤ 1048576) :
  Calls Try.prog 100 #[v, .func (.func 101) #[] #[]] w (FreshE 88 tVersion w xs) := by
 obtain ⟨i0, hi, hz0, hz1⟩ : ∃ i0, Try.prog.info? 88 = some i0 ∧ i0.zero = some (.agg #[.int .i64 0, .slice none 0 0, .int .i64 0, .int .i64 0]) ∧ i0.size = 4 := by
  have h0 := Try.info_Version
  cases q : Try.prog.info? 88 with
  | none => rw [q] at h0; simp at h0
  | some i => rw [q] at h0; simp only [Option.map_some, Option.some.injEq, Prod.mk.injEq] at h0; exact ⟨i, rfl, h0.1, h0.2⟩
 have hz2 : i0.bytes ≤ 512 := by
  have h0 := Try.bytes_Version
  rw [hi] at h0
  simpa using h0
 have HI := Lib.hid hi; have HZ0 := Lib.hid hz0; have HZ1 := Lib.hid hz1; have HZ2 := Lib.hid hz2
 clear hi hz0 hz1 hz2
 have H := Lib.hid h
 have hlen := zL_len hs
 have HS := Lib.hid hs
 obtain ⟨a, cap, rfl⟩ := slR_len h
 clear h hs
 go_enter Try.func100, Try.ntmps100
 go_wp2_with (at_make; refine wpList_make_full _ rfl (.tmp 9) (.tmp 9) 89 rfl w.heap.size 88 i0 (.agg #[.int .i64 0, .slice none 0 0, .int .i64 0, .int .i64 0]) 4 Try.underlying89 HI.out HZ0.out HZ1.out _ _ _ _ xs.length rfl rfl rfl rfl (by have h9 := Nat.mul_le_mul HZ2.out hlen; have h8 := Nat.mul_le_mul hlen HZ2.out; omega) (by unfold maxLen; omega) (Nat.le_refl _) ?_)
 intro w1 hown0 hg0
 have hown1 : SlO 88 tVersion w1 (since w) (.slice (some ⟨w.heap.size, 0, none⟩) xs.length xs.length) (List.replicate xs.length tVersion.d) := slO_made (z := #[.int .i64 0, .slice none 0 0, .int .i64 0, .int .i64 0]) tVersion_law rfl (tVersion_zero w1) (Nat.le_refl _) hown0
 have hbel1 := (Below.refl w.heap.size w).grown hg0 (Nat.le_refl _) (fun k hk => by cases hk)
 clear hown0 hg0
 go_wp2
 go_loopw [13] (fun i wr => ∃ k : Nat, k ≤ xs.length ∧ i = .int .i64 k ∧ SlO 88 tVersion wr (since w) (.slice (some ⟨w.heap.size, 0, none⟩) xs.length xs.length) (xs.take k ++ List.replicate (xs.length - k) tVersion.d) ∧ Below w.heap.size w wr) (fun i _ => xs.length - (intOf i).toNat)
 case atStart => exact ⟨0, Nat.zero_le _, rfl, by simpa using hown1, hbel1⟩
 case round =>
  obtain ⟨k, hk, rfl, hown, hbel⟩ := hrel
  by_cases hlt : k < xs.length
  ·
   have HSET := Lib.hid (cTo_step (d := tVersion.d) hlt)
   have HKL : Hid (k < (xs.take k ++ List.replicate (xs.length - k) tVersion.d).length) := Lib.hid (by rw [cTo_len hk]; exact hlt)
   have HLL := Lib.hid (cTo_len (d := tVersion.d) hk)
   have i1 : (0 : Int) ≤ (k : Int) := by omega
   have i2 : (k : Int) < (xs.length : Int) := by omega
   have hzx := zL_at HS.out hlt
   obtain ⟨b, off, cap', cs, hv, hbl, hcs, hR⟩ := slR_at (slR_below tVersion_law H.out hbel) hlt
   simp only [Value.slice.injEq] at hv
   obtain ⟨rfl, _, rfl⟩ := hv
   obtain ⟨hme, hFg, hgl, cj, Fj, Lc, hrow, hLc, hO, hFj, hput⟩ := slO_open tVersion_law hown HKL.out
   clear hme
   clear hown1 hbel1
   generalize xs.getD k tVersion.d = x at *
   generalize xs.take k ++ List.replicate (xs.length - k) tVersion.d = ys at *
   obtain ⟨a0, x1, a2, a3⟩ := x
   obtain ⟨v1, hR'⟩ := tVersion_R hR
   obtain ⟨rfl, h1⟩ := hR'
   have p0 : wr.cell? ⟨b, off + k * 4, none⟩ = some (Value.int .i64 a0) := hcs 0 (by decide)
   have p1 : wr.cell? ⟨b, off + k * 4 + 1, none⟩ = some (v1) := hcs 1 (by decide)
   have p2 : wr.cell? ⟨b, off + k * 4 + 2, none⟩ = some (Value.int .i64 a2) := hcs 2 (by decide)
   have p3 : wr.cell? ⟨b, off + k * 4 + 3, none⟩ = some (Value.int .i64 a3) := hcs 3 (by decide)
   rw [tVersion_sz] at hzx
   have S1 := Lib.hid (show zL tInt x1 ≤ 1048576 by omega)
   obtain ⟨sa1, sc1, rfl⟩ := slR_len h1
   have HC := Lib.hid (fun w g1 => copyVersion_P a0 a2 a3 (.slice sa1 x1.length sc1) x1 w g1 S1.out)
   have G1 := Lib.hid h1
   clear hcs hzx h1
   have hal : Below wr.heap.size wr (wr.alloc (.cells #[.int .i64 a0, .slice sa1 x1.length sc1, .int .i64 a2, .int .i64 a3] 88)) := (Below.refl _ _).alloc (Nat.le_refl _) _
   go_wp2_with fail
   generalize wr.alloc (.cells #[.int .i64 a0, .slice sa1 x1.length sc1, .int .i64 a2, .int .i64 a3] 88) = W2 at *
   refine (HC.out _ (slR_below tInt_law G1.out hal)).mono ?_
   rintro e w2 ⟨cv, rfl, ow0, b20⟩
   have ow : tVersion.O w2 (since wr) cv _ := tVersion_law.mono ow0 (fun b hb => Nat.le_trans hal.size hb)
   have b2 := hal.trans (b20.mono hal.size)
   clear ow0 b20 hal
   replace ow := tVersion_law.lt ow
   have ow2 := ow
   obtain ⟨u1, K1, rfl, o1, _⟩ := tVersion_O ow2
   obtain ⟨ua1, uc1, rfl⟩ := slO_len o1
   clear o1
   have r0 := row_turn (G := fun _ => False) hrow (turn_below b2) (fun _ _ => not_false)
   rw [HLL.out] at r0
   have q0 : ∃ x, w2.cell? ⟨w.heap.size, k * 4, none⟩ = some x := ⟨_, (World.ownsRow.cellAt r0 (k * 4) (by have := HKL.out; rw [HLL.out] at this; show _ < xs.length * 4; omega)).trans (List.getElem?_eq_getElem (by have h1 : Lc.length = xs.length * 4 := r0.1; omega))⟩
   obtain ⟨y0, q0⟩ := q0
   have f0 := World.ownsRow.frozenAt r0 (k * 4)
   have q1 : ∃ x, w2.cell? ⟨w.heap.size, k * 4 + 1, none⟩ = some x := ⟨_, (World.ownsRow.cellAt r0 (k * 4 + 1) (by have := HKL.out; rw [HLL.out] at this; show _ < xs.length * 4; omega)).trans (List.getElem?_eq_getElem (by have h1 : Lc.length = xs.length * 4 := r0.1; omega))⟩
   obtain ⟨y1, q1⟩ := q1
   have f1 := World.ownsRow.frozenAt r0 (k * 4 + 1)
   have q2 : ∃ x, w2.cell? ⟨w.heap.size, k * 4 + 2, none⟩ = some x := ⟨_, (World.ownsRow.cellAt r0 (k * 4 + 2) (by have := HKL.out; rw [HLL.out] at this; show _ < xs.length * 4; omega)).trans (List.getElem?_eq_getElem (by have h1 : Lc.length = xs.length * 4 := r0.1; omega))⟩
   obtain ⟨y2, q2⟩ := q2
   have f2 := World.ownsRow.frozenAt r0 (k * 4 + 2)
   have q3 : ∃ x, w2.cell? ⟨w.heap.size, k * 4 + 3, none⟩ = some x := ⟨_, (World.ownsRow.cellAt r0 (k * 4 + 3) (by have := HKL.out; rw [HLL.out] at this; show _ < xs.length * 4; omega)).trans (List.getElem?_eq_getElem (by have h1 : Lc.length = xs.length * 4 := r0.1; omega))⟩
   obtain ⟨y3, q3⟩ := q3
   have f3 := World.ownsRow.frozenAt r0 (k * 4 + 3)
   have b3 := hbel.trans (b2.mono hbel.size)
   have B3 := Lib.hid ((((b3.setCell (p := ⟨w.heap.size, k * 4, none⟩) (Nat.le_refl _) (.int .i64 a0)).setCell (p := ⟨w.heap.size, k * 4 + 1, none⟩) (Nat.le_refl _) (.slice ua1 x1.length uc1)).setCell (p := ⟨w.heap.size, k * 4 + 2, none⟩) (Nat.le_refl _) (.int .i64 a2)).setCell (p := ⟨w.heap.size, k * 4 + 3, none⟩) (Nat.le_refl _) (.int .i64 a3))
   have hT : Turn (fun b => b = w.heap.size ∨ Fj b ∨ wr.heap.size ≤ b) wr ((((w2.setCell ⟨w.heap.size, k * 4, none⟩ (.int .i64 a0)).setCell ⟨w.heap.size, k * 4 + 1, none⟩ (.slice ua1 x1.length uc1)).setCell ⟨w.heap.size, k * 4 + 2, none⟩ (.int .i64 a2)).setCell ⟨w.heap.size, k * 4 + 3, none⟩ (.int .i64 a3)) := (((((turn_below b2).trans (turn_set (j := k * 4) (u := .int .i64 a0) (Or.inl rfl))).trans (turn_set (j := k * 4 + 1) (u := .slice ua1 x1.length uc1) (Or.inl rfl))).trans (turn_set (j := k * 4 + 2) (u := .int .i64 a2) (Or.inl rfl))).trans (turn_set (j := k * 4 + 3) (u := .int .i64 a3) (Or.inl rfl)))
   have hT2 : Turn (fun b => b = w.heap.size) w2 ((((w2.setCell ⟨w.heap.size, k * 4, none⟩ (.int .i64 a0)).setCell ⟨w.heap.size, k * 4 + 1, none⟩ (.slice ua1 x1.length uc1)).setCell ⟨w.heap.size, k * 4 + 2, none⟩ (.int .i64 a2)).setCell ⟨w.heap.size, k * 4 + 3, none⟩ (.int .i64 a3)) := (((((Turn.refl (fun b => b = w.heap.size) _).trans (turn_set (G := fun b => b = w.heap.size) (j := k * 4) (u := .int .i64 a0) rfl)).trans (turn_set (G := fun b => b = w.heap.size) (j := k * 4 + 1) (u := .slice ua1 x1.length uc1) rfl)).trans (turn_set (G := fun b => b = w.heap.size) (j := k * 4 + 2) (u := .int .i64 a2) rfl)).trans (turn_set (G := fun b => b = w.heap.size) (j := k * 4 + 3) (u := .int .i64 a3) rfl))
   have hO2 := tVersion_law.turn ow hT2 (fun b h1 h2 => by have := h1.1; simp only [since] at this; omega)
   have r9 := (World.ownsRow.stored (World.ownsRow.stored (World.ownsRow.stored (World.ownsRow.stored r0 (k * 4) (.int .i64 a0)).1 (k * 4 + 1) (.slice ua1 x1.length uc1)).1 (k * 4 + 2) (.int .i64 a2)).1 (k * 4 + 3) (.int .i64 a3)).1
   have hLl : Lc.length = xs.length * 4 := r0.1
   have hst := Lib.hid (hput ((((w2.setCell ⟨w.heap.size, k * 4, none⟩ (.int .i64 a0)).setCell ⟨w.heap.size, k * 4 + 1, none⟩ (.slice ua1 x1.length uc1)).setCell ⟨w.heap.size, k * 4 + 2, none⟩ (.int .i64 a2)).setCell ⟨w.heap.size, k * 4 + 3, none⟩ (.int .i64 a3)) ((((Lc.set (k * 4) (.int .i64 a0)).set (k * 4 + 1) (.slice ua1 x1.length uc1)).set (k * 4 + 2) (.int .i64 a2)).set (k * 4 + 3) (.int .i64 a3)) [.int .i64 a0, .slice ua1 x1.length uc1, .int .i64 a2, .int .i64 a3] _ (a0, x1, a2, a3) (by rw [HLL.out]; exact r9) (fun p hp => by have hp2 : p < k * 4 ∨ k * 4 + 4 ≤ p := hp; rw [List.getElem?_set_ne (by omega)]; rw [List.getElem?_set_ne (by omega)]; rw [List.getElem?_set_ne (by omega)]; rw [List.getElem?_set_ne (by omega)]) (fun i hi => by have hi' : i < 4 := hi; match i, hi' with | 0, _ => (show (((((Lc.set (k * 4) (.int .i64 a0)).set (k * 4 + 1) (.slice ua1 x1.length uc1)).set (k * 4 + 2) (.int .i64 a2)).set (k * 4 + 3) (.int .i64 a3)))[k * 4]? = _; rw [List.getElem?_set_ne (by omega)]; rw [List.getElem?_set_ne (by omega)]; rw [List.getElem?_set_ne (by omega)]; rw [List.getElem?_set_self (by first | omega | (simp only [List.length_set]; omega))]; rfl) | 1, _ => (show (((((Lc.set (k * 4) (.int .i64 a0)).set (k * 4 + 1) (.slice ua1 x1.length uc1)).set (k * 4 + 2) (.int .i64 a2)).set (k * 4 + 3) (.int .i64 a3)))[k * 4 + 1]? = _; rw [List.getElem?_set_ne (by omega)]; rw [List.getElem?_set_ne (by omega)]; rw [List.getElem?_set_self (by first | omega | (simp only [List.length_set]; omega))]; rfl) | 2, _ => (show (((((Lc.set (k * 4) (.int .i64 a0)).set (k * 4 + 1) (.slice ua1 x1.length uc1)).set (k * 4 + 2) (.int .i64 a2)).set (k * 4 + 3) (.int .i64 a3)))[k * 4 + 2]? = _; rw [List.getElem?_set_ne (by omega)]; rw [List.getElem?_set_self (by first | omega | (simp only [List.length_set]; omega))]; rfl) | 3, _ => (show (((((Lc.set (k * 4) (.int .i64 a0)).set (k * 4 + 1) (.slice ua1 x1.length uc1)).set (k * 4 + 2) (.int .i64 a2)).set (k * 4 + 3) (.int .i64 a3)))[k * 4 + 3]? = _; rw [List.getElem?_set_self (by first | omega | (simp only [List.length_set]; omega))]; rfl)) hO2 (fun b hb => ⟨Nat.le_trans hbel.size hb.1, Or.inr hb.1⟩) hT)
   have hst2 : SlO 88 tVersion ((((w2.setCell ⟨w.heap.size, k * 4, none⟩ (.int .i64 a0)).setCell ⟨w.heap.size, k * 4 + 1, none⟩ (.slice ua1 x1.length uc1)).setCell ⟨w.heap.size, k * 4 + 2, none⟩ (.int .i64 a2)).setCell ⟨w.heap.size, k * 4 + 3, none⟩ (.int .i64 a3)) (since w) (.slice (some ⟨w.heap.size, 0, none⟩) xs.length xs.length) (xs.take (k + 1) ++ List.replicate (xs.length - (k + 1)) tVersion.d) := by have := hst.out; rw [HSET.out] at this; exact this
   have HST := Lib.hid hst2
   clear hst hst2 hT hT2 hO2 r9 r0 hrow hO hput hown hbel b2 ow b3 hLl hLc hFj
   go_wp2
   go_roundw
   case rel => exact ⟨k + 1, by omega, by go_num, HST.out, B3.out⟩
   case measure => simp [intOf]; omega
  ·
   obtain rfl : k = xs.length := by omega
   have HE : Hid (xs.take xs.length ++ List.replicate (xs.length - xs.length) tVersion.d = xs) := Lib.hid (by simp)
   rw [HE.out] at hown
   go_wp2
   go_ret
   exact ⟨_, rfl, hown, hbel⟩
set_option maxHeartbeats 2000000 in
set_option maxRecDepth 100000 in
theorem copyVersions_X (v : Value) (xs : List (Int × List Int × Int × Int)) (w : World) (h : SlR tVersion w v xs) (hs : zL tVersion xs ≤ 1048576) :
  Calls Try.prog 85 #[v] w (FreshE 88 tVersion w xs) := by
 have H := Lib.hid (fun w h => copyEachVersionX v xs w h hs)
 have HV := Lib.hid h
 clear h hs
 go_enter Try.func85, Try.ntmps85
 go_wp2_with fail
 refine (H.out _ HV.out).mono ?_
 rintro e w1 ⟨u, rfl, o1, b1⟩
 go_wp2
 go_ret
 exact ⟨_, rfl, o1, b1⟩
end Go.Proofs.Ythiiaiholcfhhaa
