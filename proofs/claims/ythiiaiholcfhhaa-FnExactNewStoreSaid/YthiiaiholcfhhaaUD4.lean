/-
  Texts of the proof, merged: VerP11, LawNewStore, OpenInts, OpnT, ORow, ORowS.
-/
import Derived.Test.YthiiaiholcfhhaaUD3
import Derived.ProofKit
import Derived.OpenShut
import Derived.Carry
import Derived.Lib.SmallJoins
import Derived.Deep.Slices
namespace Go.Proofs.Ythiiaiholcfhhaa
open Go.RowKit
set_option linter.unusedVariables false
set_option linter.unusedSimpArgs false
theorem lsR_nil {w : World} {B gb n : Nat} (h : w.ownsRow B 89 1 (.slice (some ⟨gb, 0, none⟩) n n) n (List.replicate n (Value.slice none 0 0))) : LsR w (.slice (some ⟨gb, 0, none⟩) n n) (List.replicate n s0V) := by
  refine ⟨Or.inr ⟨gb, 0, n, fun _ => [.slice none 0 0], by simp, by simp, (h.lt gb rfl).2, fun j hj => ?_⟩, fun j hj => ?_⟩
  · have hj' : j < n := by simpa using hj
    refine ⟨fun i hi => ?_, ?_⟩
    · have hi0 : i = 0 := by have : i < 1 := hi; omega
      subst hi0
      rw [show (tRaw 1).n = 1 from rfl, Nat.mul_one, Nat.add_zero, Nat.zero_add]
      exact (World.ownsRow.cellAt h j (by omega)).trans (by simp [hj'])
    · have e : ((List.replicate n s0V).map (fun u => [segV u])).getD j (tRaw 1).d = [.slice none 0 0] := by
        rw [List.map_replicate]; simp [List.getD, hj', segV, s0V]
      rw [e]
      exact ⟨rfl, rfl, fun u hu => by simp at hu; subst hu; rfl⟩
  · have hj' : j < n := by simpa using hj
    simp [List.getD, hj', s0V]
theorem tab_made {w : World} {B C g n : Nat} {bs : List Nat} {rs : List RowD} (ho : w.ownsRow B 102 1 (.slice (some ⟨g, 0, none⟩) n n) n (bs.map ptrV)) (ht : TabN B w g bs (List.replicate n s0V)) (hC : C < B) :
    SlO 102 tSegP w (fun b => C < b) (.slice (some ⟨g, 0, none⟩) n n) (dealTo rs n n 0) := by
  obtain ⟨h1, h2, h3, h4, h5⟩ := ht
  rw [List.length_replicate] at h3 h4 h5
  refine ⟨bs.map ptrV, fun j => [ptrV (bs.getD j 0)], fun j b => b = bs.getD j 0, by rw [deal_len]; exact row_low ho (Nat.zero_le _), fun b hb => ?_, fun j hj => ?_, fun i j hi hj hij b hb hc => ?_⟩
  · simp [Value.ownBlock] at hb; omega
  · rw [deal_len] at hj
    obtain ⟨_, g2, g3⟩ := h4 j hj
    refine ⟨fun i hi => ?_, ⟨bs.getD j 0, .slice none 0 0, fun _ => False, rfl, rfl, ?_, ?_, fun k q => q.elim, fun q => q⟩, fun b hb => ⟨by omega, fun q => ?_⟩⟩
    · have hi0 : i = 0 := by have : i < 1 := hi; omega
      subst hi0
      rw [show tSegP.n = 1 from rfl, Nat.mul_one, Nat.add_zero, List.getElem?_map]
      simp [List.getD, show j < bs.length by omega]
    · have e : (List.replicate n s0V).getD j s0V = s0V := by simp [List.getD, hj]
      rw [e] at g2
      exact g2
    · have e : (dealTo rs n n 0).getD j tSegP.d = [] := by rw [show tSegP.d = [] from rfl, deal_at hj, part_zero]
      rw [e]
      exact slO_nil _ _ _ _
    · simp [Value.ownBlock] at q
      omega
  · rw [deal_len] at hi hj
    exact h5 i j hi hj hij (by rw [← hb, ← hc])
set_option maxHeartbeats 8000000 in
set_option maxRecDepth 100000 in
theorem implNewStore (v : Value) (rs : List RowD) (g : Int) (w : World) (h : SlR tRow w v rs) (hs : zL tRow rs ≤ 1048576) :
    Calls Try.prog 36 #[v, .int .i64 g] w (FreshNew w (newB rs g)) := by
  have HSQ : Hid (szL rs ≤ 1048576) := Lib.hid (by rw [← zL_rows]; exact hs)
  have hlen := zL_len hs
  have HS := Lib.hid hs
  have H := Lib.hid h
  obtain ⟨a, cap, rfl⟩ := slR_len h
  have HA := Lib.hid (fun W h => implAreRows (.slice a rs.length cap) rs W h HSQ.out)
  have HN := Lib.hid (isSegmentCount_any g)
  have d0 := Lib.hid ((Below.refl w.heap.size w).alloc (Nat.le_refl _) (.cells #[.slice none 0 0, .int .i64 0] 41))
  have B0 : Hid ((w.alloc (.cells #[.slice none 0 0, .int .i64 0] 41)).heap[w.heap.size]? = some (.cells #[.slice none 0 0, .int .i64 0] 41 (0, 0))) := Lib.hid (heap_alloc_new w _)
  have Y0 : Hid (w.heap.size < (w.alloc (.cells #[.slice none 0 0, .int .i64 0] 41)).heap.size) := Lib.hid (by simp [World.size_alloc])
  clear h hs
  by_cases ha : areB rs = true
  rotate_left
  · rw [new_no (fun q => ha q.1)]
    have ha2 : areB rs = false := by simpa using ha
    rw [ha2] at HA
    clear ha ha2
    go_enter Try.func36, Try.ntmps36
    go_wp2_with fail
    generalize w.alloc (.cells #[.slice none 0 0, .int .i64 0] 41) = W at *
    refine (HA.out W (slR_rows (slR_below tRow_law H.out d0.out))).mono ?_
    rintro e w1 ⟨rfl, b1⟩
    have k0 := (b1.block w.heap.size Y0.out).trans B0.out
    have d1 := d0.out.trans (b1.mono d0.out.size)
    have c0 := cell_of_row w1 _ 0 _ _ _ k0
    have c1 := cell_of_row w1 _ 1 _ _ _ k0
    simp at c0 c1
    have f0 := frozen_of_row w1 _ 0 _ _ k0
    have f1 := frozen_of_row w1 _ 1 _ _ k0
    have tt : Turn (fun b => b = w.heap.size) w1 ((w1.setCell ⟨w.heap.size, 0, none⟩ (.slice none 0 0)).setCell ⟨w.heap.size, 1, none⟩ (.int .i64 0)) := ((Turn.refl (fun b => b = w.heap.size) _).trans (turn_set (G := fun b => b = w.heap.size) (g := w.heap.size) (j := 0) (u := .slice none 0 0) rfl)).trans (turn_set (G := fun b => b = w.heap.size) (g := w.heap.size) (j := 1) (u := .int .i64 0) rfl)
    have r := heap_setCell_same _ w.heap.size 1 _ _ (.int .i64 0) (heap_setCell_same w1 w.heap.size 0 _ _ (.slice none 0 0) k0)
    have e0 := cell_of_row _ _ 0 _ _ _ r
    have e1 := cell_of_row _ _ 1 _ _ _ r
    simp at e0 e1
    have D := Lib.hid (below_turn d1 tt (fun b h => by omega) d1.size)
    clear r k0 tt
    go_wp2
    refine bodyPost_ret (v := .tuple #[.agg #[.slice none 0 0, .int .i64 0], .bool false]) ?_ rfl ?_
    · simp [results, Try.f36, go_sem, e0, e1]
    · exact ⟨[.slice none 0 0, .int .i64 0], fun _ => False, rfl, tStore_mkO (slO_nil _ _ _ (fun _ => False)) (fun b h => False.elim h), fun b h => False.elim h, D.out⟩
  rw [ha] at HA
  by_cases hg : 1 ≤ g ∧ g ≤ 8
  rotate_left
  · rw [new_no (fun q => hg q.2.1)]
    rw [decide_eq_false hg] at HN
    clear ha hg
    go_enter Try.func36, Try.ntmps36
    go_wp2_with fail
    generalize w.alloc (.cells #[.slice none 0 0, .int .i64 0] 41) = W at *
    refine (HA.out W (slR_rows (slR_below tRow_law H.out d0.out))).mono ?_
    rintro e w1 ⟨rfl, b1⟩
    have k0 := (b1.block w.heap.size Y0.out).trans B0.out
    have d1 := d0.out.trans (b1.mono d0.out.size)
    go_wp2_with fail
    refine (HN.out _).mono ?_
    rintro e wx ⟨rfl, rfl⟩
    have c0 := cell_of_row wx _ 0 _ _ _ k0
    have c1 := cell_of_row wx _ 1 _ _ _ k0
    simp at c0 c1
    have f0 := frozen_of_row wx _ 0 _ _ k0
    have f1 := frozen_of_row wx _ 1 _ _ k0
    have tt : Turn (fun b => b = w.heap.size) wx ((wx.setCell ⟨w.heap.size, 0, none⟩ (.slice none 0 0)).setCell ⟨w.heap.size, 1, none⟩ (.int .i64 0)) := ((Turn.refl (fun b => b = w.heap.size) _).trans (turn_set (G := fun b => b = w.heap.size) (g := w.heap.size) (j := 0) (u := .slice none 0 0) rfl)).trans (turn_set (G := fun b => b = w.heap.size) (g := w.heap.size) (j := 1) (u := .int .i64 0) rfl)
    have r := heap_setCell_same _ w.heap.size 1 _ _ (.int .i64 0) (heap_setCell_same wx w.heap.size 0 _ _ (.slice none 0 0) k0)
    have e0 := cell_of_row _ _ 0 _ _ _ r
    have e1 := cell_of_row _ _ 1 _ _ _ r
    simp at e0 e1
    have D := Lib.hid (below_turn d1 tt (fun b h => by omega) d1.size)
    clear r k0 tt
    go_wp2
    refine bodyPost_ret (v := .tuple #[.agg #[.slice none 0 0, .int .i64 0], .bool false]) ?_ rfl ?_
    · simp [results, Try.f36, go_sem, e0, e1]
    · exact ⟨[.slice none 0 0, .int .i64 0], fun _ => False, rfl, tStore_mkO (slO_nil _ _ _ (fun _ => False)) (fun b h => False.elim h), fun b h => False.elim h, D.out⟩
  rw [decide_eq_true hg] at HN
  obtain ⟨n, rfl⟩ := Int.eq_ofNat_of_zero_le (show 0 ≤ g by omega)
  by_cases hl : (rs.length : Int) ≤ 4 * (n : Int)
  rotate_left
  · rw [new_no (fun q => hl q.2.2)]
    obtain ⟨g1, g2⟩ := hg
    have hl2 : 4 * (n : Int) < (rs.length : Int) := by omega
    clear ha hl
    go_enter Try.func36, Try.ntmps36
    go_wp2_with fail
    generalize w.alloc (.cells #[.slice none 0 0, .int .i64 0] 41) = W at *
    refine (HA.out W (slR_rows (slR_below tRow_law H.out d0.out))).mono ?_
    rintro e w1 ⟨rfl, b1⟩
    have k0 := (b1.block w.heap.size Y0.out).trans B0.out
    have d1 := d0.out.trans (b1.mono d0.out.size)
    go_wp2_with fail
    refine (HN.out _).mono ?_
    rintro e wx ⟨rfl, rfl⟩
    have c0 := cell_of_row wx _ 0 _ _ _ k0
    have c1 := cell_of_row wx _ 1 _ _ _ k0
    simp at c0 c1
    have f0 := frozen_of_row wx _ 0 _ _ k0
    have f1 := frozen_of_row wx _ 1 _ _ k0
    have tt : Turn (fun b => b = w.heap.size) wx ((wx.setCell ⟨w.heap.size, 0, none⟩ (.slice none 0 0)).setCell ⟨w.heap.size, 1, none⟩ (.int .i64 0)) := ((Turn.refl (fun b => b = w.heap.size) _).trans (turn_set (G := fun b => b = w.heap.size) (g := w.heap.size) (j := 0) (u := .slice none 0 0) rfl)).trans (turn_set (G := fun b => b = w.heap.size) (g := w.heap.size) (j := 1) (u := .int .i64 0) rfl)
    have r := heap_setCell_same _ w.heap.size 1 _ _ (.int .i64 0) (heap_setCell_same wx w.heap.size 0 _ _ (.slice none 0 0) k0)
    have e0 := cell_of_row _ _ 0 _ _ _ r
    have e1 := cell_of_row _ _ 1 _ _ _ r
    simp at e0 e1
    have D := Lib.hid (below_turn d1 tt (fun b h => by omega) d1.size)
    clear r k0 tt
    go_wp2
    refine bodyPost_ret (v := .tuple #[.agg #[.slice none 0 0, .int .i64 0], .bool false]) ?_ rfl ?_
    · simp [results, Try.f36, go_sem, e0, e1]
    · exact ⟨[.slice none 0 0, .int .i64 0], fun _ => False, rfl, tStore_mkO (slO_nil _ _ _ (fun _ => False)) (fun b h => False.elim h), fun b h => False.elim h, D.out⟩
  rw [new_yes ⟨ha, hg, hl⟩]
  obtain ⟨g1, g2⟩ := hg
  have hl2 : ¬ 4 * (n : Int) < (rs.length : Int) := by omega
  have hn1 : 1 ≤ n := by omega
  have hn8 : n ≤ 8 := by omega
  have hl32 : rs.length ≤ 32 := by omega
  have HN1 := Lib.hid hn1
  have HL32 := Lib.hid hl32
  obtain ⟨i0, hi, hz0, hz1, hz2⟩ := info_T_VersionS
  have HI := Lib.hid hi; have HZ0 := Lib.hid hz0; have HZ1 : Hid (i0.size = 1) := Lib.hid hz1; have HZ2 := Lib.hid hz2
  clear ha hl hlen hi hz0 hz1 hz2
  go_enter Try.func36, Try.ntmps36
  go_wp2_with fail
  generalize w.alloc (.cells #[.slice none 0 0, .int .i64 0] 41) = W at *
  refine (HA.out W (slR_rows (slR_below tRow_law H.out d0.out))).mono ?_
  rintro e w1 ⟨rfl, b1⟩
  have k0 := (b1.block w.heap.size Y0.out).trans B0.out
  have d1 := d0.out.trans (b1.mono d0.out.size)
  go_wp2_with fail
  refine (HN.out _).mono ?_
  rintro e wx ⟨rfl, rfl⟩
  have y1 := Nat.lt_of_lt_of_le Y0.out b1.size
  have K0 := Lib.hid k0
  have D1 := Lib.hid d1
  have Y1 := Lib.hid y1
  clear k0 d1 y1 b1 B0 d0 Y0
  go_wp2_with (at_make; refine wpList_make_full _ rfl (.tmp 25) (.tmp 25) 39 rfl wx.heap.size 89 i0 (.slice none 0 0) 1 Try.underlying39 HI.out HZ0.out HZ1.out _ _ _ _ n rfl rfl rfl rfl (by have := Nat.mul_le_mul HZ2.out hn8; omega) (by unfold maxLen; omega) (Nat.le_refl _) ?_)
  intro w2 hown0 hg0
  have hbel2 := (Below.refl wx.heap.size wx).grown hg0 (Nat.le_refl _) (fun k hk => by cases hk)
  have hz : (madeCells #[Value.slice none 0 0] n).toList = List.replicate n (Value.slice none 0 0) := by
    apply List.ext_getElem?
    intro i
    unfold madeCells
    rw [Array.getElem?_toList, Array.getElem?_map]
    by_cases q : i < n
    · rw [Array.getElem?_range, if_pos q]
      simp [q, Nat.mod_one]
    · rw [Array.getElem?_range, if_neg q]
      simp [q]
  rw [hz] at hown0
  have HTO := tableOf_own (.slice (some ⟨wx.heap.size, 0, none⟩) n n) (List.replicate n s0V) w2 (lsR_nil hown0) (by rw [List.length_replicate]; omega)
  unfold FreshTabO at HTO
  simp only [List.length_replicate] at HTO
  have HT2 := Lib.hid HTO
  have K2 := Lib.hid ((hbel2.block w.heap.size Y1.out).trans K0.out)
  have D2 := Lib.hid (D1.out.trans (hbel2.mono D1.out.size))
  have Y2 := Lib.hid (Nat.lt_of_lt_of_le Y1.out hbel2.size)
  clear HTO hg0 hz hown0 hbel2 hl2 K0 D1
  go_wp2_with fail
  refine HT2.out.mono ?_
  rintro e w3 ⟨g, bs, rfl, ho, ht, b3⟩
  have P3 := Lib.hid (tab_made (rs := rs) ho ht Y2.out)
  have G3 := Lib.hid ht.2.1
  have K3 := Lib.hid ((b3.block w.heap.size Y2.out).trans K2.out)
  have D3 := Lib.hid (D2.out.trans (b3.mono D2.out.size))
  have Y3 := Lib.hid (Nat.lt_of_lt_of_le Y2.out b3.size)
  clear ho ht b3 K2 D2 HT2
  go_wp2
  go_loopw [30] (fun i wr => ∃ k : Nat, k ≤ rs.length ∧ i = .int .i64 k ∧ wr.heap[w.heap.size]? = some (.cells #[.slice none 0 0, .int .i64 0] 41 (0, 0)) ∧ SlO 102 tSegP wr (fun b => w.heap.size < b) (.slice (some ⟨g, 0, none⟩) n n) (dealTo rs n n k) ∧ Below w.heap.size w wr ∧ g < wr.heap.size ∧ w.heap.size < wr.heap.size) (fun i _ => rs.length - (intOf i).toNat)
  case atStart => exact ⟨0, Nat.zero_le _, rfl, K3.out, P3.out, D3.out, G3.out, Y3.out⟩
  case round =>
    obtain ⟨k, hk, rfl, hr0, hown, hbel, hgs, hws⟩ := hrel
    clear K3 P3 D3 G3 Y3
    by_cases hlt : k < rs.length
    · have i1 : (0 : Int) ≤ (k : Int) := by omega
      have i2 : (k : Int) < (rs.length : Int) := by omega
      obtain ⟨b, off, cap', vv, hv, hbl, c0, c1, hx⟩ := rowsR_at (slR_rows H.out) hlt
      simp only [Value.slice.injEq] at hv
      obtain ⟨rfl, _, rfl⟩ := hv
      have HXL := Lib.hid (szL_row HSQ.out hlt)
      obtain ⟨xa, xc, rfl⟩ := ints_len hx
      have hjn : k % n < n := Nat.mod_lt _ HN1.out
      obtain ⟨hme, hFg, hgl, cs, Fj, L, hrow, hLc, hO, hFj, hput⟩ := slO_open tSegP_law hown (j := k % n) (by rw [deal_len]; exact hjn)
      clear hme hFg
      have hde : (dealTo rs n n k).getD (k % n) tSegP.d = partTo rs n (k % n) k := deal_at hjn
      rw [hde] at hO
      have HDS := Lib.hid (deal_step (rs := rs) HN1.out hlt)
      have HPL : Hid ((partTo rs n (k % n) k).length ≤ 1048576) := Lib.hid (by have := part_len rs n (k % n) k; have := HL32.out; omega)
      rw [deal_len] at hrow hput
      obtain ⟨pb, pv, F1, hcs, hFp, hpr, hso, hsub, hnp⟩ := hO
      subst hcs
      have PC : Hid (wr.cell? ⟨g, k % n, none⟩ = some (.pointer (some ⟨pb, 0, none⟩))) := Lib.hid (by
        have h0 := hLc 0 (by decide)
        rw [show tSegP.n = 1 from rfl, Nat.mul_one, Nat.add_zero] at h0
        exact (World.ownsRow.cellAt hrow (k % n) (by show k % n < n * 1; omega)).trans h0)
      have HN0 : Hid (¬ n = 0) := Lib.hid (by omega)
      have HREM : Hid (((k : Int)).tmod (n : Int) = ((k % n : Nat) : Int)) := Lib.hid (by rfl)
      have HROW := Lib.hid hrow
      have HLC := Lib.hid hLc
      have HFJ := Lib.hid hFj
      have HPUT := Lib.hid hput
      have HFP := Lib.hid hFp
      have HPR := Lib.hid hpr
      have HSO := Lib.hid hso
      have HSUB := Lib.hid hsub
      have HNP := Lib.hid hnp
      have HGS := Lib.hid hgs
      have HWS := Lib.hid hws
      have HR0 := Lib.hid hr0
      have HB := Lib.hid hbel
      have HX := Lib.hid (ints_below hx hbel)
      have e0 := (hbel.cell (p := ⟨b, off + k * 2, none⟩) hbl).trans c0
      have e1 := (hbel.cell (p := ⟨b, off + k * 2 + 1, none⟩) hbl).trans c1
      clear hown hgl hrow hLc hFj hput hFp hpr hso hsub hnp hgs hws hr0 hbel hde hx c0 c1 hbl
      generalize hj : k % n = j at *
      clear hj
      generalize partTo rs n j k = ys at *
      generalize rs.getD k (0, []) = x at *
      obtain ⟨id, xs⟩ := x
      simp only at e0 e1 HXL
      change Hid ((dealTo rs n n k).set j (ys ++ [(id, xs, 0, -1)]) = dealTo rs n n (k + 1)) at HDS
      have j1 : (0 : Int) ≤ (j : Int) := by omega
      have j2 : (j : Int) < (n : Int) := by omega
      have hal : Below wr.heap.size wr (wr.alloc (.cells #[.int .i64 id, .slice xa xs.length xc] 29)) := (Below.refl _ _).alloc (Nat.le_refl _) _
      have d := Lib.hid hal
      have BR : Hid ((wr.alloc (.cells #[.int .i64 id, .slice xa xs.length xc] 29)).heap[wr.heap.size]? = some (.cells #[.int .i64 id, .slice xa xs.length xc] 29 (0, 0))) := Lib.hid (heap_alloc_new wr _)
      have Z0 : Hid (wr.heap.size < (wr.alloc (.cells #[.int .i64 id, .slice xa xs.length xc] 29)).heap.size) := Lib.hid (by simp [World.size_alloc])
      clear hal
      go_wp2
      clear e0 e1
      generalize wr.alloc (.cells #[.int .i64 id, .slice xa xs.length xc] 29) = W1 at *
      have p_BR_0 := (cell_of_row W1 _ 0 _ _ _ BR.out).trans (show _ = some (Value.int .i64 id) from rfl)
      have p_BR_1 := (cell_of_row W1 _ 1 _ _ _ BR.out).trans (show _ = some (Value.slice xa xs.length xc) from rfl)
      refine wp_region_held_drew (S := fun w' => w'.cell? ⟨wr.heap.size, 0, none⟩ = some (Value.int .i64 id) ∧ w'.cell? ⟨wr.heap.size, 1, none⟩ = some (Value.slice xa xs.length xc)) (by kernel_rfl) ⟨p_BR_0, p_BR_1⟩ (fun hHeld => ?_)
      clear p_BR_0 p_BR_1
      have cdr : Below W1.heap.size W1 W1.drew := below_drew (Below.refl _ _)
      replace BR := Lib.hid ((cdr.block wr.heap.size (Array.getElem?_eq_some_iff.1 BR.out).1).trans BR.out)
      replace d := Lib.hid (d.out.trans (cdr.mono d.out.size))
      clear cdr
      have Z_dr := Lib.hid (show W1.heap.size ≤ W1.drew.heap.size from Nat.le_refl _)
      generalize W1.drew = Wd at *
      refine take_runs (i := 0) (v := ?_) (by simp only [List.getElem?_toArray, List.getElem?_cons_succ, List.getElem?_cons_zero]; rfl) (by kernel_rfl) (by kernel_rfl) (by kernel_rfl) rfl (by exact fun _ _ _ h => h) (by rfl) ?_ (by assumption) ?_
      rotate_left
      · intro w hSw; (try dsimp only at hSw); go_simp; try (with_reducible rfl)
      try simp only [Act.put, List.setIfInBounds_toArray, List.set_cons_zero, List.set_cons_succ]
      refine take_runs (i := 1) (v := ?_) (by simp only [List.getElem?_toArray, List.getElem?_cons_succ, List.getElem?_cons_zero]; rfl) (by kernel_rfl) (by kernel_rfl) (by kernel_rfl) rfl (by exact fun _ _ _ h => h) (by rfl) ?_ (by assumption) ?_
      rotate_left
      · intro w hSw; (try dsimp only at hSw); go_simp; try (with_reducible rfl)
      try simp only [Act.put, List.setIfInBounds_toArray, List.set_cons_zero, List.set_cons_succ]
      refine take_runs (i := 2) (v := ?_) (by simp only [List.getElem?_toArray, List.getElem?_cons_succ, List.getElem?_cons_zero]; rfl) (by kernel_rfl) (by kernel_rfl) (by kernel_rfl) rfl (by exact fun _ _ _ h => h) (by rfl) ?_ (by assumption) ?_
      rotate_left
      · intro w hSw; (try dsimp only at hSw); go_simp; try (with_reducible rfl)
      try simp only [Act.put, List.setIfInBounds_toArray, List.set_cons_zero, List.set_cons_succ]
      refine take_runs (i := 3) (v := .int .i64 (j : Int)) (by simp only [List.getElem?_toArray, List.getElem?_cons_succ, List.getElem?_cons_zero]; rfl) (by kernel_rfl) (by kernel_rfl) (by kernel_rfl) rfl (by exact fun _ _ _ h => h) (by rfl) ?_ (by assumption) ?_
      · intro w hSw; (try dsimp only at hSw); go_simp; all_goals first | (with_reducible rfl) | (rw [HREM.out]; done) | (simpa using HREM.out) | (simp [HREM.out]; done) | (rw [if_neg HN0.out, HREM.out]; done)
      try simp only [Act.put, List.setIfInBounds_toArray, List.set_cons_zero, List.set_cons_succ]
      refine take_runs (i := 4) (v := ?_) (by simp only [List.getElem?_toArray, List.getElem?_cons_succ, List.getElem?_cons_zero]; rfl) (by kernel_rfl) (by kernel_rfl) (by kernel_rfl) rfl (by exact fun _ _ _ h => h) (by rfl) ?_ (by assumption) ?_
      rotate_left
      · intro w hSw; (try dsimp only at hSw); go_simp; try (with_reducible rfl)
      try simp only [Act.put, List.setIfInBounds_toArray, List.set_cons_zero, List.set_cons_succ]
      refine take_runs (i := 6) (v := ?_) (by simp only [List.getElem?_toArray, List.getElem?_cons_succ, List.getElem?_cons_zero]; rfl) (by kernel_rfl) (by kernel_rfl) (by kernel_rfl) rfl (by exact fun _ _ _ h => h) (by rfl) ?_ (by assumption) ?_
      rotate_left
      · intro w hSw; (try dsimp only at hSw); go_simp; try (with_reducible rfl)
      try simp only [Act.put, List.setIfInBounds_toArray, List.set_cons_zero, List.set_cons_succ]
      refine wpAnyH_ready (rs := [5, 7]) (by kernel_rfl) (by simp) ?_
      refine (AllReadyH.cons (o := _) (by simp only [List.getElem?_toArray, List.getElem?_cons_succ, List.getElem?_cons_zero]; rfl) (fun K hK => ?_) (AllReadyH.cons (o := _) (by simp only [List.getElem?_toArray, List.getElem?_cons_succ, List.getElem?_cons_zero]; rfl) (fun K hK => ?_) AllReadyH.nil))
      · have pc := (d.out.cell (p := ⟨g, j, none⟩) HGS.out).trans PC.out
        go_simp
        clear pc
        have p_BR_0 := (cell_of_row Wd _ 0 _ _ _ BR.out).trans (show _ = some (Value.int .i64 id) from rfl)
        have p_BR_1 := (cell_of_row Wd _ 1 _ _ _ BR.out).trans (show _ = some (Value.slice xa xs.length xc) from rfl)
        refine hK.out _ _ ⟨p_BR_0, p_BR_1⟩ (fun hHeld => ?_)
        clear p_BR_0 p_BR_1
        clear hK K
        try simp only [Act.put, List.setIfInBounds_toArray, List.set_cons_zero, List.set_cons_succ]
        refine wpAnyH_ready (rs := [7]) (by kernel_rfl) (by simp) ?_
        refine (AllReadyH.cons (o := _) (by simp only [List.getElem?_toArray, List.getElem?_cons_succ, List.getElem?_cons_zero]; rfl) (fun K hK => ?_) AllReadyH.nil)
        go_simp
        refine (newVersion_any id 0 (.slice xa xs.length xc) xs Wd (ints_slR (ints_below HX.out d.out)) HXL.out).mono ?_
        rintro e w5 ⟨ca, cc, rfl, oc, c5⟩
        have ox : SlO 3 tInt w5 (fun q => wr.heap.size ≤ q) (.slice ca xs.length cc) xs := slO_mono oc (fun q hq => Nat.le_trans d.out.size hq)
        have PX := Lib.hid ox
        replace BR := Lib.hid ((c5.block wr.heap.size (Array.getElem?_eq_some_iff.1 BR.out).1).trans BR.out)
        replace d := Lib.hid (d.out.trans (c5.mono d.out.size))
        have Z_w5 := Lib.hid (show Wd.heap.size ≤ w5.heap.size from c5.size)
        clear c5 oc ox
        have p_BR_0 := (cell_of_row w5 _ 0 _ _ _ BR.out).trans (show _ = some (Value.int .i64 id) from rfl)
        have p_BR_1 := (cell_of_row w5 _ 1 _ _ _ BR.out).trans (show _ = some (Value.slice xa xs.length xc) from rfl)
        refine hK.out _ _ ⟨p_BR_0, p_BR_1⟩ (fun hHeld => ?_)
        clear p_BR_0 p_BR_1
        clear hK K
        try simp only [Act.put, List.setIfInBounds_toArray, List.set_cons_zero, List.set_cons_succ]
        refine wpAnyH_ready (rs := [8]) (by kernel_rfl) (by simp) ?_
        refine (AllReadyH.cons (o := _) (by simp only [List.getElem?_toArray, List.getElem?_cons_succ, List.getElem?_cons_zero]; rfl) (fun K hK => ?_) AllReadyH.nil)
        go_simp
        have hpb := (HFJ.out pb HFP.out).2.2
        have h0 : SlO 88 tVersion w5 (fun q => (F1 q ∨ wr.heap.size ≤ q) ∧ q < wr.heap.size) pv ys := slO_mono (slO_turn (G := fun _ => False) tVersion_law HSO.out (turn_below d.out) (fun _ _ => not_false)) (fun q hq => ⟨Or.inl hq, (HFJ.out q (HSUB.out q hq)).2.2⟩)
        refine (add_any pb wr.heap.size (fun q => F1 q ∨ wr.heap.size ≤ q) pv ys id 0 (-1) ca cc xs w5 ((d.out.block pb hpb).trans HPR.out) h0 d.out.size hpb (fun q => q.elim HNP.out (fun q => by omega)) (fun q hq => Or.inr hq) PX.out HPL.out).mono ?_
        rintro e w6 ⟨v6, rfl, r6, o6, t6⟩
        have T2 := Lib.hid ((turn_below (G := fun q => q = pb ∨ ((F1 q ∨ wr.heap.size ≤ q) ∧ q < wr.heap.size)) d.out).trans t6)
        have R6 := Lib.hid r6
        have O6 := Lib.hid o6
        have hzz := (Array.getElem?_eq_some_iff.1 BR.out).1
        replace BR := Lib.hid ((t6.block wr.heap.size hzz (fun h => by rcases h with q | q; omega; exact absurd q.2 (Nat.lt_irrefl _))).trans BR.out)
        clear h0 hzz r6 o6 t6 d PX hpb
        have p_BR_0 := (cell_of_row w6 _ 0 _ _ _ BR.out).trans (show _ = some (Value.int .i64 id) from rfl)
        have p_BR_1 := (cell_of_row w6 _ 1 _ _ _ BR.out).trans (show _ = some (Value.slice xa xs.length xc) from rfl)
        refine hK.out _ _ ⟨p_BR_0, p_BR_1⟩ (fun hHeld => ?_)
        clear p_BR_0 p_BR_1
        clear hK K
        try simp only [Act.put, List.setIfInBounds_toArray, List.set_cons_zero, List.set_cons_succ]
        refine wpAnyH_done (by kernel_rfl) ?_ _
        clear hHeld
        have hpb := HFJ.out pb HFP.out
        have hFF : ∀ q, F1 q → w.heap.size < q ∧ q ≠ g ∧ q < wr.heap.size := fun q hq => HFJ.out q (HSUB.out q hq)
        have t2 := T2.out
        have hgs := HGS.out
        have hws := HWS.out
        have hfp := HFP.out
        have hng : ∀ q, q = pb ∨ ((F1 q ∨ wr.heap.size ≤ q) ∧ q < wr.heap.size) → Fj q := fun q hq => hq.elim (fun e => by rw [e]; exact hfp) (fun e => e.1.elim (fun e1 => HSUB.out q e1) (fun e1 => absurd e.2 (Nat.not_lt.2 e1)))
        have rr := row_turn HROW.out t2 (fun q hq hc => (HFJ.out q (hng q hc)).2.1 (show g = q by simpa [Value.ownBlock] using hq).symm)
        have tt : Turn (fun q => q = g ∨ Fj q ∨ wr.heap.size ≤ q) wr w6 := t2.mono (fun q hq => Or.inr (Or.inl (hng q hq)))
        have hst := HPUT.out w6 L [ptrV pb] (fun q => Fj q ∨ wr.heap.size ≤ q) _ rr (fun o ho => rfl) HLC.out ⟨pb, v6, _, rfl, Or.inl hfp, R6.out, O6.out, fun q hq => hq.elim (fun e => Or.inl (HSUB.out q e)) Or.inr, fun q => q.elim HNP.out (fun q => by omega)⟩ (fun q hq => ⟨hq.elim (fun e => (HFJ.out q e).1) (fun e => by show w.heap.size < q; omega), hq⟩) tt
        rw [HDS.out] at hst
        have HST := Lib.hid hst
        have NB0 := Lib.hid ((t2.block w.heap.size hws (fun hq => by have := (HFJ.out _ (hng _ hq)).1; exact absurd this (Nat.lt_irrefl _))).trans HR0.out)
        have ND := Lib.hid (below_turn HB.out t2 (fun q hq => Nat.le_of_lt (HFJ.out q (hng q hq)).1) HB.out.size)
        have NG := Lib.hid (Nat.lt_of_lt_of_le hgs t2.size)
        have NW := Lib.hid (Nat.lt_of_lt_of_le hws t2.size)
        clear hpb hFF t2 hgs hws hfp hng rr tt hst
        go_wp2
        go_roundw
        case rel => exact ⟨k + 1, by omega, by go_num, NB0.out, HST.out, ND.out, NG.out, NW.out⟩
        case measure => simp [intOf]; omega
      · go_simp
        refine (newVersion_any id 0 (.slice xa xs.length xc) xs Wd (ints_slR (ints_below HX.out d.out)) HXL.out).mono ?_
        rintro e w5 ⟨ca, cc, rfl, oc, c5⟩
        have ox : SlO 3 tInt w5 (fun q => wr.heap.size ≤ q) (.slice ca xs.length cc) xs := slO_mono oc (fun q hq => Nat.le_trans d.out.size hq)
        have PX := Lib.hid ox
        replace BR := Lib.hid ((c5.block wr.heap.size (Array.getElem?_eq_some_iff.1 BR.out).1).trans BR.out)
        replace d := Lib.hid (d.out.trans (c5.mono d.out.size))
        have Z_w5 := Lib.hid (show Wd.heap.size ≤ w5.heap.size from c5.size)
        clear c5 oc ox
        have p_BR_0 := (cell_of_row w5 _ 0 _ _ _ BR.out).trans (show _ = some (Value.int .i64 id) from rfl)
        have p_BR_1 := (cell_of_row w5 _ 1 _ _ _ BR.out).trans (show _ = some (Value.slice xa xs.length xc) from rfl)
        refine hK.out _ _ ⟨p_BR_0, p_BR_1⟩ (fun hHeld => ?_)
        clear p_BR_0 p_BR_1
        clear hK K
        try simp only [Act.put, List.setIfInBounds_toArray, List.set_cons_zero, List.set_cons_succ]
        refine wpAnyH_ready (rs := [5]) (by kernel_rfl) (by simp) ?_
        refine (AllReadyH.cons (o := _) (by simp only [List.getElem?_toArray, List.getElem?_cons_succ, List.getElem?_cons_zero]; rfl) (fun K hK => ?_) AllReadyH.nil)
        have pc := (d.out.cell (p := ⟨g, j, none⟩) HGS.out).trans PC.out
        go_simp
        clear pc
        have p_BR_0 := (cell_of_row w5 _ 0 _ _ _ BR.out).trans (show _ = some (Value.int .i64 id) from rfl)
        have p_BR_1 := (cell_of_row w5 _ 1 _ _ _ BR.out).trans (show _ = some (Value.slice xa xs.length xc) from rfl)
        refine hK.out _ _ ⟨p_BR_0, p_BR_1⟩ (fun hHeld => ?_)
        clear p_BR_0 p_BR_1
        clear hK K
        try simp only [Act.put, List.setIfInBounds_toArray, List.set_cons_zero, List.set_cons_succ]
        refine wpAnyH_ready (rs := [8]) (by kernel_rfl) (by simp) ?_
        refine (AllReadyH.cons (o := _) (by simp only [List.getElem?_toArray, List.getElem?_cons_succ, List.getElem?_cons_zero]; rfl) (fun K hK => ?_) AllReadyH.nil)
        go_simp
        have hpb := (HFJ.out pb HFP.out).2.2
        have h0 : SlO 88 tVersion w5 (fun q => (F1 q ∨ wr.heap.size ≤ q) ∧ q < wr.heap.size) pv ys := slO_mono (slO_turn (G := fun _ => False) tVersion_law HSO.out (turn_below d.out) (fun _ _ => not_false)) (fun q hq => ⟨Or.inl hq, (HFJ.out q (HSUB.out q hq)).2.2⟩)
        refine (add_any pb wr.heap.size (fun q => F1 q ∨ wr.heap.size ≤ q) pv ys id 0 (-1) ca cc xs w5 ((d.out.block pb hpb).trans HPR.out) h0 d.out.size hpb (fun q => q.elim HNP.out (fun q => by omega)) (fun q hq => Or.inr hq) PX.out HPL.out).mono ?_
        rintro e w6 ⟨v6, rfl, r6, o6, t6⟩
        have T2 := Lib.hid ((turn_below (G := fun q => q = pb ∨ ((F1 q ∨ wr.heap.size ≤ q) ∧ q < wr.heap.size)) d.out).trans t6)
        have R6 := Lib.hid r6
        have O6 := Lib.hid o6
        have hzz := (Array.getElem?_eq_some_iff.1 BR.out).1
        replace BR := Lib.hid ((t6.block wr.heap.size hzz (fun h => by rcases h with q | q; omega; exact absurd q.2 (Nat.lt_irrefl _))).trans BR.out)
        clear h0 hzz r6 o6 t6 d PX hpb
        have p_BR_0 := (cell_of_row w6 _ 0 _ _ _ BR.out).trans (show _ = some (Value.int .i64 id) from rfl)
        have p_BR_1 := (cell_of_row w6 _ 1 _ _ _ BR.out).trans (show _ = some (Value.slice xa xs.length xc) from rfl)
        refine hK.out _ _ ⟨p_BR_0, p_BR_1⟩ (fun hHeld => ?_)
        clear p_BR_0 p_BR_1
        clear hK K
        try simp only [Act.put, List.setIfInBounds_toArray, List.set_cons_zero, List.set_cons_succ]
        refine wpAnyH_done (by kernel_rfl) ?_ _
        clear hHeld
        have hpb := HFJ.out pb HFP.out
        have hFF : ∀ q, F1 q → w.heap.size < q ∧ q ≠ g ∧ q < wr.heap.size := fun q hq => HFJ.out q (HSUB.out q hq)
        have t2 := T2.out
        have hgs := HGS.out
        have hws := HWS.out
        have hfp := HFP.out
        have hng : ∀ q, q = pb ∨ ((F1 q ∨ wr.heap.size ≤ q) ∧ q < wr.heap.size) → Fj q := fun q hq => hq.elim (fun e => by rw [e]; exact hfp) (fun e => e.1.elim (fun e1 => HSUB.out q e1) (fun e1 => absurd e.2 (Nat.not_lt.2 e1)))
        have rr := row_turn HROW.out t2 (fun q hq hc => (HFJ.out q (hng q hc)).2.1 (show g = q by simpa [Value.ownBlock] using hq).symm)
        have tt : Turn (fun q => q = g ∨ Fj q ∨ wr.heap.size ≤ q) wr w6 := t2.mono (fun q hq => Or.inr (Or.inl (hng q hq)))
        have hst := HPUT.out w6 L [ptrV pb] (fun q => Fj q ∨ wr.heap.size ≤ q) _ rr (fun o ho => rfl) HLC.out ⟨pb, v6, _, rfl, Or.inl hfp, R6.out, O6.out, fun q hq => hq.elim (fun e => Or.inl (HSUB.out q e)) Or.inr, fun q => q.elim HNP.out (fun q => by omega)⟩ (fun q hq => ⟨hq.elim (fun e => (HFJ.out q e).1) (fun e => by show w.heap.size < q; omega), hq⟩) tt
        rw [HDS.out] at hst
        have HST := Lib.hid hst
        have NB0 := Lib.hid ((t2.block w.heap.size hws (fun hq => by have := (HFJ.out _ (hng _ hq)).1; exact absurd this (Nat.lt_irrefl _))).trans HR0.out)
        have ND := Lib.hid (below_turn HB.out t2 (fun q hq => Nat.le_of_lt (HFJ.out q (hng q hq)).1) HB.out.size)
        have NG := Lib.hid (Nat.lt_of_lt_of_le hgs t2.size)
        have NW := Lib.hid (Nat.lt_of_lt_of_le hws t2.size)
        clear hpb hFF t2 hgs hws hfp hng rr tt hst
        go_wp2
        go_roundw
        case rel => exact ⟨k + 1, by omega, by go_num, NB0.out, HST.out, ND.out, NG.out, NW.out⟩
        case measure => simp [intOf]; omega
    · obtain rfl : k = rs.length := by omega
      have D9 := Lib.hid hbel
      have K9 := Lib.hid hr0
      have Y9 := Lib.hid hws
      have HLI := Lib.hid (lists_any g n (fun b => w.heap.size < b) (dealTo rs n n rs.length) wr hown (by rw [deal_len]) (by omega))
      clear hown hbel hr0 hws
      go_wp2_with fail
      refine HLI.out.mono ?_
      rintro e w9 ⟨lv, rfl, ol, b9⟩
      obtain ⟨fa, fc, hv⟩ := slO_len ol
      rw [deal_len] at hv
      subst hv
      have k0 := (b9.block w.heap.size Y9.out).trans K9.out
      have hbel := D9.out.trans (b9.mono D9.out.size)
      have y9 := Y9.out
  
      have c0 := cell_of_row w9 _ 0 _ _ _ k0
      have c1 := cell_of_row w9 _ 1 _ _ _ k0
      simp at c0 c1
      have f0 := frozen_of_row w9 _ 0 _ _ k0
      have f1 := frozen_of_row w9 _ 1 _ _ k0
      have tt : Turn (fun b => b = w.heap.size) w9 ((w9.setCell ⟨w.heap.size, 0, none⟩ (.slice fa n fc)).setCell ⟨w.heap.size, 1, none⟩ (.int .i64 0)) := ((Turn.refl (fun b => b = w.heap.size) _).trans (turn_set (G := fun b => b = w.heap.size) (g := w.heap.size) (j := 0) (u := .slice fa n fc) rfl)).trans (turn_set (G := fun b => b = w.heap.size) (g := w.heap.size) (j := 1) (u := .int .i64 0) rfl)
      have r := heap_setCell_same _ w.heap.size 1 _ _ (.int .i64 0) (heap_setCell_same w9 w.heap.size 0 _ _ (.slice fa n fc) k0)
      have e0 := cell_of_row _ _ 0 _ _ _ r
      have e1 := cell_of_row _ _ 1 _ _ _ r
      simp at e0 e1
      have D := Lib.hid (below_turn hbel tt (fun b h => by omega) hbel.size)
      have P1 := Lib.hid (slO_turn tVersionS_law ol tt (fun b h1 h2 => by rcases h1 with q | q <;> omega))
      clear r k0 tt ol hbel b9 y9
      go_wp2
      refine bodyPost_ret (v := .tuple #[.agg #[.slice fa n fc, .int .i64 0], .bool true]) ?_ rfl ?_
      · simp [results, Try.f36, go_sem, e0, e1]
      · exact ⟨[.slice fa n fc, .int .i64 0], _, rfl, tStore_mkO P1.out (fun b h => h), fun b h => by rcases h with q | q; exact Nat.le_of_lt q; exact Nat.le_trans (Nat.le_of_lt Y9.out) q, D.out⟩
end Go.Proofs.Ythiiaiholcfhhaa
namespace Go.Proofs.Ythiiaiholcfhhaa
open Go.RowKit
set_option linter.unusedVariables false
set_option linter.unusedSimpArgs false
set_option maxHeartbeats 32000000 in
set_option maxRecDepth 100000 in
theorem law_fnExactNewStore (v0_0 : Value) (x0_0 : List (Int × List Int)) (n1 : Int) (w1 : (Lit.int .i64 n1).wf = true) (r0 : List (List (Int × List Int × Int × Int)) × Int) (r1 : Bool) (w : World) (h0_0 : SlR tRow w v0_0 x0_0) (o0_0 : tRowS.ok x0_0) (z0 : tStore.sz r0 ≤ 1048576)
    (hspec : ∀ (v0_0 : Value) (w : World), SlR tRow w v0_0 x0_0 → zL tRow x0_0 ≤ 1048576 → Calls Try.prog 34 #[v0_0, .int .i64 n1] w (fun e w' => ∃ (g0 : List Value) (G0 : Nat → Prop), e = .returned (.tuple #[.agg g0.toArray, .bool r1]) ∧ tStore.O w' G0 g0 r0 ∧ (∀ b, G0 b → w.heap.size ≤ b) ∧ Below w.heap.size w w'))
    (himpl : ∀ (v0_0 : Value) (w : World), SlR tRow w v0_0 x0_0 → zL tRow x0_0 ≤ 1048576 → Calls Try.prog 36 #[v0_0, .int .i64 n1] w (fun e w' => ∃ (g0 : List Value) (G0 : Nat → Prop), e = .returned (.tuple #[.agg g0.toArray, .bool r1]) ∧ tStore.O w' G0 g0 r0 ∧ (∀ b, G0 b → w.heap.size ≤ b) ∧ Below w.heap.size w w')) :
    Calls Try.prog 7 #[v0_0, .int .i64 n1] w fun e w' => e = .returned (.bool true) ∧ Below w.heap.size w w' := by
  obtain ⟨c0_0, k0_0, rfl⟩ := slR_len h0_0
  have A0_0 := Lib.hid h0_0
  have O0_0 := Lib.hid o0_0
  clear h0_0 o0_0
  have HSP := Lib.hid hspec
  have HIM := Lib.hid himpl
  clear hspec himpl
  have Z0 := Lib.hid z0
  clear z0
  by_cases c0 : ((zL tRow x0_0 : Nat) : Int) ≤ (1048576 : Int)
  ·
    have HZ0 : Hid (((zL tRow x0_0 : Nat) : Int) ≤ (1048576 : Int)) := Lib.hid c0
    have HK0 : Hid ((1048576 : Int) ≤ 1048576) := Lib.hid (by omega)
    have hn0 : ¬ (1048576 : Int) - ((zL tRow x0_0 : Nat) : Int) < 0 := by omega
    have HT : Hid (zL tRow x0_0 ≤ 1048576) := Lib.hid (by omega)
    have S0_0 : Hid (zL tRow x0_0 ≤ 1048576) := Lib.hid (by omega)
    have N0_0 := ndL_le tRow_law (by decide) x0_0
    have M0 : Hid (0 ≤ (1 : Int) ∧ (1 : Int) ≤ 134217728) := Lib.hid (by have := HT.out; omega)
    have hk : ¬ (1 + (ndL tRow x0_0 : Int) : Int) < 0 := by omega
    clear N0_0
    have e1 : (r1 != r1) = false := by simp
    obtain ⟨xr0_0, ar0_1⟩ := r0
    have ZZ0 := Z0.out
    rw [tStore_sz] at ZZ0
    have NR0_0 := ndL_le tVersionS_law (by decide) xr0_0
    have Z0_0 : Hid (zL tVersionS xr0_0 ≤ 1048576) := Lib.hid (by omega)
    have MR0 : Hid (0 ≤ (1 : Int) ∧ (1 : Int) ≤ 134217728) := Lib.hid (by omega)
    have hh0 : ¬ (1 + (ndL tVersionS xr0_0 : Int) : Int) < 0 := by omega
    have hq : ((1 + (ndL tVersionS xr0_0 : Int) : Int) != 1 + (ndL tVersionS xr0_0 : Int)) = false := by simp
    clear ZZ0 NR0_0
    clear c0
    go_enter Try.func7, Try.ntmps7
    go_wp2_with fail
    have d := Lib.hid (Below.refl w.heap.size w)
    refine (szRowS_Y (.slice c0_0 x0_0.length k0_0) x0_0 ((1048576 : Int)) w (slR_below tRow_law A0_0.out d.out) HZ0.out HK0.out).mono ?_
    rintro e v1 ⟨rfl, c1⟩
    replace d := Lib.hid (d.out.trans (c1.mono d.out.size))
    have Z_v1 := Lib.hid (show w.heap.size ≤ v1.heap.size from c1.size)
    clear c1
    go_wp2_with fail
    refine (toRowS_S (.slice c0_0 x0_0.length k0_0) x0_0 v1 (slR_below tRow_law A0_0.out d.out) S0_0.out).mono ?_
    rintro e v2 ⟨y, rfl, o, c2⟩
    replace d := Lib.hid (d.out.trans (c2.mono d.out.size))
    have Z_v2 := Lib.hid (show v1.heap.size ≤ v2.heap.size from c2.size)
    clear c2
    obtain ⟨ya2, yc2, rfl⟩ := slO_len o
    have P2 := Lib.hid (slO_lt tRow_law o)
    have Q2 := Lib.hid (fun b (h : since v1 b ∧ b < v2.heap.size) => (show v1.heap.size ≤ b ∧ b < v2.heap.size from h))
    clear o
    go_wp2_with fail
    refine (HSP.out (.slice ya2 x0_0.length yc2) v2 (slO_reads tRow_law P2.out) HT.out ).mono ?_
    rintro e v3 ⟨g0, G0, rfl, o0, q0, c3⟩
    replace P2 := Lib.hid (slO_fresh tRow_law P2.out c3)
    replace d := Lib.hid (d.out.trans (c3.mono d.out.size))
    have Z_v3 := Lib.hid (show v2.heap.size ≤ v3.heap.size from c3.size)
    clear c3
    replace o0 := tStore_law.lt o0
    obtain ⟨y3_0, K3_0, rfl, p3_0, w3_0⟩ := tStore_O o0
    obtain ⟨ya3_0, yc3_0, rfl⟩ := slO_len p3_0
    have P3_0 := Lib.hid p3_0
    have Q3_0 := Lib.hid (fun b h => (show v2.heap.size ≤ b ∧ b < v3.heap.size from ⟨q0 b (w3_0 b h).1, (w3_0 b h).2⟩))
    clear p3_0 w3_0 o0 q0
    have hal : Below v3.heap.size v3 (v3.alloc (.cells #[.slice ya3_0 xr0_0.length yc3_0, .int .i64 ar0_1] 41)) := (Below.refl _ _).alloc (Nat.le_refl _) _
    have X1 := Lib.hid (heap_alloc_new v3 (.cells #[.slice ya3_0 xr0_0.length yc3_0, .int .i64 ar0_1] 41))
    have Y_X1 := Lib.hid (show v3.heap.size < (v3.alloc (.cells #[.slice ya3_0 xr0_0.length yc3_0, .int .i64 ar0_1] 41)).heap.size by simp [World.size_alloc])
    replace P2 := Lib.hid (slO_fresh tRow_law P2.out hal)
    replace P3_0 := Lib.hid (slO_fresh tVersionS_law P3_0.out hal)
    replace d := Lib.hid (d.out.trans (hal.mono d.out.size))
    clear hal
    go_wp2_with fail
    generalize (v3.alloc (.cells #[.slice ya3_0 xr0_0.length yc3_0, .int .i64 ar0_1] 41)) = u4 at *
    refine (toRowS_S (.slice c0_0 x0_0.length k0_0) x0_0 u4 (slR_below tRow_law A0_0.out d.out) S0_0.out).mono ?_
    rintro e v5 ⟨y, rfl, o, c5⟩
    replace X1 := Lib.hid ((c5.block v3.heap.size (Array.getElem?_eq_some_iff.1 X1.out).1).trans X1.out)
    replace P2 := Lib.hid (slO_fresh tRow_law P2.out c5)
    replace P3_0 := Lib.hid (slO_fresh tVersionS_law P3_0.out c5)
    replace d := Lib.hid (d.out.trans (c5.mono d.out.size))
    have Z_v5 := Lib.hid (show u4.heap.size ≤ v5.heap.size from c5.size)
    clear c5
    obtain ⟨ya5, yc5, rfl⟩ := slO_len o
    have P5 := Lib.hid (slO_lt tRow_law o)
    have Q5 := Lib.hid (fun b (h : since u4 b ∧ b < v5.heap.size) => (show u4.heap.size ≤ b ∧ b < v5.heap.size from h))
    clear o
    go_wp2_with fail
    refine (HIM.out (.slice ya5 x0_0.length yc5) v5 (slO_reads tRow_law P5.out) HT.out ).mono ?_
    rintro e v6 ⟨g0, G0, rfl, o0, q0, c6⟩
    replace X1 := Lib.hid ((c6.block v3.heap.size (Array.getElem?_eq_some_iff.1 X1.out).1).trans X1.out)
    replace P2 := Lib.hid (slO_fresh tRow_law P2.out c6)
    replace P3_0 := Lib.hid (slO_fresh tVersionS_law P3_0.out c6)
    replace P5 := Lib.hid (slO_fresh tRow_law P5.out c6)
    replace d := Lib.hid (d.out.trans (c6.mono d.out.size))
    have Z_v6 := Lib.hid (show v5.heap.size ≤ v6.heap.size from c6.size)
    clear c6
    replace o0 := tStore_law.lt o0
    obtain ⟨y6_0, K6_0, rfl, p6_0, w6_0⟩ := tStore_O o0
    obtain ⟨ya6_0, yc6_0, rfl⟩ := slO_len p6_0
    have P6_0 := Lib.hid p6_0
    have Q6_0 := Lib.hid (fun b h => (show v5.heap.size ≤ b ∧ b < v6.heap.size from ⟨q0 b (w6_0 b h).1, (w6_0 b h).2⟩))
    clear p6_0 w6_0 o0 q0
    have hal : Below v6.heap.size v6 (v6.alloc (.cells #[.slice ya6_0 xr0_0.length yc6_0, .int .i64 ar0_1] 41)) := (Below.refl _ _).alloc (Nat.le_refl _) _
    have X2 := Lib.hid (heap_alloc_new v6 (.cells #[.slice ya6_0 xr0_0.length yc6_0, .int .i64 ar0_1] 41))
    have Y_X2 := Lib.hid (show v6.heap.size < (v6.alloc (.cells #[.slice ya6_0 xr0_0.length yc6_0, .int .i64 ar0_1] 41)).heap.size by simp [World.size_alloc])
    replace X1 := Lib.hid ((hal.block v3.heap.size (Array.getElem?_eq_some_iff.1 X1.out).1).trans X1.out)
    replace P2 := Lib.hid (slO_fresh tRow_law P2.out hal)
    replace P3_0 := Lib.hid (slO_fresh tVersionS_law P3_0.out hal)
    replace P5 := Lib.hid (slO_fresh tRow_law P5.out hal)
    replace P6_0 := Lib.hid (slO_fresh tVersionS_law P6_0.out hal)
    replace d := Lib.hid (d.out.trans (hal.mono d.out.size))
    clear hal
    have p_X1_0 := (cell_of_row (v6.alloc (.cells #[.slice ya6_0 xr0_0.length yc6_0, .int .i64 ar0_1] 41)) _ 0 _ _ _ X1.out).trans (show _ = some (Value.slice ya3_0 xr0_0.length yc3_0) from rfl)
    have p_X1_1 := (cell_of_row (v6.alloc (.cells #[.slice ya6_0 xr0_0.length yc6_0, .int .i64 ar0_1] 41)) _ 1 _ _ _ X1.out).trans (show _ = some (Value.int .i64 ar0_1) from rfl)
    have p_X2_0 := (cell_of_row (v6.alloc (.cells #[.slice ya6_0 xr0_0.length yc6_0, .int .i64 ar0_1] 41)) _ 0 _ _ _ X2.out).trans (show _ = some (Value.slice ya6_0 xr0_0.length yc6_0) from rfl)
    have p_X2_1 := (cell_of_row (v6.alloc (.cells #[.slice ya6_0 xr0_0.length yc6_0, .int .i64 ar0_1] 41)) _ 1 _ _ _ X2.out).trans (show _ = some (Value.int .i64 ar0_1) from rfl)
    go_wp2_with fail
    clear p_X1_0 p_X1_1 p_X2_0 p_X2_1
    generalize (v6.alloc (.cells #[.slice ya6_0 xr0_0.length yc6_0, .int .i64 ar0_1] 41)) = u7 at *
    refine (eqStore_T ar0_1 (.slice ya6_0 xr0_0.length yc6_0) xr0_0 (.slice ya3_0 xr0_0.length yc3_0) u7 (slO_reads tVersionS_law P6_0.out) (slO_reads tVersionS_law P3_0.out) Z0_0.out).mono ?_
    rintro e v8 ⟨rfl, c8⟩
    replace X1 := Lib.hid ((c8.block v3.heap.size (Array.getElem?_eq_some_iff.1 X1.out).1).trans X1.out)
    replace X2 := Lib.hid ((c8.block v6.heap.size (Array.getElem?_eq_some_iff.1 X2.out).1).trans X2.out)
    replace P2 := Lib.hid (slO_fresh tRow_law P2.out c8)
    replace P3_0 := Lib.hid (slO_fresh tVersionS_law P3_0.out c8)
    replace P5 := Lib.hid (slO_fresh tRow_law P5.out c8)
    replace P6_0 := Lib.hid (slO_fresh tVersionS_law P6_0.out c8)
    replace d := Lib.hid (d.out.trans (c8.mono d.out.size))
    have Z_v8 := Lib.hid (show u7.heap.size ≤ v8.heap.size from c8.size)
    clear c8
    go_wp2_with fail
    refine (toRowS_S (.slice c0_0 x0_0.length k0_0) x0_0 v8 (slR_below tRow_law A0_0.out d.out) S0_0.out).mono ?_
    rintro e v9 ⟨y, rfl, o, c9⟩
    replace X1 := Lib.hid ((c9.block v3.heap.size (Array.getElem?_eq_some_iff.1 X1.out).1).trans X1.out)
    replace X2 := Lib.hid ((c9.block v6.heap.size (Array.getElem?_eq_some_iff.1 X2.out).1).trans X2.out)
    replace P2 := Lib.hid (slO_fresh tRow_law P2.out c9)
    replace P3_0 := Lib.hid (slO_fresh tVersionS_law P3_0.out c9)
    replace P5 := Lib.hid (slO_fresh tRow_law P5.out c9)
    replace P6_0 := Lib.hid (slO_fresh tVersionS_law P6_0.out c9)
    replace d := Lib.hid (d.out.trans (c9.mono d.out.size))
    have Z_v9 := Lib.hid (show v8.heap.size ≤ v9.heap.size from c9.size)
    clear c9
    obtain ⟨ya9, yc9, rfl⟩ := slO_len o
    have P9 := Lib.hid (slO_lt tRow_law o)
    have Q9 := Lib.hid (fun b (h : since v8 b ∧ b < v9.heap.size) => (show v8.heap.size ≤ b ∧ b < v9.heap.size from h))
    clear o
    go_wp2_with fail
    refine (eqRowS_S (.slice ya5 x0_0.length yc5) (.slice ya9 x0_0.length yc9) x0_0 v9 (slO_reads tRow_law P5.out) (slO_reads tRow_law P9.out) S0_0.out).mono ?_
    rintro e v10 ⟨rfl, c10⟩
    replace X1 := Lib.hid ((c10.block v3.heap.size (Array.getElem?_eq_some_iff.1 X1.out).1).trans X1.out)
    replace X2 := Lib.hid ((c10.block v6.heap.size (Array.getElem?_eq_some_iff.1 X2.out).1).trans X2.out)
    replace P2 := Lib.hid (slO_fresh tRow_law P2.out c10)
    replace P3_0 := Lib.hid (slO_fresh tVersionS_law P3_0.out c10)
    replace P5 := Lib.hid (slO_fresh tRow_law P5.out c10)
    replace P6_0 := Lib.hid (slO_fresh tVersionS_law P6_0.out c10)
    replace P9 := Lib.hid (slO_fresh tRow_law P9.out c10)
    replace d := Lib.hid (d.out.trans (c10.mono d.out.size))
    have Z_v10 := Lib.hid (show v9.heap.size ≤ v10.heap.size from c10.size)
    clear c10
    clear P9
    go_wp2_with fail
    refine (markRowS_S (.slice ya5 x0_0.length yc5) x0_0 _ (1) v10 P5.out S0_0.out M0.out.1 (by have := M0.out.2; omega)).mono ?_
    rintro e v11 ⟨rfl, m0, c11⟩
    have y0 := Z_v1.out
    have y1 := Z_v2.out
    have y2 := Z_v3.out
    have y3 := Y_X1.out
    have y4 := Z_v5.out
    have y5 := Z_v6.out
    have y6 := Y_X2.out
    have y7 := Z_v8.out
    have y8 := Z_v9.out
    have y9 := Z_v10.out
    have yd : w.heap.size ≤ v10.heap.size := d.out.size
    replace X1 := Lib.hid ((c11.block v3.heap.size (Array.getElem?_eq_some_iff.1 X1.out).1 (fun h => by have r2 := Q5.out v3.heap.size h; omega)).trans X1.out)
    replace X2 := Lib.hid ((c11.block v6.heap.size (Array.getElem?_eq_some_iff.1 X2.out).1 (fun h => by have r2 := Q5.out v6.heap.size h; omega)).trans X2.out)
    replace P2 := Lib.hid (slO_turn tRow_law P2.out c11 (fun b h1 h2 => by have r1 := Q2.out b h1; have r2 := Q5.out b h2; omega))
    replace P3_0 := Lib.hid (slO_turn tVersionS_law P3_0.out c11 (fun b h1 h2 => by have r1 := Q3_0.out b h1; have r2 := Q5.out b h2; omega))
    replace P6_0 := Lib.hid (slO_turn tVersionS_law P6_0.out c11 (fun b h1 h2 => by have r1 := Q6_0.out b h1; have r2 := Q5.out b h2; omega))
    replace d := Lib.hid (below_turn d.out c11 (fun b h => by have r2 := Q5.out b h; omega) (by omega))
    clear yd y0 y1 y2 y3 y4 y5 y6 y7 y8 y9
    have Z_v11 := Lib.hid (show v10.heap.size ≤ v11.heap.size from c11.size)
    clear P5
    clear m0 c11
    have p_X1_0 := (cell_of_row v11 _ 0 _ _ _ X1.out).trans (show _ = some (Value.slice ya3_0 xr0_0.length yc3_0) from rfl)
    have p_X1_1 := (cell_of_row v11 _ 1 _ _ _ X1.out).trans (show _ = some (Value.int .i64 ar0_1) from rfl)
    have p_X2_0 := (cell_of_row v11 _ 0 _ _ _ X2.out).trans (show _ = some (Value.slice ya6_0 xr0_0.length yc6_0) from rfl)
    have p_X2_1 := (cell_of_row v11 _ 1 _ _ _ X2.out).trans (show _ = some (Value.int .i64 ar0_1) from rfl)
    go_wp2_with fail
    clear p_X1_0 p_X1_1 p_X2_0 p_X2_1
    refine (eqStore_T ar0_1 (.slice ya6_0 xr0_0.length yc6_0) xr0_0 (.slice ya3_0 xr0_0.length yc3_0) v11 (slO_reads tVersionS_law P6_0.out) (slO_reads tVersionS_law P3_0.out) Z0_0.out).mono ?_
    rintro e v12 ⟨rfl, c12⟩
    replace X1 := Lib.hid ((c12.block v3.heap.size (Array.getElem?_eq_some_iff.1 X1.out).1).trans X1.out)
    replace X2 := Lib.hid ((c12.block v6.heap.size (Array.getElem?_eq_some_iff.1 X2.out).1).trans X2.out)
    replace P2 := Lib.hid (slO_fresh tRow_law P2.out c12)
    replace P3_0 := Lib.hid (slO_fresh tVersionS_law P3_0.out c12)
    replace P6_0 := Lib.hid (slO_fresh tVersionS_law P6_0.out c12)
    replace d := Lib.hid (d.out.trans (c12.mono d.out.size))
    have Z_v12 := Lib.hid (show v11.heap.size ≤ v12.heap.size from c12.size)
    clear c12
    have p_X2_0 := (cell_of_row v12 _ 0 _ _ _ X2.out).trans (show _ = some (Value.slice ya6_0 xr0_0.length yc6_0) from rfl)
    have p_X2_1 := (cell_of_row v12 _ 1 _ _ _ X2.out).trans (show _ = some (Value.int .i64 ar0_1) from rfl)
    go_wp2_with fail
    clear p_X2_0 p_X2_1
    refine (markStore_T ar0_1 (.slice ya6_0 xr0_0.length yc6_0) xr0_0 (fun b => v5.heap.size ≤ b ∧ b < v6.heap.size) _ (1) v12 P6_0.out Q6_0.out  Z0_0.out MR0.out.1 (by have := MR0.out.2; omega)).mono ?_
    rintro e v13 ⟨rfl, m0, c13⟩
    have y0 := Z_v1.out
    have y1 := Z_v2.out
    have y2 := Z_v3.out
    have y3 := Y_X1.out
    have y4 := Z_v5.out
    have y5 := Z_v6.out
    have y6 := Y_X2.out
    have y7 := Z_v8.out
    have y8 := Z_v9.out
    have y9 := Z_v10.out
    have y10 := Z_v11.out
    have y11 := Z_v12.out
    have yd : w.heap.size ≤ v12.heap.size := d.out.size
    replace X1 := Lib.hid ((c13.block v3.heap.size (Array.getElem?_eq_some_iff.1 X1.out).1 (fun h => by have r2 := h; omega)).trans X1.out)
    replace X2 := Lib.hid ((c13.block v6.heap.size (Array.getElem?_eq_some_iff.1 X2.out).1 (fun h => by have r2 := h; omega)).trans X2.out)
    replace P2 := Lib.hid (slO_turn tRow_law P2.out c13 (fun b h1 h2 => by have r1 := Q2.out b h1; have r2 := h2; omega))
    replace P3_0 := Lib.hid (slO_turn tVersionS_law P3_0.out c13 (fun b h1 h2 => by have r1 := Q3_0.out b h1; have r2 := h2; omega))
    replace d := Lib.hid (below_turn d.out c13 (fun b h => by have r2 := h; omega) (by omega))
    clear yd y0 y1 y2 y3 y4 y5 y6 y7 y8 y9 y10 y11
    have Z_v13 := Lib.hid (show v12.heap.size ≤ v13.heap.size from c13.size)
    replace P6_0 := Lib.hid m0
    clear m0 c13
    have p_X2_0 := (cell_of_row v13 _ 0 _ _ _ X2.out).trans (show _ = some (Value.slice ya6_0 xr0_0.length yc6_0) from rfl)
    have p_X2_1 := (cell_of_row v13 _ 1 _ _ _ X2.out).trans (show _ = some (Value.int .i64 ar0_1) from rfl)
    go_wp2_with fail
    clear p_X2_0 p_X2_1
    refine (heldStore_T ar0_1 (.slice ya6_0 xr0_0.length yc6_0) xr0_0 (1) v13 (slO_reads tVersionS_law P6_0.out) Z0_0.out MR0.out.1 (by have := MR0.out.2; omega)).mono ?_
    rintro e v14 ⟨rfl, c14⟩
    replace X1 := Lib.hid ((c14.block v3.heap.size (Array.getElem?_eq_some_iff.1 X1.out).1).trans X1.out)
    replace X2 := Lib.hid ((c14.block v6.heap.size (Array.getElem?_eq_some_iff.1 X2.out).1).trans X2.out)
    replace P2 := Lib.hid (slO_fresh tRow_law P2.out c14)
    replace P3_0 := Lib.hid (slO_fresh tVersionS_law P3_0.out c14)
    replace P6_0 := Lib.hid (slO_fresh tVersionS_law P6_0.out c14)
    replace d := Lib.hid (d.out.trans (c14.mono d.out.size))
    have Z_v14 := Lib.hid (show v13.heap.size ≤ v14.heap.size from c14.size)
    clear c14
    go_wp2_with fail
    refine (toRowS_S (.slice c0_0 x0_0.length k0_0) x0_0 v14 (slR_below tRow_law A0_0.out d.out) S0_0.out).mono ?_
    rintro e v15 ⟨y, rfl, o, c15⟩
    replace X1 := Lib.hid ((c15.block v3.heap.size (Array.getElem?_eq_some_iff.1 X1.out).1).trans X1.out)
    replace X2 := Lib.hid ((c15.block v6.heap.size (Array.getElem?_eq_some_iff.1 X2.out).1).trans X2.out)
    replace P2 := Lib.hid (slO_fresh tRow_law P2.out c15)
    replace P3_0 := Lib.hid (slO_fresh tVersionS_law P3_0.out c15)
    replace P6_0 := Lib.hid (slO_fresh tVersionS_law P6_0.out c15)
    replace d := Lib.hid (d.out.trans (c15.mono d.out.size))
    have Z_v15 := Lib.hid (show v14.heap.size ≤ v15.heap.size from c15.size)
    clear c15
    obtain ⟨ya15, yc15, rfl⟩ := slO_len o
    have P15 := Lib.hid (slO_lt tRow_law o)
    have Q15 := Lib.hid (fun b (h : since v14 b ∧ b < v15.heap.size) => (show v14.heap.size ≤ b ∧ b < v15.heap.size from h))
    clear o
    go_wp2_with fail
    refine (HIM.out (.slice ya15 x0_0.length yc15) v15 (slO_reads tRow_law P15.out) HT.out ).mono ?_
    rintro e v16 ⟨g0, G0, rfl, o0, q0, c16⟩
    replace X1 := Lib.hid ((c16.block v3.heap.size (Array.getElem?_eq_some_iff.1 X1.out).1).trans X1.out)
    replace X2 := Lib.hid ((c16.block v6.heap.size (Array.getElem?_eq_some_iff.1 X2.out).1).trans X2.out)
    replace P2 := Lib.hid (slO_fresh tRow_law P2.out c16)
    replace P3_0 := Lib.hid (slO_fresh tVersionS_law P3_0.out c16)
    replace P6_0 := Lib.hid (slO_fresh tVersionS_law P6_0.out c16)
    replace P15 := Lib.hid (slO_fresh tRow_law P15.out c16)
    replace d := Lib.hid (d.out.trans (c16.mono d.out.size))
    have Z_v16 := Lib.hid (show v15.heap.size ≤ v16.heap.size from c16.size)
    clear c16
    replace o0 := tStore_law.lt o0
    obtain ⟨y16_0, K16_0, rfl, p16_0, w16_0⟩ := tStore_O o0
    obtain ⟨ya16_0, yc16_0, rfl⟩ := slO_len p16_0
    have P16_0 := Lib.hid p16_0
    have Q16_0 := Lib.hid (fun b h => (show v15.heap.size ≤ b ∧ b < v16.heap.size from ⟨q0 b (w16_0 b h).1, (w16_0 b h).2⟩))
    clear p16_0 w16_0 o0 q0
    have hal : Below v16.heap.size v16 (v16.alloc (.cells #[.slice ya16_0 xr0_0.length yc16_0, .int .i64 ar0_1] 41)) := (Below.refl _ _).alloc (Nat.le_refl _) _
    have X3 := Lib.hid (heap_alloc_new v16 (.cells #[.slice ya16_0 xr0_0.length yc16_0, .int .i64 ar0_1] 41))
    have Y_X3 := Lib.hid (show v16.heap.size < (v16.alloc (.cells #[.slice ya16_0 xr0_0.length yc16_0, .int .i64 ar0_1] 41)).heap.size by simp [World.size_alloc])
    replace X1 := Lib.hid ((hal.block v3.heap.size (Array.getElem?_eq_some_iff.1 X1.out).1).trans X1.out)
    replace X2 := Lib.hid ((hal.block v6.heap.size (Array.getElem?_eq_some_iff.1 X2.out).1).trans X2.out)
    replace P2 := Lib.hid (slO_fresh tRow_law P2.out hal)
    replace P3_0 := Lib.hid (slO_fresh tVersionS_law P3_0.out hal)
    replace P6_0 := Lib.hid (slO_fresh tVersionS_law P6_0.out hal)
    replace P15 := Lib.hid (slO_fresh tRow_law P15.out hal)
    replace P16_0 := Lib.hid (slO_fresh tVersionS_law P16_0.out hal)
    replace d := Lib.hid (d.out.trans (hal.mono d.out.size))
    clear hal
    have p_X1_0 := (cell_of_row (v16.alloc (.cells #[.slice ya16_0 xr0_0.length yc16_0, .int .i64 ar0_1] 41)) _ 0 _ _ _ X1.out).trans (show _ = some (Value.slice ya3_0 xr0_0.length yc3_0) from rfl)
    have p_X1_1 := (cell_of_row (v16.alloc (.cells #[.slice ya16_0 xr0_0.length yc16_0, .int .i64 ar0_1] 41)) _ 1 _ _ _ X1.out).trans (show _ = some (Value.int .i64 ar0_1) from rfl)
    have p_X3_0 := (cell_of_row (v16.alloc (.cells #[.slice ya16_0 xr0_0.length yc16_0, .int .i64 ar0_1] 41)) _ 0 _ _ _ X3.out).trans (show _ = some (Value.slice ya16_0 xr0_0.length yc16_0) from rfl)
    have p_X3_1 := (cell_of_row (v16.alloc (.cells #[.slice ya16_0 xr0_0.length yc16_0, .int .i64 ar0_1] 41)) _ 1 _ _ _ X3.out).trans (show _ = some (Value.int .i64 ar0_1) from rfl)
    go_wp2_with fail
    clear p_X1_0 p_X1_1 p_X3_0 p_X3_1
    generalize (v16.alloc (.cells #[.slice ya16_0 xr0_0.length yc16_0, .int .i64 ar0_1] 41)) = u17 at *
    refine (eqStore_T ar0_1 (.slice ya16_0 xr0_0.length yc16_0) xr0_0 (.slice ya3_0 xr0_0.length yc3_0) u17 (slO_reads tVersionS_law P16_0.out) (slO_reads tVersionS_law P3_0.out) Z0_0.out).mono ?_
    rintro e v18 ⟨rfl, c18⟩
    replace X1 := Lib.hid ((c18.block v3.heap.size (Array.getElem?_eq_some_iff.1 X1.out).1).trans X1.out)
    replace X2 := Lib.hid ((c18.block v6.heap.size (Array.getElem?_eq_some_iff.1 X2.out).1).trans X2.out)
    replace X3 := Lib.hid ((c18.block v16.heap.size (Array.getElem?_eq_some_iff.1 X3.out).1).trans X3.out)
    replace P2 := Lib.hid (slO_fresh tRow_law P2.out c18)
    replace P3_0 := Lib.hid (slO_fresh tVersionS_law P3_0.out c18)
    replace P6_0 := Lib.hid (slO_fresh tVersionS_law P6_0.out c18)
    replace P15 := Lib.hid (slO_fresh tRow_law P15.out c18)
    replace P16_0 := Lib.hid (slO_fresh tVersionS_law P16_0.out c18)
    replace d := Lib.hid (d.out.trans (c18.mono d.out.size))
    have Z_v18 := Lib.hid (show u17.heap.size ≤ v18.heap.size from c18.size)
    clear c18
    have p_X2_0 := (cell_of_row v18 _ 0 _ _ _ X2.out).trans (show _ = some (Value.slice ya6_0 xr0_0.length yc6_0) from rfl)
    have p_X2_1 := (cell_of_row v18 _ 1 _ _ _ X2.out).trans (show _ = some (Value.int .i64 ar0_1) from rfl)
    go_wp2_with fail
    clear p_X2_0 p_X2_1
    refine (heldStore_T ar0_1 (.slice ya6_0 xr0_0.length yc6_0) xr0_0 (1) v18 (slO_reads tVersionS_law P6_0.out) Z0_0.out MR0.out.1 (by have := MR0.out.2; omega)).mono ?_
    rintro e v19 ⟨rfl, c19⟩
    replace X1 := Lib.hid ((c19.block v3.heap.size (Array.getElem?_eq_some_iff.1 X1.out).1).trans X1.out)
    replace X2 := Lib.hid ((c19.block v6.heap.size (Array.getElem?_eq_some_iff.1 X2.out).1).trans X2.out)
    replace X3 := Lib.hid ((c19.block v16.heap.size (Array.getElem?_eq_some_iff.1 X3.out).1).trans X3.out)
    replace P2 := Lib.hid (slO_fresh tRow_law P2.out c19)
    replace P3_0 := Lib.hid (slO_fresh tVersionS_law P3_0.out c19)
    replace P6_0 := Lib.hid (slO_fresh tVersionS_law P6_0.out c19)
    replace P15 := Lib.hid (slO_fresh tRow_law P15.out c19)
    replace P16_0 := Lib.hid (slO_fresh tVersionS_law P16_0.out c19)
    replace d := Lib.hid (d.out.trans (c19.mono d.out.size))
    have Z_v19 := Lib.hid (show v18.heap.size ≤ v19.heap.size from c19.size)
    clear c19
    go_wp2
    go_ret
    exact ⟨rfl, d.out⟩
  ·
    have HZ0 : Hid ((1048576 : Int) < ((zL tRow x0_0 : Nat) : Int)) := Lib.hid (by omega)
    have HP0 : Hid (0 ≤ (1048576 : Int)) := Lib.hid (by omega)
    have HK0 : Hid ((1048576 : Int) ≤ 1048576) := Lib.hid (by omega)
    clear c0
    go_enter Try.func7, Try.ntmps7
    go_wp2_with fail
    have d := Lib.hid (Below.refl w.heap.size w)
    refine (szRowS_N (.slice c0_0 x0_0.length k0_0) x0_0 ((1048576 : Int)) w (slR_below tRow_law A0_0.out d.out) HZ0.out HK0.out HP0.out O0_0.out).mono ?_
    rintro e v1 ⟨rfl, c1⟩
    replace d := Lib.hid (d.out.trans (c1.mono d.out.size))
    have Z_v1 := Lib.hid (show w.heap.size ≤ v1.heap.size from c1.size)
    clear c1
    go_wp2
    go_ret
    exact ⟨rfl, d.out⟩
end Go.Proofs.Ythiiaiholcfhhaa
namespace Go.Proofs.Ythiiaiholcfhhaa
open Go.ChangeShapes Go.WideShapes Go.ChangeAt Go.WideMaps Go.WideElems Go.RowKit
set_option linter.unusedVariables false
theorem laidOutP : laidOutB Try.prog = true := by kernel_rfl
end Go.Proofs.Ythiiaiholcfhhaa
namespace Go.Proofs.Ythiiaiholcfhhaa
open Go.ChangeShapes Go.WideShapes Go.ChangeAt Go.WideMaps Go.WideElems Go.RowKit
set_option linter.unusedVariables false
/-- Cells that the statement reads as a value of the type t are a datum of the kind T. -/
def Opn {α : Type} (T : Ty α) (t : TypeId) : Prop := ∀ {H : Type} {enc : TypeId × Value → H} {W : World} {held : Bool} {fuel : Nat} {cs : List Value} {x : DataW H × List MemPlace}, DataW.trod enc Try.prog W 0 (fun _ => true) held fuel t cs = some x → ∃ d, T.R W cs d ∧ T.ok d
theorem opn_int : Opn tInt 3 := by
  intro H enc W held fuel cs x h
  obtain ⟨a, e, _, _⟩ := DataW.trod_int Try.underlying3 h
  exact ⟨a, e, trivial⟩
theorem opn_cast {α : Type} {T : Ty α} {t : TypeId} (O : Opn T t) {H : Type} {enc : TypeId × Value → H} {W : World} {held : Bool} {fuel : Nat} {cs : List Value} {o k : Nat} {x : Option (DataW H × List MemPlace)} (hx : x.isSome) (h : DataW.trod enc Try.prog W 0 (fun _ => true) held fuel t ((cs.drop o).take k) = x) :
    ∃ d, T.R W ((cs.drop o).take k) d ∧ T.ok d := by
  cases x with
  | none => cases hx
  | some y => exact O h
set_option maxRecDepth 100000 in
theorem opn_slice {α : Type} {T : Ty α} (A : T.Law) {e t : TypeId} (e' : TypeId) (O : Opn T e) (hu : Try.prog.underlying t = some (.slice e)) (hC : Try.prog.cellsOf e = T.n) : Opn (tSl e' T) t := by
  intro H enc W held fuel cs x hf
  rcases Go.Deep.open_slice hu hf with ⟨rfl, _⟩ | ⟨a', len', cap', m, n, D, Pl, rfl, _, hl, hm, hmm, _, hx⟩
  · exact ⟨[], ⟨_, rfl, Or.inl ⟨rfl, none, 0, rfl⟩⟩, by simp, fun j hj => by simp at hj⟩
  · rw [if_pos rfl] at hmm
    subst hmm
    unfold maxLen at hm
    rw [hC] at hx
    have hpos := A.pos
    haveI : Inhabited α := ⟨T.d⟩
    obtain ⟨f, hf'⟩ := Go.Deep.choose_lt (α := α × List Value) (n := len') (p := fun i q => (∀ j, j < T.n → W.cell? ((a'.add (i * T.n)).add j) = q.2[j]?) ∧ T.R W q.2 q.1 ∧ T.ok q.1) (fun i hi => by
      obtain ⟨cs', h1, h2⟩ := hx i (by omega)
      obtain ⟨_, hlen, hc⟩ := World.cells?_some h1
      obtain ⟨d, hd, ho⟩ := O h2
      exact ⟨(d, cs'), hc, hd, ho⟩)
    have hat : ∀ j, j < len' → ((List.range len').map fun i => (f i).1).getD j T.d = (f j).1 := fun j hj => by simp [List.getD, hj]
    have hlen : ((List.range len').map fun i => (f i).1).length = len' := by simp
    refine ⟨(List.range len').map fun i => (f i).1, ⟨_, rfl, ?_⟩, by rw [hlen]; omega, fun j hj => by rw [hlen] at hj; rw [hat j hj]; exact (hf' j hj).2.2⟩
    by_cases h0 : len' = 0
    · subst h0
      exact Or.inl ⟨rfl, some a', _, rfl⟩
    · have h1 := (hf' 0 (by omega)).1 0 hpos
      have hcl : 0 < (f 0).2.length := by rw [A.len (hf' 0 (by omega)).2.1]; exact hpos
      rw [List.getElem?_eq_getElem hcl] at h1
      obtain ⟨b, off, spot⟩ := a'
      have hspot : spot = none := by simpa [Addr.add] using World.cell?_spot h1
      subst hspot
      refine Or.inr ⟨b, off, _, fun i => (f i).2, by rw [hlen], by rw [hlen]; exact hl, ?_, ?_⟩
      · have := World.block_lt_of_cell? W _ h1
        simpa [Addr.add] using this
      · intro j hj
        rw [hlen] at hj
        obtain ⟨g1, g2, _⟩ := hf' j hj
        rw [hat j hj]
        refine ⟨fun i hi => ?_, g2⟩
        have := g1 i hi
        rw [Go.WideShapes.add_plain, Go.WideShapes.add_plain] at this
        exact this
theorem opn_ints (e' : TypeId) : Opn (tSl e' tInt) 22 := opn_slice tInt_law e' opn_int Try.underlying22 (by kernel_rfl)
set_option maxRecDepth 100000 in
/-- A slice as an argument. -/
theorem slA_open {α : Type} {T : Ty α} {e e' t : TypeId} (O : Opn (tSl e' T) t) (hu : Try.prog.underlying t = some (.slice e)) {H : Type} {enc : TypeId × Value → H} {W : World} {r : Reach} {b0 : Nat} {v : Value} {d : DataW H} {p : List MemPlace}
    (hval : Value.okWide Try.prog W r b0 t v) (h : DataW.Trod enc Try.prog W 0 (fun _ => true) true t v d p) : ∃ xs, SlR T W v xs ∧ (tSl e' T).ok xs := by
  obtain ⟨a, len, cap, rfl⟩ := okWide_slice hu hval
  obtain ⟨fuel, hf⟩ := h
  obtain ⟨xs, ⟨v, e, h⟩, ho⟩ := O hf
  simp [Value.cells] at e
  subst e
  exact ⟨xs, h, ho⟩
end Go.Proofs.Ythiiaiholcfhhaa
namespace Go.Proofs.Ythiiaiholcfhhaa
open Go.ChangeShapes Go.WideShapes Go.ChangeAt Go.WideMaps Go.WideElems Go.RowKit
set_option linter.unusedVariables false
set_option maxRecDepth 100000 in
theorem opn_Row : Opn tRow 24 := by
  intro H enc W held fuel cs x h
  obtain ⟨xs, n, _, _, hl, hlen, hf⟩ := DataW.trod_struct Try.underlying24 h
  have hl2 : cs.length = 2 := hl.trans (by kernel_rfl)
  have hn : xs.length = 2 := hlen
  have f0 : DataW.trod enc Try.prog W 0 (fun _ => true) held n 3 ((cs.drop 0).take (Try.prog.cellsOf 3)) = xs[0]? := hf 0 _ rfl
  rw [show Try.prog.cellsOf 3 = 1 from by kernel_rfl] at f0
  obtain ⟨d0, r0, o0⟩ := opn_cast (opn_int) (by rw [List.getElem?_eq_getElem (by omega)]; rfl) f0
  have f1 : DataW.trod enc Try.prog W 0 (fun _ => true) held n 22 ((cs.drop 1).take (Try.prog.cellsOf 22)) = xs[1]? := hf 1 _ rfl
  rw [show Try.prog.cellsOf 22 = 1 from by kernel_rfl] at f1
  obtain ⟨d1, r1, o1⟩ := opn_cast (opn_ints 3) (by rw [List.getElem?_eq_getElem (by omega)]; rfl) f1
  exact ⟨(d0, d1), ⟨(cs.drop 0).take 1, cs.drop 1, (List.take_append_drop 1 cs).symm, r0, (by have e := List.take_of_length_le (l := cs.drop 1) (i := 1) (by rw [List.length_drop]; omega); rw [e] at r1; exact r1)⟩, ⟨o0, o1⟩⟩
end Go.Proofs.Ythiiaiholcfhhaa
namespace Go.Proofs.Ythiiaiholcfhhaa
open Go.ChangeShapes Go.WideShapes Go.ChangeAt Go.WideMaps Go.WideElems Go.RowKit
set_option linter.unusedVariables false
theorem recT_RowS : Try.prog.readableRec 63 = true := by kernel_rfl
theorem rowT_RowS : 63 < Try.prog.types.size := of_decide_eq_true (by kernel_rfl)
theorem opn_RowS : Opn tRowS 63 := opn_slice tRow_law _ opn_Row Try.underlying63 (by kernel_rfl)
set_option maxRecDepth 100000 in
theorem shut_RowS {H : Type} {enc : TypeId × Value → H} {W W' : World} {v : Value} {d : DataW H} {ps : List MemPlace} (h : DataW.Trod enc Try.prog W 0 (fun _ => true) true 63 v d ps) (hb : Below W.heap.size W W') (hlt : ∀ x ∈ ps, x.block < W.heap.size) :
    DataW.Trod enc Try.prog W' 0 (fun b => decide (b < W.heap.size)) true 63 v d ps := Below.trod laidOutP recT_RowS rowT_RowS h hb hlt
end Go.Proofs.Ythiiaiholcfhhaa
