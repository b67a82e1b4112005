/-
 Texts of the proof, merged: CopyStoreX, UpdMath2, UpdP3, UpdP4, RowEqP, UpdP1, UpdP1u, UpdEqP.
-/
import Derived.Test.YthiiaiholcfhhaaUC2
import Derived.Test.YthiiaiholcfhhaaUC3
import Derived.Test.YthiiaiholcfhhaaUC4
import Derived.Test.YthiiaiholcfhhaaUC5
import Derived.Test.YthiiaiholcfhhaaUC6
import Derived.Test.YthiiaiholcfhhaaUC8
import Derived.Deep.Cut
namespace Go.Proofs.Ythiiaiholcfhhaa
open Go.RowKit
set_option linter.unusedVariables false
set_option linter.unusedSimpArgs false
def FreshSX (w : World) (ss : List (List VerD)) (now : Int) (e : Ending) (w' : World) : Prop := ∃ (a : Option Addr) (c : Nat), e = .returned (.agg #[.slice a ss.length c, .int .i64 now]) ∧ SlO 89 tX w' (since w) (.slice a ss.length c) ss ∧ Below w.heap.size w w'
set_option maxHeartbeats 8000000 in
set_option maxRecDepth 100000 in
theorem copyEachVersionSX (v : Value) (xs : List (List (Int × List Int × Int × Int))) (w : World) (h : SlR tVersionS w v xs) (hs : zL tVersionS xs ≤ 1048576) :
  Calls Try.prog 84 #[v, .func (.func 85) #[] #[]] w (FreshS 89 tX w xs) := by
 obtain ⟨i0, hi, hz0, hz1⟩ : ∃ i0, Try.prog.info? 89 = some i0 ∧ i0.zero = some (.slice none 0 0) ∧ i0.size = 1 := by
  have h0 := Try.info_VersionS
  cases q : Try.prog.info? 89 with
  | none => rw [q] at h0; simp at h0
  | some i => rw [q] at h0; simp only [Option.map_some, Option.some.injEq, Prod.mk.injEq] at h0; exact ⟨i, rfl, h0.1, h0.2⟩
 have hz2 : i0.bytes ≤ 512 := by
  have h0 := Try.bytes_VersionS
  rw [hi] at h0
  simpa using h0
 have HI := Lib.hid hi; have HZ0 := Lib.hid hz0; have HZ1 := Lib.hid hz1; have HZ2 := Lib.hid hz2
 clear hi hz0 hz1 hz2
 have H := Lib.hid h
 have hlen := zL_len hs
 have HS := Lib.hid hs
 obtain ⟨a, cap, rfl⟩ := slR_len h
 clear h hs
 go_enter Try.func84, Try.ntmps84
 go_wp2_with (at_make; refine wpList_make_full _ rfl (.tmp 9) (.tmp 9) 39 rfl w.heap.size 89 i0 (.slice none 0 0) 1 Try.underlying39 HI.out HZ0.out HZ1.out _ _ _ _ xs.length rfl rfl rfl rfl (by have h9 := Nat.mul_le_mul HZ2.out hlen; have h8 := Nat.mul_le_mul hlen HZ2.out; omega) (by unfold maxLen; omega) (Nat.le_refl _) ?_)
 intro w1 hown0 hg0
 have hown1 : SlO 89 tX w1 (since w) (.slice (some ⟨w.heap.size, 0, none⟩) xs.length xs.length) (List.replicate xs.length tVersionS.d) := slO_made (z := #[.slice none 0 0]) tX_law rfl (tX_zero w1) (Nat.le_refl _) (by rw [show xs.length * tX.n = xs.length from Nat.mul_one _]; exact hown0)
 have hbel1 := (Below.refl w.heap.size w).grown hg0 (Nat.le_refl _) (fun k hk => by cases hk)
 clear hown0 hg0
 go_wp2
 go_loopw [13] (fun i wr => ∃ k : Nat, k ≤ xs.length ∧ i = .int .i64 k ∧ SlO 89 tX wr (since w) (.slice (some ⟨w.heap.size, 0, none⟩) xs.length xs.length) (xs.take k ++ List.replicate (xs.length - k) tVersionS.d) ∧ Below w.heap.size w wr) (fun i _ => xs.length - (intOf i).toNat)
 case atStart => exact ⟨0, Nat.zero_le _, rfl, by simpa using hown1, hbel1⟩
 case round =>
  obtain ⟨k, hk, rfl, hown, hbel⟩ := hrel
  by_cases hlt : k < xs.length
  ·
   have HSET := Lib.hid (cTo_step (d := tVersionS.d) hlt)
   have HKL : Hid (k < (xs.take k ++ List.replicate (xs.length - k) tVersionS.d).length) := Lib.hid (by rw [cTo_len hk]; exact hlt)
   have HLL := Lib.hid (cTo_len (d := tVersionS.d) hk)
   have i1 : (0 : Int) ≤ (k : Int) := by omega
   have i2 : (k : Int) < (xs.length : Int) := by omega
   have hzx := zL_at HS.out hlt
   obtain ⟨b, off, cap', cs, hv, hbl, hcs, hR⟩ := slR_at (slR_below tVersionS_law H.out hbel) hlt
   simp only [Value.slice.injEq] at hv
   obtain ⟨rfl, _, rfl⟩ := hv
   obtain ⟨hme, hFg, hgl, cj, Fj, Lc, hrow, hLc, hO, hFj, hput⟩ := slO_open tX_law hown HKL.out
   clear hme
   clear hown1 hbel1
   generalize xs.getD k tVersionS.d = x at *
   generalize xs.take k ++ List.replicate (xs.length - k) tVersionS.d = ys at *
   obtain ⟨u, rfl, h0⟩ := hR
   have p0 : wr.cell? ⟨b, off + k, none⟩ = some u := by have := hcs 0 Nat.one_pos; rw [show tVersionS.n = 1 from rfl, Nat.mul_one, Nat.add_zero] at this; exact this
   have HC := Lib.hid (fun w g => copyVersions_X u x w g hzx)
   have G0 := Lib.hid h0
   clear hcs h0
   go_wp2_with fail
   refine (HC.out _ G0.out).mono ?_
   rintro e w2 ⟨g2, rfl, ow0, b2⟩
   replace ow0 := slO_lt tVersion_law ow0
   have ow : tX.O w2 (fun b => since wr b ∧ b < w2.heap.size) [.slice (some ⟨g2, 0, none⟩) x.length x.length] x := ⟨_, rfl, ow0⟩
   have r0 := row_turn (G := fun _ => False) hrow (turn_below b2) (fun _ _ => not_false)
   rw [HLL.out] at r0
   have q0 : ∃ x, w2.cell? ⟨w.heap.size, k, none⟩ = some x := ⟨_, (World.ownsRow.cellAt r0 (k) (by have := HKL.out; rw [HLL.out] at this; show _ < xs.length * 1; omega)).trans (List.getElem?_eq_getElem (by have h1 : Lc.length = xs.length * 1 := r0.1; omega))⟩
   obtain ⟨y0, q0⟩ := q0
   have f0 := World.ownsRow.frozenAt r0 (k)
   have b3 := hbel.trans (b2.mono hbel.size)
   have B3 := Lib.hid (b3.setCell (p := ⟨w.heap.size, k, none⟩) (Nat.le_refl _) (.slice (some ⟨g2, 0, none⟩) x.length x.length))
   have hT : Turn (fun b => b = w.heap.size ∨ Fj b ∨ wr.heap.size ≤ b) wr (w2.setCell ⟨w.heap.size, k, none⟩ (.slice (some ⟨g2, 0, none⟩) x.length x.length)) := ((turn_below b2).trans (turn_set (j := k) (u := .slice (some ⟨g2, 0, none⟩) x.length x.length) (Or.inl rfl)))
   have hT2 : Turn (fun b => b = w.heap.size) w2 (w2.setCell ⟨w.heap.size, k, none⟩ (.slice (some ⟨g2, 0, none⟩) x.length x.length)) := ((Turn.refl (fun b => b = w.heap.size) _).trans (turn_set (G := fun b => b = w.heap.size) (j := k) (u := .slice (some ⟨g2, 0, none⟩) x.length x.length) rfl))
   have hO2 := tX_law.turn ow hT2 (fun b h1 h2 => by have := h1.1; simp only [since] at this; omega)
   have r9 := (World.ownsRow.stored r0 (k) (.slice (some ⟨g2, 0, none⟩) x.length x.length)).1
   have hLl : Lc.length = xs.length * 1 := r0.1
   have hst := Lib.hid (hput (w2.setCell ⟨w.heap.size, k, none⟩ (.slice (some ⟨g2, 0, none⟩) x.length x.length)) (Lc.set (k) (.slice (some ⟨g2, 0, none⟩) x.length x.length)) [.slice (some ⟨g2, 0, none⟩) x.length x.length] _ x (by rw [HLL.out]; exact r9) (fun p hp => by have hp2 : p < k * 1 ∨ k * 1 + 1 ≤ p := hp; rw [List.getElem?_set_ne (by omega)]) (fun i hi => by have hi2 : i < 1 := hi; obtain rfl : i = 0 := (by omega); have e0 : k * tX.n + 0 = k := (by show k * 1 + 0 = k; omega); rw [e0]; exact List.getElem?_set_self (by omega)) hO2 (fun b hb => ⟨Nat.le_trans hbel.size hb.1, Or.inr hb.1⟩) hT)
   have hst2 : SlO 89 tX (w2.setCell ⟨w.heap.size, k, none⟩ (.slice (some ⟨g2, 0, none⟩) x.length x.length)) (since w) (.slice (some ⟨w.heap.size, 0, none⟩) xs.length xs.length) (xs.take (k + 1) ++ List.replicate (xs.length - (k + 1)) tVersionS.d) := by have := hst.out; rw [HSET.out] at this; exact this
   have HST := Lib.hid hst2
   clear hst hst2 hT hT2 hO2 r9 r0 hrow hO hput hown hbel b2 ow b3 hLl hLc hFj
   go_wp2
   go_roundw
   case rel => exact ⟨k + 1, by omega, by go_num, HST.out, B3.out⟩
   case measure => simp [intOf]; omega
  ·
   obtain rfl : k = xs.length := by omega
   have HE : Hid (xs.take xs.length ++ List.replicate (xs.length - xs.length) tVersionS.d = xs) := Lib.hid (by simp)
   rw [HE.out] at hown
   go_wp2
   go_ret
   exact ⟨_, rfl, hown, hbel⟩
set_option maxHeartbeats 8000000 in
set_option maxRecDepth 100000 in
theorem copyStore_X (a1 : Int) (v0 : Value) (x0 : List (List (Int × List Int × Int × Int))) (w : World) (h0 : SlR tVersionS w v0 x0) (s0 : zL tVersionS x0 ≤ 1048576) :
  Calls Try.prog 57 #[.agg #[v0, .int .i64 a1]] w (FreshSX w x0 a1) := by
 obtain ⟨sa0, sc0, rfl⟩ := slR_len h0
 have H := Lib.hid (fun w h => copyEachVersionSX (.slice sa0 x0.length sc0) x0 w h s0)
 have HV := Lib.hid h0
 clear h0 s0
 have d := Lib.hid (((Below.refl w.heap.size w).alloc (Nat.le_refl _) (.cells #[.slice sa0 x0.length sc0, .int .i64 a1] 41)).alloc (by simp) (.cells #[.slice none 0 0, .int .i64 0] 41))
 have B0 : Hid (((w.alloc (.cells #[.slice sa0 x0.length sc0, .int .i64 a1] 41)).alloc (.cells #[.slice none 0 0, .int .i64 0] 41)).heap[w.heap.size]? = some (.cells #[.slice sa0 x0.length sc0, .int .i64 a1] 41 (0, 0))) := Lib.hid (by rw [Below.heap_alloc _ _ _ (by simp)]; exact heap_alloc_new w _)
 have B1 : Hid (((w.alloc (.cells #[.slice sa0 x0.length sc0, .int .i64 a1] 41)).alloc (.cells #[.slice none 0 0, .int .i64 0] 41)).heap[(w.heap.size + 1)]? = some (.cells #[.slice none 0 0, .int .i64 0] 41 (0, 0))) := Lib.hid (by
  have := heap_alloc_new (w.alloc (.cells #[.slice sa0 x0.length sc0, .int .i64 a1] 41)) (.cells #[.slice none 0 0, .int .i64 0] 41)
  simpa only [World.size_alloc] using this)
 have YW : Hid (w.heap.size + 1 < ((w.alloc (.cells #[.slice sa0 x0.length sc0, .int .i64 a1] 41)).alloc (.cells #[.slice none 0 0, .int .i64 0] 41)).heap.size) := Lib.hid (by simp)
 go_enter Try.func57, Try.ntmps57
 go_wp2_with fail
 generalize ((w.alloc (.cells #[.slice sa0 x0.length sc0, .int .i64 a1] 41)).alloc (.cells #[.slice none 0 0, .int .i64 0] 41)) = W at *
 refine (H.out W (slR_below tVersionS_law HV.out d.out)).mono ?_
 rintro e w1 ⟨u, rfl, o1, c1⟩
 replace o1 := slO_lt tX_law o1
 obtain ⟨ua, uc, rfl⟩ := slO_len o1
 replace B0 := Lib.hid ((c1.block w.heap.size (Array.getElem?_eq_some_iff.1 B0.out).1).trans B0.out)
 replace B1 := Lib.hid ((c1.block (w.heap.size + 1) (Array.getElem?_eq_some_iff.1 B1.out).1).trans B1.out)
 have P1 := Lib.hid o1
 have y0 := YW.out; have yc := c1.size
 have Q1 : Hid (∀ b, (since W b ∧ b < w1.heap.size) → w.heap.size + 1 < b) := Lib.hid (fun b h => Nat.lt_of_lt_of_le y0 h.1)
 replace d := Lib.hid (d.out.trans (c1.mono d.out.size))
 replace YW : Hid (w.heap.size + 1 < w1.heap.size) := Lib.hid (Nat.lt_of_lt_of_le y0 yc)
 clear o1 c1 y0 yc
 have p0 := (cell_of_row w1 _ 0 _ _ _ B0.out).trans (show _ = some (Value.slice sa0 x0.length sc0) from rfl)
 have f0 := frozen_of_row w1 _ 0 _ _ B0.out
 have tt : Turn (fun b => b = w.heap.size) w1 (w1.setCell ⟨w.heap.size, 0, none⟩ (.slice ua x0.length uc)) := turn_set (G := fun b => b = w.heap.size) (g := w.heap.size) (j := 0) (u := .slice ua x0.length uc) rfl
 have r := heap_setCell_same w1 w.heap.size 0 _ _ (.slice ua x0.length uc) B0.out
 simp at r
 have y1 := YW.out
 have K0 : Hid ((w1.setCell ⟨w.heap.size, 0, none⟩ (.slice ua x0.length uc)).heap[w.heap.size]? = some (.cells #[.slice ua x0.length uc, .int .i64 a1] 41 (0, 0))) := Lib.hid r
 have K1 := Lib.hid ((tt.block (w.heap.size + 1) (Array.getElem?_eq_some_iff.1 B1.out).1 (fun h => by omega)).trans B1.out)
 have KP1 := Lib.hid (slO_turn tX_law P1.out tt (fun b h1 h2 => by have := Q1.out b h1; omega))
 have kd := Lib.hid (below_turn d.out tt (fun b h => by omega) d.out.size)
 have KY : Hid (w.heap.size + 1 < (w1.setCell ⟨w.heap.size, 0, none⟩ (.slice ua x0.length uc)).heap.size) := Lib.hid (Nat.lt_of_lt_of_le y1 tt.size)
 clear tt r y1 B0 B1 d YW P1
 generalize hW : (w1.setCell ⟨w.heap.size, 0, none⟩ (.slice ua x0.length uc)) = WF at *
 have c0 := (cell_of_row WF _ 0 _ _ _ K0.out).trans (show _ = some (Value.slice ua x0.length uc) from rfl)
 have c1 := (cell_of_row WF _ 1 _ _ _ K0.out).trans (show _ = some (Value.int .i64 a1) from rfl)
 have z0 := (cell_of_row WF _ 0 _ _ _ K1.out).trans (show _ = some (Value.slice none 0 0) from rfl)
 have g0 := frozen_of_row WF _ 0 _ _ K1.out
 have z1 := (cell_of_row WF _ 1 _ _ _ K1.out).trans (show _ = some (Value.int .i64 0) from rfl)
 have g1 := frozen_of_row WF _ 1 _ _ K1.out
 have y1 := KY.out
 have DF := Lib.hid ((kd.out.setCell (p := ⟨w.heap.size + 1, 0, none⟩) (by simp) (.slice ua x0.length uc)).setCell (p := ⟨w.heap.size + 1, 1, none⟩) (by simp) (.int .i64 a1))
 have r := (heap_setCell_same _ (w.heap.size + 1) 1 _ _ (.int .i64 a1) (heap_setCell_same WF (w.heap.size + 1) 0 _ _ (.slice ua x0.length uc) K1.out))
 simp at r
 have e0 := (cell_of_row _ (w.heap.size + 1) 0 _ _ _ r).trans (show _ = some (Value.slice ua x0.length uc) from rfl)
 have e1 := (cell_of_row _ (w.heap.size + 1) 1 _ _ _ r).trans (show _ = some (Value.int .i64 a1) from rfl)
 have tt : Turn (fun b => b = w.heap.size + 1) WF ((WF.setCell ⟨w.heap.size + 1, 0, none⟩ (.slice ua x0.length uc)).setCell ⟨w.heap.size + 1, 1, none⟩ (.int .i64 a1)) := ((Turn.refl (fun b => b = w.heap.size + 1) _).trans (turn_set (G := fun b => b = w.heap.size + 1) (g := w.heap.size + 1) (j := 0) (u := .slice ua x0.length uc) rfl)).trans (turn_set (G := fun b => b = w.heap.size + 1) (g := w.heap.size + 1) (j := 1) (u := .int .i64 a1) rfl)
 have PF1 := Lib.hid (slO_turn tX_law KP1.out tt (fun b h1 h2 => by have := Q1.out b h1; omega))
 clear r tt KY K1 kd y1 K0 KP1
 subst hW
 go_wp2
 refine bodyPost_ret (v := .agg #[.slice ua x0.length uc, .int .i64 a1]) ?_ rfl ⟨ua, uc, rfl, slO_mono PF1.out (fun b h => by have := Q1.out b h; show w.heap.size ≤ b; omega), DF.out⟩
 simp [results, Try.f57, go_sem, e0, e1]
/-- What an owned slice owns, element by element. -/
theorem slO_each {α : Type} {T : Ty α} (A : T.Law) {e : TypeId} {w : World} {F : Nat → Prop} {v : Value} {xs : List α} (h : SlO e T w F v xs) :
  ∃ (us : Nat → List Value) (Fs : Nat → Nat → Prop), (∀ j, j < xs.length → T.O w (Fs j) (us j) (xs.getD j T.d) ∧ (∀ b, Fs j b → F b ∧ b < w.heap.size) ∧ ∀ g n cap, v = .slice (some ⟨g, 0, none⟩) n cap → ∀ i, i < T.n → w.cell? ⟨g, j * T.n + i, none⟩ = (us j)[i]?) ∧ ∀ i j, i < xs.length → j < xs.length → i ≠ j → ∀ b, Fs i b → ¬ Fs j b := by
 obtain ⟨L, us, Fs, h1, h2, h3, h4⟩ := slO_lt A h
 refine ⟨us, Fs, fun j hj => ⟨(h3 j hj).2.1, fun b hb => ((h3 j hj).2.2 b hb).1, fun g n cap hv i hi => ?_⟩, h4⟩
 subst hv
 have hlt : j * T.n + i < xs.length * T.n := by
  have : (j + 1) * T.n ≤ xs.length * T.n := Nat.mul_le_mul_right _ hj
  rw [Nat.add_mul, Nat.one_mul] at this; omega
 rcases h1.2 with ⟨h', _⟩ | ⟨g', cap', cur', h', _⟩
 ·
  simp at h'
 ·
  simp only [Value.slice.injEq, Option.some.injEq, Addr.mk.injEq] at h'
  obtain ⟨_, rfl, _⟩ := h'
  rw [World.ownsRow.cellAt h1 _ hlt]
  exact (h3 j hj).1 i hi
theorem ls_X {w : World} {F : Nat → Prop} {v : Value} {ss : List (List VerD)} (h : SlO 89 tX w F v ss) :
  ∃ (us : List SegV) (Fs : Nat → Nat → Prop), LsR w v us ∧ SegsR w us ss ∧ (∀ j, j < ss.length → SlO 88 tVersion w (Fs j) (cutV (us.getD j s0V)) (ss.getD j []) ∧ ∀ b, Fs j b → F b ∧ b < w.heap.size) ∧ ∀ i j, i < ss.length → j < ss.length → i ≠ j → ∀ b, Fs i b → ¬ Fs j b := by
 obtain ⟨us, hls, hsr⟩ := slR_ls (slO_reads tVersionS_law (slO_X h))
 obtain ⟨cs, Fs, he, hd⟩ := slO_each tX_law h
 refine ⟨us, Fs, hls, hsr, fun j hj => ⟨?_, (he j hj).2.1⟩, hd⟩
 obtain ⟨b, off, cap, hv, _, hc, _⟩ := lsR_at hls (k := j) (by rw [hsr.1]; exact hj)
 rcases slO_form h with ⟨_, e0⟩ | ⟨g, cap', hg, _, _⟩
 ·
  rw [e0] at hj; simp at hj
 ·
  obtain ⟨h1, _, h3⟩ := he j hj
  obtain ⟨a, e, h2⟩ := h1
  rw [hg] at hv
  simp only [Value.slice.injEq, Option.some.injEq, Addr.mk.injEq] at hv
  obtain ⟨⟨rfl, rfl, _⟩, _, _⟩ := hv
  have h4 := h3 g _ _ hg 0 (by decide)
  rw [show tX.n = 1 from rfl, Nat.mul_one, Nat.add_zero, e] at h4
  rw [Nat.zero_add, h4] at hc
  have h5 : Value.slice a (ss.getD j []).length (ss.getD j []).length = segV (us.getD j s0V) := Option.some.inj hc
  have h6 : cutV (us.getD j s0V) = Value.slice a (ss.getD j []).length (ss.getD j []).length := by
   unfold segV at h5
   unfold cutV
   simp only [Value.slice.injEq] at h5
   obtain ⟨q1, q2, q3⟩ := h5
   rw [← q1, ← q2]
  rw [h6]
  exact h2
theorem tab_of {w0 w : World} {F : Nat → Prop} {B g : Nat} {bs : List Nat} {us : List SegV} {ss : List (List VerD)} {Fs : Nat → Nat → Prop} (ho : w.ownsRow B 102 1 (.slice (some ⟨g, 0, none⟩) us.length us.length) us.length (bs.map ptrV)) (ht : TabN B w g bs us) (hl : us.length = ss.length)
  (hX : ∀ j, j < ss.length → SlO 88 tVersion w0 (Fs j) (cutV (us.getD j s0V)) (ss.getD j []) ∧ ∀ b, Fs j b → F b ∧ b < w0.heap.size) (hd : ∀ i j, i < ss.length → j < ss.length → i ≠ j → ∀ b, Fs i b → ¬ Fs j b) (hb : Below w0.heap.size w0 w) (hB : w0.heap.size ≤ B) :
  SlO 102 tSegP w (fun b => (F b ∧ b < w0.heap.size) ∨ B ≤ b) (.slice (some ⟨g, 0, none⟩) ss.length ss.length) ss := by
 obtain ⟨h1, h2, h3, h4, h5⟩ := ht
 rw [hl] at ho h3 h4 h5
 refine ⟨bs.map ptrV, fun j => [ptrV (bs.getD j 0)], fun j b => b = bs.getD j 0 ∨ Fs j b, row_low ho (Nat.zero_le _), fun b hb => ?_, fun j hj => ?_, fun i j hi hj hij b q1 q2 => ?_⟩
 ·
  simp [Value.ownBlock] at hb; right; omega
 ·
  obtain ⟨_, g2, g3⟩ := h4 j hj
  obtain ⟨x1, x2⟩ := hX j hj
  refine ⟨fun i hi => ?_, ⟨bs.getD j 0, cutV (us.getD j s0V), Fs j, rfl, Or.inl rfl, g2, slO_fresh tVersion_law x1 hb, fun k q => Or.inr q, fun q => by have := (x2 _ q).2; omega⟩, fun b hb => ?_⟩
  ·
   have hi0 : i = 0 := by have : i < 1 := hi; omega
   subst hi0
   rw [show tSegP.n = 1 from rfl, Nat.mul_one, Nat.add_zero, List.getElem?_map]
   simp [List.getD, show j < bs.length by omega]
  ·
   rcases hb with rfl | hb
   ·
    refine ⟨Or.inr (by omega), fun q => ?_⟩
    simp only [Value.ownBlock, Option.some.injEq] at q
    omega
   ·
    refine ⟨Or.inl (x2 b hb), fun q => ?_⟩
    simp only [Value.ownBlock, Option.some.injEq] at q
    have := (x2 b hb).2
    omega
 ·
  obtain ⟨_, _, gi⟩ := h4 i hi
  obtain ⟨_, _, gj⟩ := h4 j hj
  rcases q1 with q1 | q1 <;> rcases q2 with q2 | q2
  ·
   exact h5 i j hi hj hij (by rw [← q1, ← q2])
  ·
   have := ((hX j hj).2 b q2).2; omega
  ·
   have := ((hX i hi).2 b q1).2; omega
  ·
   exact hd i j hi hj hij b q1 q2
def AliveP (w : World) (g : Nat) (ss : List (List VerD)) (id : Int) (e : Ending) (w' : World) : Prop := (∃ (b q off c : Nat), w.cell? ⟨g, segI ss id, none⟩ = some (ptrV b) ∧ w.heap[b]? = some (segCells (.slice (some ⟨q, off, none⟩) (ss.getD (segI ss id) []).length c)) ∧ e = .returned (.pointer (some ⟨q, off + verI (ss.getD (segI ss id) []) id * 4, none⟩))) ∧ w' = w
def RoomP (w : World) (g : Nat) (ss : List (List VerD)) (e : Ending) (w' : World) : Prop := (∃ b, w.cell? ⟨g, roomI ss, none⟩ = some (ptrV b) ∧ e = .returned (ptrV b)) ∧ w' = w
def CheckNO (w : World) (us : List SegV) (e : Ending) (w' : World) : Prop := ∃ g bs, e = .returned (.tuple #[.slice (some ⟨g, 0, none⟩) us.length us.length, .bool true]) ∧ w'.ownsRow w.heap.size 102 1 (.slice (some ⟨g, 0, none⟩) us.length us.length) us.length (bs.map ptrV) ∧ TabN w.heap.size w' g bs us ∧ Below w.heap.size w w'
set_option maxHeartbeats 8000000 in
set_option maxRecDepth 100000 in
theorem checkStore_own (sv : Value) (ss : List (List VerD)) (now : Int) (us : List SegV) (w : World) (h : SlR tVersionS w sv ss) (hs : zL tVersionS ss ≤ 1048576) (hst : storeB ss now = true) (hls : LsR w sv us) (hsr : SegsR w us ss) :
  Calls Try.prog 58 #[.agg #[sv, .int .i64 now]] w (CheckNO w us) := by
 have HUL := Lib.hid hsr.1
 obtain ⟨a, cap, rfl⟩ := slR_len h
 have hlen := zL_len hs
 have HSS := Lib.hid hs
 have H := Lib.hid h
 have HLS := Lib.hid hls
 have HSR := Lib.hid hsr
 have d0 := Lib.hid (show Below w.heap.size w (w.alloc (.cells #[.slice a ss.length cap, .int .i64 now] 41)) from (Below.refl _ _).alloc (Nat.le_refl _) _)
 have B0 : Hid ((w.alloc (.cells #[.slice a ss.length cap, .int .i64 now] 41)).heap[w.heap.size]? = some (.cells #[.slice a ss.length cap, .int .i64 now] 41 (0, 0))) := Lib.hid (heap_alloc_new w _)
 have Y0 : Hid (w.heap.size < (w.alloc (.cells #[.slice a ss.length cap, .int .i64 now] 41)).heap.size) := Lib.hid (by simp [World.size_alloc])
 have HI := Lib.hid (fun W g => implIsStore (.slice a ss.length cap) ss now W g HSS.out)
 rw [hst] at HI
 clear hls hsr h hs hst
 go_enter Try.func58, Try.ntmps58
 go_wp2_with fail
 generalize w.alloc (.cells #[.slice a ss.length cap, .int .i64 now] 41) = W at *
 refine (HI.out W (slR_below tVersionS_law H.out d0.out)).mono ?_
 rintro e w1 ⟨rfl, b1⟩
 have D1 := Lib.hid (d0.out.trans (b1.mono d0.out.size))
 have k0 := (b1.block w.heap.size Y0.out).trans B0.out
 have p0 := (cell_of_row w1 _ 0 _ _ _ k0).trans (show _ = some (Value.slice a ss.length cap) from rfl)
 clear b1 k0
 go_wp2_with fail
 refine (tableOf_own (.slice a ss.length cap) us w1 (lsR_below HLS.out D1.out) (by have := HUL.out; omega)).mono ?_
 rintro e w2 ⟨g, bs, rfl, ho, ht, b2⟩
 have HO : Hid (w2.ownsRow w.heap.size 102 1 (.slice (some ⟨g, 0, none⟩) us.length us.length) us.length (bs.map ptrV)) := Lib.hid (by
  refine ⟨ho.1, ?_⟩
  rcases ho.2 with q | ⟨g9, cap9, cur9, e9, hb9, rest9⟩
  ·
   exact .inl q
  ·
   exact .inr ⟨g9, cap9, cur9, e9, Nat.le_trans D1.out.size hb9, rest9⟩)
 have D2 := Lib.hid (D1.out.trans (b2.mono D1.out.size))
 have HT := Lib.hid ht
 clear ho ht b2 p0
 go_wp2
 go_ret2
 exact ⟨g, bs, rfl, HO.out, ⟨Nat.le_trans D1.out.size HT.out.1, HT.out.2⟩, D2.out⟩
set_option maxHeartbeats 16000000 in
set_option maxRecDepth 100000 in
theorem alive_none (g n : Nat) (F : Nat → Prop) (ss : List (List VerD)) (id : Int) (w : World) (h : SlO 102 tSegP w F (.slice (some ⟨g, 0, none⟩) n n) ss) (hn : n = ss.length) (h8 : n ≤ 1048576) (hs : ∀ j, j < n → (ss.getD j []).length ≤ 1048576) (hsg : ¬ segI ss id < n) :
  Calls Try.prog 142 #[.slice (some ⟨g, 0, none⟩) n n, .int .i64 id] w fun e w' => e = .returned (.pointer none) ∧ w' = w := by
 obtain ⟨hg, bs, vs, Fs, hp, hd⟩ := tab_parts h hn
 have HP := Lib.hid hp
 have HSS := Lib.hid hs
 have HNO : Hid (∀ j, j < n → ∀ q, q < (ss.getD j []).length → aliveB id ((ss.getD j []).getD q v0D) = false) := Lib.hid (fun j hj q hq => by
  have := no_alive (ss := ss) (id := id) (by rw [← hn]; exact hsg)
  refine this _ (List.mem_flatten.2 ⟨ss.getD j [], ?_, ?_⟩)
  ·
   have hj2 : j < ss.length := by omega
   have e : ss.getD j [] = ss[j] := by simp [List.getD, hj2]
   rw [e]; exact List.getElem_mem hj2
  ·
   have e : ∀ (l : List VerD) (hq : q < l.length), l.getD q v0D ∈ l := fun l hq => by
    have e2 : l.getD q v0D = l[q] := by simp [List.getD, hq]
    rw [e2]; exact List.getElem_mem hq
   exact e _ hq)
 clear h hp hd hn hs hsg hg
 go_enter Try.func142, Try.ntmps142
 go_wp2
 go_loop [11] (fun i => ∃ k : Nat, k ≤ n ∧ i = .int .i64 k) (fun i => n - (intOf i).toNat)
 case atStart => exact ⟨0, Nat.zero_le _, rfl⟩
 case round =>
  obtain ⟨k, hk, rfl⟩ := hrel
  by_cases hlt : k < n
  ·
   have i1 : (0 : Int) ≤ (k : Int) := by omega
   have i2 : (k : Int) < (n : Int) := by omega
   obtain ⟨c0, r0, o0, _⟩ := HP.out k hlt
   have HNK := Lib.hid (HNO.out k hlt)
   have hml := HSS.out k hlt
   have q0 := (cell_of_row w _ 0 _ _ _ r0).trans (show _ = some (vs k) from rfl)
   have HV := Lib.hid (slO_reads tVersion_law o0)
   obtain ⟨va, vc, hv⟩ := slO_len o0
   rw [hv] at q0 HV
   unfold ptrV at c0
   clear o0 r0 hv
   generalize bs k = pb at *
   generalize ss.getD k [] = l at *
   go_wp2
   go_loop [20] (fun i => ∃ q : Nat, q ≤ l.length ∧ i = .int .i64 q) (fun i => l.length - (intOf i).toNat)
   case atStart => exact ⟨0, Nat.zero_le _, rfl⟩
   case round =>
    obtain ⟨q, hq, rfl⟩ := hrel
    by_cases hqt : q < l.length
    ·
     have j1 : (0 : Int) ≤ (q : Int) := by omega
     have j2 : (q : Int) < (l.length : Int) := by omega
     obtain ⟨b, off, cap', xa, xc, hv, hbl, e0, e1, e2, e3, hx⟩ := verR_at HV.out hqt
     simp only [Value.slice.injEq] at hv
     obtain ⟨rfl, _, rfl⟩ := hv
     have hno := alive_no.1 (HNK.out q hqt)
     clear hx e1 e2
     generalize l.getD q v0D = x at *
     obtain ⟨vi, vx, vb, vd⟩ := x
     simp only at e0 e3 hno
     by_cases h1 : vi = id
     ·
      have h2 : ¬ vd = -1 := fun q => hno ⟨h1, q⟩
      have f1 : (vi == id) = true := by simp [h1]
      have f2 : (vd == -1) = false := by simp [h2]
      clear hno h1 h2
      go_wp2
      go_round
      case rel => exact ⟨q + 1, by omega, by go_num⟩
      case measure => simp [intOf]; omega
     ·
      have f1 : (vi == id) = false := by simp [h1]
      clear hno h1
      go_wp2
      go_round
      case rel => exact ⟨q + 1, by omega, by go_num⟩
      case measure => simp [intOf]; omega
    ·
     obtain rfl : q = l.length := by omega
     go_wp2
     go_round
     case rel => exact ⟨k + 1, by omega, by go_num⟩
     case measure => simp [intOf]; omega
  ·
   obtain rfl : k = n := by omega
   go_wp2
   go_ret
   exact ⟨rfl, rfl⟩
set_option maxHeartbeats 16000000 in
set_option maxRecDepth 100000 in
theorem alive_some (g n : Nat) (F : Nat → Prop) (ss : List (List VerD)) (id : Int) (w : World) (h : SlO 102 tSegP w F (.slice (some ⟨g, 0, none⟩) n n) ss) (hn : n = ss.length) (h8 : n ≤ 1048576) (hs : ∀ j, j < n → (ss.getD j []).length ≤ 1048576) (hsg : segI ss id < n) :
  Calls Try.prog 142 #[.slice (some ⟨g, 0, none⟩) n n, .int .i64 id] w (AliveP w g ss id) := by
 obtain ⟨hg, bs, vs, Fs, hp, hd⟩ := tab_parts h hn
 have HP := Lib.hid hp
 have HSS := Lib.hid hs
 have HB : Hid (∀ j, j < segI ss id → ∀ q, q < (ss.getD j []).length → aliveB id ((ss.getD j []).getD q v0D) = false) := Lib.hid (fun j hj q hq => by
  cases e : aliveB id ((ss.getD j []).getD q v0D) with
  | false => rfl
  | true =>
   have h1 : hasB id (ss.getD j []) = false := idx_before (d := []) hj
   rw [has_at hq e] at h1; cases h1)
 have HC : Hid (∀ q, q < verI (ss.getD (segI ss id) []) id → aliveB id ((ss.getD (segI ss id) []).getD q v0D) = false) := Lib.hid (fun q hq => idx_before (d := v0D) hq)
 have HA := Lib.hid (old_alive (ss := ss) (id := id) (by rw [← hn]; exact hsg))
 unfold oldV at HA
 have HK : Hid (∀ (b q off c : Nat), w.cell? ⟨g, segI ss id, none⟩ = some (ptrV b) → w.heap[b]? = some (segCells (.slice (some ⟨q, off, none⟩) (ss.getD (segI ss id) []).length c)) → AliveP w g ss id (.returned (.pointer (some ⟨q, off + verI (ss.getD (segI ss id) []) id * 4, none⟩))) w) := Lib.hid (fun b q off c h1 h2 => ⟨⟨b, q, off, c, h1, h2, rfl⟩, rfl⟩)
 generalize hi : segI ss id = i at *
 generalize hv : verI (ss.getD i []) id = kx at *
 have HI := Lib.hid hsg
 clear h hp hd hn hs hg hi hv
 go_enter Try.func142, Try.ntmps142
 go_wp2
 go_loop [11] (fun ix => ∃ k : Nat, k ≤ i ∧ ix = .int .i64 k) (fun ix => n - (intOf ix).toNat)
 case atStart => exact ⟨0, Nat.zero_le _, rfl⟩
 case round =>
  obtain ⟨k, hk, rfl⟩ := hrel
  have hlt : k < n := by omega
  have i1 : (0 : Int) ≤ (k : Int) := by omega
  have i2 : (k : Int) < (n : Int) := by omega
  obtain ⟨c0, r0, o0, _⟩ := HP.out k hlt
  have R0 := Lib.hid r0
  have hml := HSS.out k hlt
  have q0 := (cell_of_row w _ 0 _ _ _ r0).trans (show _ = some (vs k) from rfl)
  have HV := Lib.hid (slO_reads tVersion_law o0)
  obtain ⟨va, vc, hv⟩ := slO_len o0
  rw [hv] at q0 HV R0
  have C0 := Lib.hid c0
  unfold ptrV at c0
  clear o0 r0 hv
  by_cases hki : k < i
  ·
   have HNK := Lib.hid (HB.out k hki)
   clear R0 C0
   generalize bs k = pb at *
   generalize ss.getD k [] = l at *
   go_wp2
   go_loop [20] (fun ix => ∃ q : Nat, q ≤ l.length ∧ ix = .int .i64 q) (fun ix => l.length - (intOf ix).toNat)
   case atStart => exact ⟨0, Nat.zero_le _, rfl⟩
   case round =>
    obtain ⟨q, hq, rfl⟩ := hrel
    by_cases hqt : q < l.length
    ·
     have j1 : (0 : Int) ≤ (q : Int) := by omega
     have j2 : (q : Int) < (l.length : Int) := by omega
     obtain ⟨b, off, cap', xa, xc, hv, hbl, e0, e1, e2, e3, hx⟩ := verR_at HV.out hqt
     simp only [Value.slice.injEq] at hv
     obtain ⟨rfl, _, rfl⟩ := hv
     have hno := alive_no.1 (HNK.out q hqt)
     clear hx e1 e2
     generalize l.getD q v0D = x at *
     obtain ⟨vi, vx, vb, vd⟩ := x
     simp only at e0 e3 hno
     by_cases h1 : vi = id
     ·
      have h2 : ¬ vd = -1 := fun q => hno ⟨h1, q⟩
      have f1 : (vi == id) = true := by simp [h1]
      have f2 : (vd == -1) = false := by simp [h2]
      clear hno h1 h2
      go_wp2
      go_round
      case rel => exact ⟨q + 1, by omega, by go_num⟩
      case measure => simp [intOf]; omega
     ·
      have f1 : (vi == id) = false := by simp [h1]
      clear hno h1
      go_wp2
      go_round
      case rel => exact ⟨q + 1, by omega, by go_num⟩
      case measure => simp [intOf]; omega
    ·
     obtain rfl : q = l.length := by omega
     go_wp2
     go_round
     case rel => exact ⟨k + 1, by omega, by go_num⟩
     case measure => simp [intOf]; omega
  ·
   obtain rfl : k = i := by omega
   clear hki
   generalize bs k = pb at *
   have HL := HA.out.1
   have HKX := Lib.hid HA.out.1
   have HAL := Lib.hid (alive_iff.1 HA.out.2)
   clear HA HB HL
   generalize ss.getD k [] = l at *
   go_wp2
   go_loop [20] (fun ix => ∃ q : Nat, q ≤ kx ∧ ix = .int .i64 q) (fun ix => l.length - (intOf ix).toNat)
   case atStart => exact ⟨0, Nat.zero_le _, rfl⟩
   case round =>
    obtain ⟨q, hq, rfl⟩ := hrel
    have hkl := HKX.out
    have hqt : q < l.length := by omega
    have j1 : (0 : Int) ≤ (q : Int) := by omega
    have j2 : (q : Int) < (l.length : Int) := by omega
    obtain ⟨b, off, cap', xa, xc, hv, hbl, e0, e1, e2, e3, hx⟩ := verR_at HV.out hqt
    simp only [Value.slice.injEq] at hv
    obtain ⟨rfl, _, rfl⟩ := hv
    clear hx e1 e2
    by_cases hqk : q < kx
    ·
     have hno := alive_no.1 (HC.out q hqk)
     generalize l.getD q v0D = x at *
     obtain ⟨vi, vx, vb, vd⟩ := x
     simp only at e0 e3 hno
     clear hkl
     by_cases h1 : vi = id
     ·
      have h2 : ¬ vd = -1 := fun q => hno ⟨h1, q⟩
      have f1 : (vi == id) = true := by simp [h1]
      have f2 : (vd == -1) = false := by simp [h2]
      clear hno h1 h2
      go_wp2
      go_round
      case rel => exact ⟨q + 1, by omega, by go_num⟩
      case measure => simp [intOf]; omega
     ·
      have f1 : (vi == id) = false := by simp [h1]
      clear hno h1
      go_wp2
      go_round
      case rel => exact ⟨q + 1, by omega, by go_num⟩
      case measure => simp [intOf]; omega
    ·
     obtain rfl : q = kx := by omega
     have hal := HAL.out
     have HKK := Lib.hid (HK.out _ _ _ _ C0.out R0.out)
     clear hkl HK HC HKX HAL
     generalize l.getD q v0D = x at *
     obtain ⟨vi, vx, vb, vd⟩ := x
     simp only at e0 e3 hal
     have f1 : (vi == id) = true := by simp [hal.1]
     have f2 : (vd == -1) = true := by simp [hal.2]
     clear hal
     go_wp2
     go_ret
     exact HKK.out
set_option maxHeartbeats 16000000 in
set_option maxRecDepth 100000 in
theorem room_none (g n : Nat) (F : Nat → Prop) (ss : List (List VerD)) (w : World) (h : SlO 102 tSegP w F (.slice (some ⟨g, 0, none⟩) n n) ss) (hn : n = ss.length) (h8 : n ≤ 1048576) (hs : ∀ j, j < n → (ss.getD j []).length ≤ 1048576) (hrm : ¬ roomI ss < n) :
  Calls Try.prog 141 #[.slice (some ⟨g, 0, none⟩) n n] w fun e w' => e = .returned (.pointer none) ∧ w' = w := by
 obtain ⟨hg, bs, vs, Fs, hp, hd⟩ := tab_parts h hn
 have HP := Lib.hid hp
 have HSS := Lib.hid hs
 have HNO : Hid (∀ j, j < n → ¬ (ss.getD j []).length < 4) := Lib.hid (fun j hj q => by
  have h1 : freeB (ss.getD j []) = false := idx_before (d := []) (by unfold roomI at hrm; omega)
  unfold freeB at h1
  exact of_decide_eq_false h1 q)
 clear h hp hd hn hs hrm hg
 go_enter Try.func141, Try.ntmps141
 go_wp2
 go_loop [7] (fun i => ∃ k : Nat, k ≤ n ∧ i = .int .i64 k) (fun i => n - (intOf i).toNat)
 case atStart => exact ⟨0, Nat.zero_le _, rfl⟩
 case round =>
  obtain ⟨k, hk, rfl⟩ := hrel
  by_cases hlt : k < n
  ·
   have i1 : (0 : Int) ≤ (k : Int) := by omega
   have i2 : (k : Int) < (n : Int) := by omega
   obtain ⟨c0, r0, o0, _⟩ := HP.out k hlt
   have hml := HSS.out k hlt
   have h4 := HNO.out k hlt
   have q0 := (cell_of_row w _ 0 _ _ _ r0).trans (show _ = some (vs k) from rfl)
   obtain ⟨va, vc, hv⟩ := slO_len o0
   rw [hv] at q0
   unfold ptrV at c0
   clear o0 r0 hv
   generalize bs k = pb at *
   generalize (ss.getD k []).length = m at *
   have h5 : ¬ (m : Int) < 4 := by omega
   clear h4
   go_wp2
   go_round
   case rel => exact ⟨k + 1, by omega, by go_num⟩
   case measure => simp [intOf]; omega
  ·
   obtain rfl : k = n := by omega
   go_wp2
   go_ret
   exact ⟨rfl, rfl⟩
set_option maxHeartbeats 16000000 in
set_option maxRecDepth 100000 in
theorem room_some (g n : Nat) (F : Nat → Prop) (ss : List (List VerD)) (w : World) (h : SlO 102 tSegP w F (.slice (some ⟨g, 0, none⟩) n n) ss) (hn : n = ss.length) (h8 : n ≤ 1048576) (hs : ∀ j, j < n → (ss.getD j []).length ≤ 1048576) (hrm : roomI ss < n) :
  Calls Try.prog 141 #[.slice (some ⟨g, 0, none⟩) n n] w (RoomP w g ss) := by
 obtain ⟨hg, bs, vs, Fs, hp, hd⟩ := tab_parts h hn
 have HP := Lib.hid hp
 have HSS := Lib.hid hs
 have HNO : Hid (∀ j, j < roomI ss → ¬ (ss.getD j []).length < 4) := Lib.hid (fun j hj q => by
  have h1 : freeB (ss.getD j []) = false := idx_before (d := []) hj
  unfold freeB at h1
  exact of_decide_eq_false h1 q)
 have HYE := Lib.hid (room_len (ss := ss) (by rw [← hn]; exact hrm))
 have HK : Hid (∀ b, w.cell? ⟨g, roomI ss, none⟩ = some (ptrV b) → RoomP w g ss (.returned (ptrV b)) w) := Lib.hid (fun b h1 => ⟨⟨b, h1, rfl⟩, rfl⟩)
 generalize hi : roomI ss = i at *
 clear h hp hd hn hs hg hi
 go_enter Try.func141, Try.ntmps141
 go_wp2
 go_loop [7] (fun ix => ∃ k : Nat, k ≤ i ∧ ix = .int .i64 k) (fun ix => n - (intOf ix).toNat)
 case atStart => exact ⟨0, Nat.zero_le _, rfl⟩
 case round =>
  obtain ⟨k, hk, rfl⟩ := hrel
  have hlt : k < n := by omega
  have i1 : (0 : Int) ≤ (k : Int) := by omega
  have i2 : (k : Int) < (n : Int) := by omega
  obtain ⟨c0, r0, o0, _⟩ := HP.out k hlt
  have hml := HSS.out k hlt
  have q0 := (cell_of_row w _ 0 _ _ _ r0).trans (show _ = some (vs k) from rfl)
  obtain ⟨va, vc, hv⟩ := slO_len o0
  rw [hv] at q0
  have C0 := Lib.hid c0
  unfold ptrV at c0
  clear o0 r0 hv
  by_cases hki : k < i
  ·
   have h4 := HNO.out k hki
   clear C0
   generalize bs k = pb at *
   generalize (ss.getD k []).length = m at *
   have h5 : ¬ (m : Int) < 4 := by omega
   clear h4
   go_wp2
   go_round
   case rel => exact ⟨k + 1, by omega, by go_num⟩
   case measure => simp [intOf]; omega
  ·
   obtain rfl : k = i := by omega
   have h4 := HYE.out
   have HKK := Lib.hid (HK.out _ C0.out)
   clear hki HK HYE HNO C0
   generalize bs k = pb at *
   generalize (ss.getD k []).length = m at *
   have h5 : (m : Int) < 4 := by omega
   clear h4
   go_wp2
   go_ret
   exact HKK.out
/-- A new version, its values in new memory. -/
def FreshV (w : World) (id born : Int) (xs : List Int) (e : Ending) (w' : World) : Prop := ∃ (ua : Option Addr) (uc : Nat), e = .returned (.agg #[.int .i64 id, .slice ua xs.length uc, .int .i64 born, .int .i64 (-1)]) ∧ SlO 3 tInt w' (since w) (.slice ua xs.length uc) xs ∧ Below w.heap.size w w'
set_option maxHeartbeats 16000000 in
set_option maxRecDepth 100000 in
theorem newVersion_any (id born : Int) (vv : Value) (xs : List Int) (w : World) (h : SlR tInt w vv xs) (hn : xs.length ≤ 1048576) :
  Calls Try.prog 69 #[.agg #[.int .i64 id, vv], .int .i64 born] w (FreshV w id born xs) := by
 obtain ⟨va, vc, rfl⟩ := slR_len h
 have H := Lib.hid h
 have HN := Lib.hid hn
 have d := Lib.hid (show Below w.heap.size w ((w.alloc (.cells #[.int .i64 id, .slice va xs.length vc] 29)).alloc (.cells #[.int .i64 0, .slice none 0 0, .int .i64 0, .int .i64 0] 88)) from ((Below.refl _ _).alloc (Nat.le_refl _) _).alloc (by simp <;> omega) _)
 have B0 : Hid (((w.alloc (.cells #[.int .i64 id, .slice va xs.length vc] 29)).alloc (.cells #[.int .i64 0, .slice none 0 0, .int .i64 0, .int .i64 0] 88)).heap[w.heap.size]? = some (.cells #[.int .i64 id, .slice va xs.length vc] 29 (0, 0))) := Lib.hid (by
  rw [Below.heap_alloc _ _ _ (by simp)]; exact heap_alloc_new w _)
 have B1 : Hid (((w.alloc (.cells #[.int .i64 id, .slice va xs.length vc] 29)).alloc (.cells #[.int .i64 0, .slice none 0 0, .int .i64 0, .int .i64 0] 88)).heap[(w.heap.size + 1)]? = some (.cells #[.int .i64 0, .slice none 0 0, .int .i64 0, .int .i64 0] 88 (0, 0))) := Lib.hid (by
  have := heap_alloc_new (w.alloc (.cells #[.int .i64 id, .slice va xs.length vc] 29)) (.cells #[.int .i64 0, .slice none 0 0, .int .i64 0, .int .i64 0] 88)
  simpa only [World.size_alloc] using this)
 have YW : Hid (w.heap.size + 1 < ((w.alloc (.cells #[.int .i64 id, .slice va xs.length vc] 29)).alloc (.cells #[.int .i64 0, .slice none 0 0, .int .i64 0, .int .i64 0] 88)).heap.size) := Lib.hid (by simp)
 clear h hn
 go_enter Try.func69, Try.ntmps69
 go_wp2
 generalize ((w.alloc (.cells #[.int .i64 id, .slice va xs.length vc] 29)).alloc (.cells #[.int .i64 0, .slice none 0 0, .int .i64 0, .int .i64 0] 88)) = W at *
 have p_B0_0 := (cell_of_row W _ 0 _ _ _ B0.out).trans (show _ = some (Value.int .i64 id) from rfl)
 have p_B0_1 := (cell_of_row W _ 1 _ _ _ B0.out).trans (show _ = some (Value.slice va xs.length vc) from rfl)
 refine wp_region_held_drew (S := fun w' => w'.cell? ⟨w.heap.size, 0, none⟩ = some (Value.int .i64 id) ∧ w'.cell? ⟨w.heap.size, 1, none⟩ = some (Value.slice va xs.length vc)) (by kernel_rfl) ⟨p_B0_0, p_B0_1⟩ (fun hHeld => ?_)
 clear p_B0_0 p_B0_1
 have cdr : Below W.heap.size W W.drew := below_drew (Below.refl _ _)
 replace B0 := Lib.hid ((cdr.block w.heap.size (Array.getElem?_eq_some_iff.1 B0.out).1).trans B0.out)
 replace B1 := Lib.hid ((cdr.block (w.heap.size + 1) (Array.getElem?_eq_some_iff.1 B1.out).1).trans B1.out)
 replace d := Lib.hid (d.out.trans (cdr.mono d.out.size))
 clear cdr
 have Z_dr := Lib.hid (show W.heap.size ≤ W.drew.heap.size from Nat.le_refl _)
 generalize W.drew = Wd at *
 refine tR (i := 0) (v := ?_) ?_ ?_; rotate_left
 ·
  intro w hSw; (try dsimp only at hSw); go_simp; try (with_reducible rfl)
 try simp only [Act.put, lA, lB, lC]
 refine tR (i := 1) (v := ?_) ?_ ?_; rotate_left
 ·
  intro w hSw; (try dsimp only at hSw); go_simp; try (with_reducible rfl)
 try simp only [Act.put, lA, lB, lC]
 refine tR (i := 2) (v := ?_) ?_ ?_; rotate_left
 ·
  intro w hSw; (try dsimp only at hSw); go_simp; try (with_reducible rfl)
 try simp only [Act.put, lA, lB, lC]
 refine tR (i := 3) (v := ?_) ?_ ?_; rotate_left
 ·
  intro w hSw; (try dsimp only at hSw); go_simp; try (with_reducible rfl)
 try simp only [Act.put, lA, lB, lC]
 refine tR (i := 5) (v := ?_) ?_ ?_; rotate_left
 ·
  intro w hSw; (try dsimp only at hSw); go_simp; try (with_reducible rfl)
 try simp only [Act.put, lA, lB, lC]
 refine wpAnyH_ready (rs := [4]) (by kernel_rfl) (by simp) ?_
 refine (AllReadyH.cons (o := _) (by simp only [hA, hB, hC]; rfl) (fun K hK => ?_) AllReadyH.nil)
 go_simp
 refine (copyLVersionint (.slice va xs.length vc) xs Wd (slR_below tInt_law H.out d.out) HN.out).mono ?_
 rintro e w5 ⟨u, rfl, ou, c5⟩
 obtain ⟨ua, uc, rfl⟩ := slO_len ou
 have PX := Lib.hid (slO_lt tInt_law ou)
 have QX := Lib.hid (fun q (h : since Wd q ∧ q < w5.heap.size) => (show Wd.heap.size ≤ q ∧ q < w5.heap.size from h))
 replace B0 := Lib.hid ((c5.block w.heap.size (Array.getElem?_eq_some_iff.1 B0.out).1).trans B0.out)
 replace B1 := Lib.hid ((c5.block (w.heap.size + 1) (Array.getElem?_eq_some_iff.1 B1.out).1).trans B1.out)
 replace d := Lib.hid (d.out.trans (c5.mono d.out.size))
 have Z_w5 := Lib.hid (show Wd.heap.size ≤ w5.heap.size from c5.size)
 clear c5 ou
 have p_B0_0 := (cell_of_row w5 _ 0 _ _ _ B0.out).trans (show _ = some (Value.int .i64 id) from rfl)
 have p_B0_1 := (cell_of_row w5 _ 1 _ _ _ B0.out).trans (show _ = some (Value.slice va xs.length vc) from rfl)
 refine hK.out _ _ ⟨p_B0_0, p_B0_1⟩ (fun hHeld => ?_)
 clear p_B0_0 p_B0_1
 clear hK K
 try simp only [Act.put, lA, lB, lC]
 refine tR (i := 6) (v := ?_) ?_ ?_; rotate_left
 ·
  intro w hSw; (try dsimp only at hSw); go_simp; try (with_reducible rfl)
 try simp only [Act.put, lA, lB, lC]
 refine wpAnyH_ready (rs := [7]) (by kernel_rfl) (by simp) ?_
 refine (AllReadyH.cons (o := _) (by simp only [hA, hB, hC]; rfl) (fun K hK => ?_) AllReadyH.nil)
 have p_B1_0 := (cell_of_row w5 _ 0 _ _ _ B1.out).trans (show _ = some (Value.int .i64 0) from rfl)
 have p_B1_1 := (cell_of_row w5 _ 1 _ _ _ B1.out).trans (show _ = some (Value.slice none 0 0) from rfl)
 have p_B1_2 := (cell_of_row w5 _ 2 _ _ _ B1.out).trans (show _ = some (Value.int .i64 0) from rfl)
 have p_B1_3 := (cell_of_row w5 _ 3 _ _ _ B1.out).trans (show _ = some (Value.int .i64 0) from rfl)
 have f_B1_0 := frozen_of_row w5 _ 0 _ _ B1.out
 have f_B1_1 := frozen_of_row w5 _ 1 _ _ B1.out
 have f_B1_2 := frozen_of_row w5 _ 2 _ _ B1.out
 have f_B1_3 := frozen_of_row w5 _ 3 _ _ B1.out
 go_simp
 clear p_B1_0 p_B1_1 p_B1_2 p_B1_3 f_B1_0 f_B1_1 f_B1_2 f_B1_3
 have tt : Turn (fun q => q = (w.heap.size + 1)) w5 ((((w5.setCell ⟨w.heap.size + 1, 0, none⟩ (.int .i64 id)).setCell ⟨w.heap.size + 1, 1, none⟩ (.slice ua xs.length uc)).setCell ⟨w.heap.size + 1, 2, none⟩ (.int .i64 born)).setCell ⟨w.heap.size + 1, 3, none⟩ (.int .i64 (-1))) := (((((Turn.refl (fun q => q = (w.heap.size + 1)) w5).trans (turn_set (G := fun q => q = (w.heap.size + 1)) (g := w.heap.size + 1) (j := 0) (u := .int .i64 id) rfl)).trans (turn_set (G := fun q => q = (w.heap.size + 1)) (g := w.heap.size + 1) (j := 1) (u := .slice ua xs.length uc) rfl)).trans (turn_set (G := fun q => q = (w.heap.size + 1)) (g := w.heap.size + 1) (j := 2) (u := .int .i64 born) rfl)).trans (turn_set (G := fun q => q = (w.heap.size + 1)) (g := w.heap.size + 1) (j := 3) (u := .int .i64 (-1)) rfl))
 have r := (heap_setCell_same _ (w.heap.size + 1) 3 _ _ (.int .i64 (-1)) (heap_setCell_same _ (w.heap.size + 1) 2 _ _ (.int .i64 born) (heap_setCell_same _ (w.heap.size + 1) 1 _ _ (.slice ua xs.length uc) (heap_setCell_same w5 (w.heap.size + 1) 0 _ _ (.int .i64 id) B1.out))))
 simp at r
 generalize ((((w5.setCell ⟨w.heap.size + 1, 0, none⟩ (.int .i64 id)).setCell ⟨w.heap.size + 1, 1, none⟩ (.slice ua xs.length uc)).setCell ⟨w.heap.size + 1, 2, none⟩ (.int .i64 born)).setCell ⟨w.heap.size + 1, 3, none⟩ (.int .i64 (-1))) = w6 at *
 have y0 := YW.out
 have y1 := Z_dr.out
 have y2 := Z_w5.out
 have yd : w.heap.size ≤ w5.heap.size := d.out.size
 replace B0 := Lib.hid ((tt.block w.heap.size (Array.getElem?_eq_some_iff.1 B0.out).1 (fun h => by have r2 : _ = w.heap.size + 1 := h; omega)).trans B0.out)
 replace PX := Lib.hid (slO_turn tInt_law PX.out tt (fun b h1 h2 => by have r1 := QX.out b h1; have r2 : _ = w.heap.size + 1 := h2; omega))
 replace d := Lib.hid (below_turn d.out tt (fun b h => by have r2 : _ = w.heap.size + 1 := h; omega) (by omega))
 have Z_w6 := Lib.hid (show w5.heap.size ≤ w6.heap.size from tt.size)
 clear yd y0 y1 y2
 replace B1 : Hid (w6.heap[w.heap.size + 1]? = some (.cells #[.int .i64 id, .slice ua xs.length uc, .int .i64 born, .int .i64 (-1)] 88 (0, 0))) := Lib.hid r
 clear r tt
 have p_B0_0 := (cell_of_row w6 _ 0 _ _ _ B0.out).trans (show _ = some (Value.int .i64 id) from rfl)
 have p_B0_1 := (cell_of_row w6 _ 1 _ _ _ B0.out).trans (show _ = some (Value.slice va xs.length vc) from rfl)
 refine hK.out _ _ ⟨p_B0_0, p_B0_1⟩ (fun hHeld => ?_)
 clear p_B0_0 p_B0_1
 clear hK K
 try simp only [Act.put, lA, lB, lC]
 refine wpAnyH_done (by kernel_rfl) ?_ _
 clear hHeld
 have y0 := YW.out
 have y1 := Z_dr.out
 have y2 := Z_w5.out
 have y3 := Z_w6.out
 have e0 := (cell_of_row w6 _ 0 _ _ _ B1.out).trans (show _ = some (Value.int .i64 id) from rfl)
 have e1 := (cell_of_row w6 _ 1 _ _ _ B1.out).trans (show _ = some (Value.slice ua xs.length uc) from rfl)
 have e2 := (cell_of_row w6 _ 2 _ _ _ B1.out).trans (show _ = some (Value.int .i64 born) from rfl)
 have e3 := (cell_of_row w6 _ 3 _ _ _ B1.out).trans (show _ = some (Value.int .i64 (-1)) from rfl)
 have QE := Lib.hid (fun q h => (show w.heap.size ≤ q by have r1 := QX.out q h; omega))
 clear y0 y1 y2 y3
 go_wp2
 refine bodyPost_ret (v := .agg #[.int .i64 id, .slice ua xs.length uc, .int .i64 born, .int .i64 (-1)]) ?_ rfl ⟨ua, uc, rfl, slO_mono PX.out QE.out, d.out⟩
 simp [results, Try.f69, go_sem, e0, e1, e2, e3]
/-- What a change leaves of a table. -/
def Applied (w : World) (F : Nat → Prop) (v : Value) (ss : List (List VerD)) (r : Bool) (e : Ending) (w' : World) : Prop := e = .returned (.bool r) ∧ SlO 102 tSegP w' F v ss ∧ Turn F w w'
theorem tab_lt {w : World} {F : Nat → Prop} {g n cap : Nat} {ss : List (List VerD)} (h : SlO 102 tSegP w F (.slice (some ⟨g, 0, none⟩) n cap) ss) : g < w.heap.size := by
 obtain ⟨L, us, Fs, h1, h2, _⟩ := slO_lt tSegP_law h
 exact (h2 g rfl).2
theorem tab_ver {w : World} {F : Nat → Prop} {v : Value} {ss : List (List VerD)} (h : SlO 102 tSegP w F v ss) {j k : Nat} (hj : j < ss.length) (hk : k < (ss.getD j []).length) :
  ∃ (g cap b q c : Nat) (a : Option Addr) (n : Nat), v = .slice (some ⟨g, 0, none⟩) ss.length cap ∧ w.cell? ⟨g, j, none⟩ = some (ptrV b) ∧ w.heap[b]? = some (segCells (.slice (some ⟨q, 0, none⟩) (ss.getD j []).length c)) ∧ w.cell? ⟨q, k * 4, none⟩ = some (.int .i64 ((ss.getD j []).getD k v0D).1) ∧ w.cell? ⟨q, k * 4 + 1, none⟩ = some (.slice a ((ss.getD j []).getD k v0D).2.1.length n) ∧ w.cell? ⟨q, k * 4 + 2, none⟩ = some (.int .i64 ((ss.getD j []).getD k v0D).2.2.1) ∧ w.cell? ⟨q, k * 4 + 3, none⟩ = some (.int .i64 ((ss.getD j []).getD k v0D).2.2.2) ∧ SlR tInt w (.slice a ((ss.getD j []).getD k v0D).2.1.length n) ((ss.getD j []).getD k v0D).2.1 ∧ q < w.heap.size := by
 obtain ⟨g, cap, b, u, F1, Fj, hv, hF, hg, hc, hb, hu, h0, h1, h2, hput⟩ := tab_at (slO_lt tSegP_law h) (Nat.le_refl _) hj
 obtain ⟨q, c, rfl, q1, q2, q3, q4, q5⟩ := ver_die hu hk
 obtain ⟨b', off', cap', a, n, hv', _, c0, c1, c2, c3, hx⟩ := verR_at (slO_reads tVersion_law hu) hk
 simp only [Value.slice.injEq, Option.some.injEq, Addr.mk.injEq] at hv'
 obtain ⟨⟨rfl, rfl, _⟩, _, rfl⟩ := hv'
 rw [Nat.zero_add] at c0 c1 c2 c3
 exact ⟨g, cap, b, q, c, a, n, hv, hc, hb, c0, c1, c2, c3, ints_slR hx, q2⟩
theorem seg_row {a b : Nat} {u v : Value} {w : World} (h1 : w.heap[a]? = some (segCells u)) (h2 : w.heap[b]? = some (segCells v)) (h : a = b) : u = v := by
 subst h
 rw [h1] at h2
 simp only [Option.some.injEq, segCells, Obj.cells.injEq] at h2
 have := h2.1
 simpa using this
set_option maxHeartbeats 16000000 in
set_option maxRecDepth 100000 in
theorem insApply_full (g n : Nat) (F : Nat → Prop) (ss : List (List VerD)) (id t : Int) (va : Option Addr) (vc : Nat) (xs : List Int) (w : World) (h : SlO 102 tSegP w F (.slice (some ⟨g, 0, none⟩) n n) ss) (hn : n = ss.length) (h8 : n ≤ 1048576) (hs : ∀ j, j < n → (ss.getD j []).length ≤ 1048576) (hF : ∀ q, w.heap.size ≤ q → F q) (hrm : ¬ roomI ss < n) :
  Calls Try.prog 137 #[.agg #[.int .i64 id, .slice va xs.length vc], .slice (some ⟨g, 0, none⟩) n n, .int .i64 t] w (Applied w F (.slice (some ⟨g, 0, none⟩) n n) (ss) false) := by
 have d := Lib.hid ((Below.refl w.heap.size w).alloc (Nat.le_refl _) (.cells #[.int .i64 id, .slice va xs.length vc] 114))
 have B0 : Hid ((w.alloc (.cells #[.int .i64 id, .slice va xs.length vc] 114)).heap[w.heap.size]? = some (.cells #[.int .i64 id, .slice va xs.length vc] 114 (0, 0))) := Lib.hid (heap_alloc_new w _)
 have YW : Hid (w.heap.size < (w.alloc (.cells #[.int .i64 id, .slice va xs.length vc] 114)).heap.size) := Lib.hid (by simp [World.size_alloc])
 have PT := Lib.hid (slO_fresh tSegP_law (slO_lt tSegP_law h) d.out)
 have QT := Lib.hid (fun q (h : F q ∧ q < w.heap.size) => h)
 have PF := Lib.hid (slO_fresh tSegP_law h d.out)
 have HS := Lib.hid hs
 have HF := Lib.hid hF
 clear h hs hF
 have HN := Lib.hid hn
 have H8 := Lib.hid h8
 clear hn h8
 try (have HRM0 := Lib.hid hrm; clear hrm)
 try (have HSG0 := Lib.hid hsg; clear hsg)
 go_enter Try.func137, Try.ntmps137
 go_wp2_with fail
 generalize w.alloc (.cells #[.int .i64 id, .slice va xs.length vc] 114) = w1 at *
 refine (room_none g n F ss w1 PF.out HN.out H8.out HS.out HRM0.out).mono ?_
 rintro e wx ⟨rfl, rfl⟩
 go_wp2
 go_ret
 exact ⟨rfl, PF.out, turn_below d.out⟩
set_option maxHeartbeats 16000000 in
set_option maxRecDepth 100000 in
theorem insApply_there (g n : Nat) (F : Nat → Prop) (ss : List (List VerD)) (id t : Int) (va : Option Addr) (vc : Nat) (xs : List Int) (w : World) (h : SlO 102 tSegP w F (.slice (some ⟨g, 0, none⟩) n n) ss) (hn : n = ss.length) (h8 : n ≤ 1048576) (hs : ∀ j, j < n → (ss.getD j []).length ≤ 1048576) (hF : ∀ q, w.heap.size ≤ q → F q) (hrm : roomI ss < n) (hsg : segI ss id < n) :
  Calls Try.prog 137 #[.agg #[.int .i64 id, .slice va xs.length vc], .slice (some ⟨g, 0, none⟩) n n, .int .i64 t] w (Applied w F (.slice (some ⟨g, 0, none⟩) n n) (ss) false) := by
 have d := Lib.hid ((Below.refl w.heap.size w).alloc (Nat.le_refl _) (.cells #[.int .i64 id, .slice va xs.length vc] 114))
 have B0 : Hid ((w.alloc (.cells #[.int .i64 id, .slice va xs.length vc] 114)).heap[w.heap.size]? = some (.cells #[.int .i64 id, .slice va xs.length vc] 114 (0, 0))) := Lib.hid (heap_alloc_new w _)
 have YW : Hid (w.heap.size < (w.alloc (.cells #[.int .i64 id, .slice va xs.length vc] 114)).heap.size) := Lib.hid (by simp [World.size_alloc])
 have PT := Lib.hid (slO_fresh tSegP_law (slO_lt tSegP_law h) d.out)
 have QT := Lib.hid (fun q (h : F q ∧ q < w.heap.size) => h)
 have PF := Lib.hid (slO_fresh tSegP_law h d.out)
 have HS := Lib.hid hs
 have HF := Lib.hid hF
 clear h hs hF
 have HN := Lib.hid hn
 have H8 := Lib.hid h8
 clear hn h8
 try (have HRM0 := Lib.hid hrm; clear hrm)
 try (have HSG0 := Lib.hid hsg; clear hsg)
 go_enter Try.func137, Try.ntmps137
 go_wp2_with fail
 generalize w.alloc (.cells #[.int .i64 id, .slice va xs.length vc] 114) = w1 at *
 refine (room_some g n F ss w1 PF.out HN.out H8.out HS.out HRM0.out).mono ?_
 rintro e wx ⟨⟨rb, hrb, rfl⟩, rfl⟩
 unfold ptrV
 have p_B0_0 := (cell_of_row wx _ 0 _ _ _ B0.out).trans (show _ = some (Value.int .i64 id) from rfl)
 have p_B0_1 := (cell_of_row wx _ 1 _ _ _ B0.out).trans (show _ = some (Value.slice va xs.length vc) from rfl)
 go_wp2_with fail
 clear p_B0_0 p_B0_1
 refine (alive_some g n F ss id wx PF.out HN.out H8.out HS.out HSG0.out).mono ?_
 rintro e wy ⟨⟨ab, aq, ao, ac, hab, har, rfl⟩, rfl⟩
 clear hab har hrb
 go_wp2
 go_ret
 exact ⟨rfl, PF.out, turn_below d.out⟩
set_option maxHeartbeats 16000000 in
set_option maxRecDepth 100000 in
theorem insApply (g n : Nat) (F : Nat → Prop) (ss : List (List VerD)) (id t : Int) (va : Option Addr) (vc : Nat) (xs : List Int) (w : World) (h : SlO 102 tSegP w F (.slice (some ⟨g, 0, none⟩) n n) ss) (hn : n = ss.length) (h8 : n ≤ 1048576) (hs : ∀ j, j < n → (ss.getD j []).length ≤ 1048576) (hF : ∀ q, w.heap.size ≤ q → F q) (hrm : roomI ss < n) (hsg : ¬ segI ss id < n) (gx : SlR tInt w (.slice va xs.length vc) xs) (hxn : xs.length ≤ 1048576) :
  Calls Try.prog 137 #[.agg #[.int .i64 id, .slice va xs.length vc], .slice (some ⟨g, 0, none⟩) n n, .int .i64 t] w (Applied w F (.slice (some ⟨g, 0, none⟩) n n) (addL ss (roomI ss) (id, xs, t, -1)) true) := by
 have GX := Lib.hid gx
 have HXN := Lib.hid hxn
 clear gx hxn
 have d := Lib.hid ((Below.refl w.heap.size w).alloc (Nat.le_refl _) (.cells #[.int .i64 id, .slice va xs.length vc] 114))
 have B0 : Hid ((w.alloc (.cells #[.int .i64 id, .slice va xs.length vc] 114)).heap[w.heap.size]? = some (.cells #[.int .i64 id, .slice va xs.length vc] 114 (0, 0))) := Lib.hid (heap_alloc_new w _)
 have YW : Hid (w.heap.size < (w.alloc (.cells #[.int .i64 id, .slice va xs.length vc] 114)).heap.size) := Lib.hid (by simp [World.size_alloc])
 have PT := Lib.hid (slO_fresh tSegP_law (slO_lt tSegP_law h) d.out)
 have QT := Lib.hid (fun q (h : F q ∧ q < w.heap.size) => h)
 have PF := Lib.hid (slO_fresh tSegP_law h d.out)
 have HS := Lib.hid hs
 have HF := Lib.hid hF
 clear h hs hF
 have HN := Lib.hid hn
 have H8 := Lib.hid h8
 clear hn h8
 try (have HRM0 := Lib.hid hrm; clear hrm)
 try (have HSG0 := Lib.hid hsg; clear hsg)
 go_enter Try.func137, Try.ntmps137
 go_wp2_with fail
 generalize w.alloc (.cells #[.int .i64 id, .slice va xs.length vc] 114) = w1 at *
 refine (room_some g n F ss w1 PF.out HN.out H8.out HS.out HRM0.out).mono ?_
 rintro e wx ⟨⟨rb, hrb, rfl⟩, rfl⟩
 unfold ptrV
 have RB := Lib.hid hrb
 clear hrb
 have p_B0_0 := (cell_of_row wx _ 0 _ _ _ B0.out).trans (show _ = some (Value.int .i64 id) from rfl)
 have p_B0_1 := (cell_of_row wx _ 1 _ _ _ B0.out).trans (show _ = some (Value.slice va xs.length vc) from rfl)
 go_wp2_with fail
 clear p_B0_0 p_B0_1
 refine (alive_none g n F ss id wx PF.out HN.out H8.out HS.out HSG0.out).mono ?_
 rintro e wy ⟨rfl, rfl⟩
 have p_B0_0 := (cell_of_row wy _ 0 _ _ _ B0.out).trans (show _ = some (Value.int .i64 id) from rfl)
 have p_B0_1 := (cell_of_row wy _ 1 _ _ _ B0.out).trans (show _ = some (Value.slice va xs.length vc) from rfl)
 go_wp2_with fail
 clear p_B0_0 p_B0_1
 refine (newVersion_any id t (.slice va xs.length vc) xs wy (slR_below tInt_law GX.out d.out) HXN.out).mono ?_
 rintro e w2 ⟨ua, uc, rfl, ox, c2⟩
 have PX : Hid (SlO 3 tInt w2 (fun q => w.heap.size ≤ q) (.slice ua xs.length uc) xs) := Lib.hid (slO_mono ox (fun q hq => Nat.le_trans d.out.size hq))
 replace B0 := Lib.hid ((c2.block w.heap.size (Array.getElem?_eq_some_iff.1 B0.out).1).trans B0.out)
 replace PT := Lib.hid (slO_fresh tSegP_law PT.out c2)
 replace d := Lib.hid (d.out.trans (c2.mono d.out.size))
 have Z_w2 := Lib.hid (show wy.heap.size ≤ w2.heap.size from c2.size)
 have QX := Lib.hid (fun q (h : w.heap.size ≤ q) => h)
 have CB := Lib.hid c2
 clear ox c2
 have HR : Hid (roomI ss < ss.length) := Lib.hid (by rw [← HN.out]; exact HRM0.out)
 obtain ⟨g9, c9, b9, hv9, hc9, hadd⟩ := tab_add PT.out d.out.size HF.out HR.out (HS.out _ HRM0.out) id t (-1) ua uc xs PX.out
 simp only [Value.slice.injEq, Option.some.injEq, Addr.mk.injEq] at hv9
 obtain ⟨⟨rfl, _⟩, hl9, _⟩ := hv9
 have hcb := (CB.out.cell (p := ⟨_, roomI ss, none⟩) (tab_lt PF.out)).trans RB.out
 rw [hc9] at hcb
 have hbb : b9 = rb := by simpa [ptrV] using hcb
 subst hbb
 have HADD := Lib.hid hadd
 clear hadd hcb hc9 hl9
 go_wp2_with fail
 refine HADD.out.mono ?_
 rintro e w3 ⟨rfl, o3, t3⟩
 have O3 := Lib.hid o3
 have T3 := Lib.hid t3
 clear o3 t3 HADD
 go_wp2
 go_ret
 refine ⟨rfl, ?_, (turn_below d.out).trans (T3.out.mono (fun q h => h.1))⟩
 have o3 := O3.out
 first | exact o3 | (have hn := HN.out; subst hn; exact o3)
set_option maxHeartbeats 16000000 in
set_option maxRecDepth 100000 in
theorem delApply_none (g n : Nat) (F : Nat → Prop) (ss : List (List VerD)) (id t : Int) (w : World) (h : SlO 102 tSegP w F (.slice (some ⟨g, 0, none⟩) n n) ss) (hn : n = ss.length) (h8 : n ≤ 1048576) (hs : ∀ j, j < n → (ss.getD j []).length ≤ 1048576) (hF : ∀ q, w.heap.size ≤ q → F q) (hsg : ¬ segI ss id < n) :
  Calls Try.prog 160 #[.agg #[.int .i64 id], .slice (some ⟨g, 0, none⟩) n n, .int .i64 t] w (Applied w F (.slice (some ⟨g, 0, none⟩) n n) (ss) false) := by
 have d := Lib.hid ((Below.refl w.heap.size w).alloc (Nat.le_refl _) (.cells #[.int .i64 id] 116))
 have B0 : Hid ((w.alloc (.cells #[.int .i64 id] 116)).heap[w.heap.size]? = some (.cells #[.int .i64 id] 116 (0, 0))) := Lib.hid (heap_alloc_new w _)
 have YW : Hid (w.heap.size < (w.alloc (.cells #[.int .i64 id] 116)).heap.size) := Lib.hid (by simp [World.size_alloc])
 have PT := Lib.hid (slO_fresh tSegP_law (slO_lt tSegP_law h) d.out)
 have QT := Lib.hid (fun q (h : F q ∧ q < w.heap.size) => h)
 have PF := Lib.hid (slO_fresh tSegP_law h d.out)
 have HS := Lib.hid hs
 have HF := Lib.hid hF
 clear h hs hF
 have HN := Lib.hid hn
 have H8 := Lib.hid h8
 clear hn h8
 try (have HRM0 := Lib.hid hrm; clear hrm)
 try (have HSG0 := Lib.hid hsg; clear hsg)
 go_enter Try.func160, Try.ntmps160
 go_wp2_with fail
 generalize w.alloc (.cells #[.int .i64 id] 116) = w1 at *
 refine (alive_none g n F ss id w1 PF.out HN.out H8.out HS.out HSG0.out).mono ?_
 rintro e wx ⟨rfl, rfl⟩
 go_wp2
 go_ret
 exact ⟨rfl, PF.out, turn_below d.out⟩
set_option maxHeartbeats 16000000 in
set_option maxRecDepth 100000 in
theorem delApply (g n : Nat) (F : Nat → Prop) (ss : List (List VerD)) (id t : Int) (w : World) (h : SlO 102 tSegP w F (.slice (some ⟨g, 0, none⟩) n n) ss) (hn : n = ss.length) (h8 : n ≤ 1048576) (hs : ∀ j, j < n → (ss.getD j []).length ≤ 1048576) (hF : ∀ q, w.heap.size ≤ q → F q) (hsg : segI ss id < n) :
  Calls Try.prog 160 #[.agg #[.int .i64 id], .slice (some ⟨g, 0, none⟩) n n, .int .i64 t] w (Applied w F (.slice (some ⟨g, 0, none⟩) n n) (dieL ss (segI ss id) (verI (ss.getD (segI ss id) []) id) t) true) := by
 have HKX := Lib.hid (old_alive (ss := ss) (id := id) (by rw [← hn]; exact hsg)).1
 have HSG : Hid (segI ss id < ss.length) := Lib.hid (by rw [← hn]; exact hsg)
 have d := Lib.hid ((Below.refl w.heap.size w).alloc (Nat.le_refl _) (.cells #[.int .i64 id] 116))
 have B0 : Hid ((w.alloc (.cells #[.int .i64 id] 116)).heap[w.heap.size]? = some (.cells #[.int .i64 id] 116 (0, 0))) := Lib.hid (heap_alloc_new w _)
 have YW : Hid (w.heap.size < (w.alloc (.cells #[.int .i64 id] 116)).heap.size) := Lib.hid (by simp [World.size_alloc])
 have PT := Lib.hid (slO_fresh tSegP_law (slO_lt tSegP_law h) d.out)
 have QT := Lib.hid (fun q (h : F q ∧ q < w.heap.size) => h)
 have PF := Lib.hid (slO_fresh tSegP_law h d.out)
 have HS := Lib.hid hs
 have HF := Lib.hid hF
 clear h hs hF
 have HN := Lib.hid hn
 have H8 := Lib.hid h8
 clear hn h8
 try (have HRM0 := Lib.hid hrm; clear hrm)
 try (have HSG0 := Lib.hid hsg; clear hsg)
 go_enter Try.func160, Try.ntmps160
 go_wp2_with fail
 generalize w.alloc (.cells #[.int .i64 id] 116) = w1 at *
 refine (alive_some g n F ss id w1 PF.out HN.out H8.out HS.out HSG0.out).mono ?_
 rintro e wx ⟨⟨ab, aq, ao, ac, hab, har, rfl⟩, rfl⟩
 have HAB := Lib.hid hab
 have HAR := Lib.hid har
 clear hab har
 generalize segI ss id = i at *
 generalize verI (ss.getD i []) id = kx at *
 obtain ⟨g8, c8, b8, q8, cc8, hv8, hc8, hb8, hF8, hq8, ⟨y8, hy8⟩, hz8, hput8⟩ := tab_die PF.out HSG.out HKX.out
 simp only [Value.slice.injEq, Option.some.injEq, Addr.mk.injEq] at hv8
 obtain ⟨⟨rfl, _⟩, hl8, hc9⟩ := hv8
 have e1 := hc8.symm.trans HAB.out
 have e2 : b8 = ab := by simpa [ptrV] using e1
 have e3 := seg_row hb8 HAR.out e2
 simp only [Value.slice.injEq, Option.some.injEq, Addr.mk.injEq] at e3
 obtain ⟨⟨e4, e5, _⟩, _, _⟩ := e3
 subst e4
 subst e5
 have HP8 := Lib.hid (hput8 t)
 have HF8 := Lib.hid hF8
 clear hput8 hc8 hb8 hF8 e1 e2 hl8 hc9
 go_wp2
 go_ret
 exact ⟨rfl, HP8.out, (turn_below d.out).trans (turn_set HF8.out)⟩
/-- A version of a table dies; its block is not the table's. -/
theorem tab_die2 {w : World} {F : Nat → Prop} {v : Value} {ss : List (List VerD)} (h : SlO 102 tSegP w F v ss) {j k : Nat} (hj : j < ss.length) (hk : k < (ss.getD j []).length) :
  ∃ (g cap b q c : Nat), v = .slice (some ⟨g, 0, none⟩) ss.length cap ∧ w.cell? ⟨g, j, none⟩ = some (ptrV b) ∧ w.heap[b]? = some (segCells (.slice (some ⟨q, 0, none⟩) (ss.getD j []).length c)) ∧ F q ∧ q < w.heap.size ∧ q ≠ g ∧ (∃ x, w.cell? ⟨q, k * 4 + 3, none⟩ = some x) ∧ w.frozen? ⟨q, k * 4 + 3, none⟩ = false ∧
   ∀ t : Int, SlO 102 tSegP (w.setCell ⟨q, k * 4 + 3, none⟩ (.int .i64 t)) F v (dieL ss j k t) := by
 obtain ⟨g, cap, b, u, F1, Fj, hv, hF, hg, hc, hb, hu, h0, h1, h2, hput⟩ := tab_at (slO_lt tSegP_law h) (Nat.le_refl _) hj
 obtain ⟨q, c, rfl, q1, q2, q3, q4, q5⟩ := ver_die hu hk
 have hq := h1 q q1
 refine ⟨g, cap, b, q, c, hv, hc, hb, (h2 q hq.1).1, q2, (h2 q hq.1).2.1, q3, q4, fun t => ?_⟩
 have tt : Turn (fun b => b = q) w (w.setCell ⟨q, k * 4 + 3, none⟩ (.int .i64 t)) := turn_set (G := fun b => b = q) (g := q) (j := k * 4 + 3) (u := .int .i64 t) rfl
 exact hput _ _ F1 _ ((tt.block b (Array.getElem?_eq_some_iff.1 hb).1 (fun e => hq.2 e.symm)).trans hb) (q5 t) (fun k hk => ⟨(h2 k (h1 k hk).1).1, (h1 k hk).2, Or.inl (h1 k hk).1⟩) (tt.mono (fun k hk => Or.inl (by rw [hk]; exact hq.1)))
theorem cell_block {w w' : World} {b o : Nat} (h : w'.heap[b]? = w.heap[b]?) : w'.cell? ⟨b, o, none⟩ = w.cell? ⟨b, o, none⟩ := by
 unfold World.cell?
 simp only [h]
set_option maxHeartbeats 16000000 in
set_option maxRecDepth 100000 in
theorem setApply_none (g n : Nat) (F : Nat → Prop) (ss : List (List VerD)) (id f x t : Int) (w : World) (h : SlO 102 tSegP w F (.slice (some ⟨g, 0, none⟩) n n) ss) (hn : n = ss.length) (h8 : n ≤ 1048576) (hs : ∀ j, j < n → (ss.getD j []).length ≤ 1048576) (hF : ∀ q, w.heap.size ≤ q → F q) (hsg : ¬ segI ss id < n) :
  Calls Try.prog 164 #[.agg #[.int .i64 id, .int .i64 f, .int .i64 x], .slice (some ⟨g, 0, none⟩) n n, .int .i64 t] w (Applied w F (.slice (some ⟨g, 0, none⟩) n n) (ss) false) := by
 have d := Lib.hid ((Below.refl w.heap.size w).alloc (Nat.le_refl _) (.cells #[.int .i64 id, .int .i64 f, .int .i64 x] 118))
 have B0 : Hid ((w.alloc (.cells #[.int .i64 id, .int .i64 f, .int .i64 x] 118)).heap[w.heap.size]? = some (.cells #[.int .i64 id, .int .i64 f, .int .i64 x] 118 (0, 0))) := Lib.hid (heap_alloc_new w _)
 have YW : Hid (w.heap.size < (w.alloc (.cells #[.int .i64 id, .int .i64 f, .int .i64 x] 118)).heap.size) := Lib.hid (by simp [World.size_alloc])
 have PT := Lib.hid (slO_fresh tSegP_law (slO_lt tSegP_law h) d.out)
 have QT := Lib.hid (fun q (h : F q ∧ q < w.heap.size) => h)
 have PF := Lib.hid (slO_fresh tSegP_law h d.out)
 have HS := Lib.hid hs
 have HF := Lib.hid hF
 clear h hs hF
 have HN := Lib.hid hn
 have H8 := Lib.hid h8
 clear hn h8
 try (have HRM0 := Lib.hid hrm; clear hrm)
 try (have HSG0 := Lib.hid hsg; clear hsg)
 go_enter Try.func164, Try.ntmps164
 go_wp2_with fail
 generalize w.alloc (.cells #[.int .i64 id, .int .i64 f, .int .i64 x] 118) = w1 at *
 refine (alive_none g n F ss id w1 PF.out HN.out H8.out HS.out HSG0.out).mono ?_
 rintro e wx ⟨rfl, rfl⟩
 by_cases hrm : roomI ss < n
 ·
  go_wp2_with fail
  refine (room_some g n F ss wx PF.out HN.out H8.out HS.out hrm).mono ?_
  rintro e wy ⟨⟨rb, hrb, rfl⟩, rfl⟩
  clear hrb hrm
  unfold ptrV
  go_wp2
  go_ret
  exact ⟨rfl, PF.out, turn_below d.out⟩
 ·
  go_wp2_with fail
  refine (room_none g n F ss wx PF.out HN.out H8.out HS.out hrm).mono ?_
  rintro e wy ⟨rfl, rfl⟩
  clear hrm
  go_wp2
  go_ret
  exact ⟨rfl, PF.out, turn_below d.out⟩
set_option maxHeartbeats 16000000 in
set_option maxRecDepth 100000 in
theorem setApply_full (g n : Nat) (F : Nat → Prop) (ss : List (List VerD)) (id f x t : Int) (w : World) (h : SlO 102 tSegP w F (.slice (some ⟨g, 0, none⟩) n n) ss) (hn : n = ss.length) (h8 : n ≤ 1048576) (hs : ∀ j, j < n → (ss.getD j []).length ≤ 1048576) (hF : ∀ q, w.heap.size ≤ q → F q) (hsg : segI ss id < n) (hrm : ¬ roomI ss < n) :
  Calls Try.prog 164 #[.agg #[.int .i64 id, .int .i64 f, .int .i64 x], .slice (some ⟨g, 0, none⟩) n n, .int .i64 t] w (Applied w F (.slice (some ⟨g, 0, none⟩) n n) (ss) false) := by
 have d := Lib.hid ((Below.refl w.heap.size w).alloc (Nat.le_refl _) (.cells #[.int .i64 id, .int .i64 f, .int .i64 x] 118))
 have B0 : Hid ((w.alloc (.cells #[.int .i64 id, .int .i64 f, .int .i64 x] 118)).heap[w.heap.size]? = some (.cells #[.int .i64 id, .int .i64 f, .int .i64 x] 118 (0, 0))) := Lib.hid (heap_alloc_new w _)
 have YW : Hid (w.heap.size < (w.alloc (.cells #[.int .i64 id, .int .i64 f, .int .i64 x] 118)).heap.size) := Lib.hid (by simp [World.size_alloc])
 have PT := Lib.hid (slO_fresh tSegP_law (slO_lt tSegP_law h) d.out)
 have QT := Lib.hid (fun q (h : F q ∧ q < w.heap.size) => h)
 have PF := Lib.hid (slO_fresh tSegP_law h d.out)
 have HS := Lib.hid hs
 have HF := Lib.hid hF
 clear h hs hF
 have HN := Lib.hid hn
 have H8 := Lib.hid h8
 clear hn h8
 try (have HRM0 := Lib.hid hrm; clear hrm)
 try (have HSG0 := Lib.hid hsg; clear hsg)
 go_enter Try.func164, Try.ntmps164
 go_wp2_with fail
 generalize w.alloc (.cells #[.int .i64 id, .int .i64 f, .int .i64 x] 118) = w1 at *
 refine (alive_some g n F ss id w1 PF.out HN.out H8.out HS.out HSG0.out).mono ?_
 rintro e wx ⟨⟨ab, aq, ao, ac, hab, har, rfl⟩, rfl⟩
 clear hab har
 go_wp2_with fail
 refine (room_none g n F ss wx PF.out HN.out H8.out HS.out HRM0.out).mono ?_
 rintro e wy ⟨rfl, rfl⟩
 go_wp2
 go_ret
 exact ⟨rfl, PF.out, turn_below d.out⟩
set_option maxHeartbeats 16000000 in
set_option maxRecDepth 100000 in
theorem setApply (g n : Nat) (F : Nat → Prop) (ss : List (List VerD)) (id x t : Int) (fn : Nat) (w : World) (h : SlO 102 tSegP w F (.slice (some ⟨g, 0, none⟩) n n) ss) (hn : n = ss.length) (h8 : n ≤ 1048576) (hs : ∀ j, j < n → (ss.getD j []).length ≤ 1048576) (hF : ∀ q, w.heap.size ≤ q → F q) (hsg : segI ss id < n) (hrm : roomI ss < n) (hfn : fn < (oldV ss id).2.1.length) (hyn : (oldV ss id).2.1.length ≤ 1048576) :
  Calls Try.prog 164 #[.agg #[.int .i64 id, .int .i64 (fn : Int), .int .i64 x], .slice (some ⟨g, 0, none⟩) n n, .int .i64 t] w (Applied w F (.slice (some ⟨g, 0, none⟩) n n) (addL (dieL ss (segI ss id) (verI (ss.getD (segI ss id) []) id) t) (roomI ss) (id, (oldV ss id).2.1.set fn x, t, -1)) true) := by
 have hal := old_alive (ss := ss) (id := id) (by rw [← hn]; exact hsg)
 have HKX := Lib.hid hal.1
 have HVI := Lib.hid (alive_iff.1 hal.2).1
 have HSG : Hid (segI ss id < ss.length) := Lib.hid (by rw [← hn]; exact hsg)
 have HR : Hid (roomI ss < ss.length) := Lib.hid (by rw [← hn]; exact hrm)
 clear hal
 unfold oldV at *
 obtain ⟨ol, hol⟩ : ∃ ol, ol = (ss.getD (segI ss id) []).getD (verI (ss.getD (segI ss id) []) id) v0D := ⟨_, rfl⟩
 rw [← hol] at hfn hyn HVI ⊢
 have HOL := Lib.hid hol
 have HFN := Lib.hid hfn
 have HYN := Lib.hid hyn
 have f0 : (0 : Int) ≤ (fn : Int) := by omega
 clear hfn hyn hol
 have d := Lib.hid ((Below.refl w.heap.size w).alloc (Nat.le_refl _) (.cells #[.int .i64 id, .int .i64 (fn : Int), .int .i64 x] 118))
 have B0 : Hid ((w.alloc (.cells #[.int .i64 id, .int .i64 (fn : Int), .int .i64 x] 118)).heap[w.heap.size]? = some (.cells #[.int .i64 id, .int .i64 (fn : Int), .int .i64 x] 118 (0, 0))) := Lib.hid (heap_alloc_new w _)
 have YW : Hid (w.heap.size < (w.alloc (.cells #[.int .i64 id, .int .i64 (fn : Int), .int .i64 x] 118)).heap.size) := Lib.hid (by simp [World.size_alloc])
 have PT := Lib.hid (slO_fresh tSegP_law (slO_lt tSegP_law h) d.out)
 have QT := Lib.hid (fun q (h : F q ∧ q < w.heap.size) => h)
 have PF := Lib.hid (slO_fresh tSegP_law h d.out)
 have HS := Lib.hid hs
 have HF := Lib.hid hF
 clear h hs hF
 have HN := Lib.hid hn
 have H8 := Lib.hid h8
 clear hn h8
 try (have HRM0 := Lib.hid hrm; clear hrm)
 try (have HSG0 := Lib.hid hsg; clear hsg)
 go_enter Try.func164, Try.ntmps164
 go_wp2_with fail
 generalize w.alloc (.cells #[.int .i64 id, .int .i64 (fn : Int), .int .i64 x] 118) = w1 at *
 refine (alive_some g n F ss id w1 PF.out HN.out H8.out HS.out HSG0.out).mono ?_
 rintro e wx ⟨⟨ab, aq, ao, ac, hab, har, rfl⟩, rfl⟩
 generalize hi : segI ss id = i at *
 generalize hkx : verI (ss.getD i []) id = kx at *
 clear hi hkx
 have HAB := Lib.hid hab
 have HAR := Lib.hid har
 clear hab har
 have GLT := Lib.hid (tab_lt PF.out)
 go_wp2_with fail
 refine (room_some g n F ss wx PF.out HN.out H8.out HS.out HRM0.out).mono ?_
 rintro e wy ⟨⟨rb, hrb, rfl⟩, rfl⟩
 have RB := Lib.hid hrb
 clear hrb
 unfold ptrV
 obtain ⟨g7, c7, b7, q7, cc7, ya, yc, hv7, hc7, hb7, e0, e1, e2, e3, hx7, hq7⟩ := tab_ver PF.out HSG.out HKX.out
 simp only [Value.slice.injEq, Option.some.injEq, Addr.mk.injEq] at hv7
 obtain ⟨⟨rfl, _⟩, hl7, hc9⟩ := hv7
 have e5 := hc7.symm.trans HAB.out
 have e6 : b7 = ab := by simpa [ptrV] using e5
 have e7 := seg_row hb7 HAR.out e6
 simp only [Value.slice.injEq, Option.some.injEq, Addr.mk.injEq] at e7
 obtain ⟨⟨e8, e9, _⟩, _, _⟩ := e7
 subst e8
 subst e9
 rw [← HOL.out] at e0 e1 e2 e3 hx7
 clear hl7 hc9 e5 e6 hc7 hb7 hq7
 obtain ⟨vi, ys, vb, vd⟩ := ol
 simp only at e0 e1 e2 e3
 change Hid (vi = id) at HVI
 have hvi := HVI.out
 subst hvi
 change Hid (fn < ys.length) at HFN
 change Hid (ys.length ≤ 1048576) at HYN
 have HX7 : Hid (SlR tInt wy (.slice ya ys.length yc) ys) := Lib.hid hx7
 clear hx7 HVI HOL
 have CB := Lib.hid (Below.refl wy.heap.size wy)
 go_wp2_with fail
 clear e0 e1 e2 e3
 refine (verRow_any vi vb vd ya ys.length yc wy).mono ?_
 rintro e w2 ⟨rfl, c2⟩
 clear PF
 replace B0 := Lib.hid ((c2.block w.heap.size (Array.getElem?_eq_some_iff.1 B0.out).1).trans B0.out)
 replace PT := Lib.hid (slO_fresh tSegP_law PT.out c2)
 replace d := Lib.hid (d.out.trans (c2.mono d.out.size))
 have Z_w2 := Lib.hid (show wy.heap.size ≤ w2.heap.size from c2.size)
 replace CB := Lib.hid (CB.out.trans (c2.mono CB.out.size))
 clear c2
 go_wp2_with fail
 refine (newVersion_any vi t (.slice ya ys.length yc) ys w2 (slR_below tInt_law HX7.out CB.out) HYN.out).mono ?_
 rintro e w3 ⟨ua, uc, rfl, ox, c3⟩
 have PX : Hid (SlO 3 tInt w3 (fun q => wy.heap.size ≤ q ∧ q < w3.heap.size) (.slice ua ys.length uc) ys) := Lib.hid (slO_mono (slO_lt tInt_law ox) (fun q hq => ⟨Nat.le_trans CB.out.size hq.1, hq.2⟩))
 replace B0 := Lib.hid ((c3.block w.heap.size (Array.getElem?_eq_some_iff.1 B0.out).1).trans B0.out)
 replace PT := Lib.hid (slO_fresh tSegP_law PT.out c3)
 replace d := Lib.hid (d.out.trans (c3.mono d.out.size))
 have Z_w3 := Lib.hid (show w2.heap.size ≤ w3.heap.size from c3.size)
 have QX := Lib.hid (fun q (h : wy.heap.size ≤ q ∧ q < w3.heap.size) => h)
 replace CB := Lib.hid (CB.out.trans (c3.mono CB.out.size))
 clear ox c3
 go_upto_region 5 with fail
 have hal : Below w3.heap.size w3 (w3.alloc (.cells #[.int .i64 vi, .slice ua ys.length uc, .int .i64 t, .int .i64 (-1)] 88)) := (Below.refl _ _).alloc (Nat.le_refl _) _
 have BV := Lib.hid (heap_alloc_new w3 (.cells #[.int .i64 vi, .slice ua ys.length uc, .int .i64 t, .int .i64 (-1)] 88))
 have YV := Lib.hid (show w3.heap.size < (w3.alloc (.cells #[.int .i64 vi, .slice ua ys.length uc, .int .i64 t, .int .i64 (-1)] 88)).heap.size by simp [World.size_alloc])
 replace B0 := Lib.hid ((hal.block w.heap.size (Array.getElem?_eq_some_iff.1 B0.out).1).trans B0.out)
 replace PT := Lib.hid (slO_fresh tSegP_law PT.out hal)
 replace PX := Lib.hid (slO_fresh tInt_law PX.out hal)
 replace d := Lib.hid (d.out.trans (hal.mono d.out.size))
 replace CB := Lib.hid (CB.out.trans (hal.mono CB.out.size))
 clear hal
 generalize w3.alloc (.cells #[.int .i64 vi, .slice ua ys.length uc, .int .i64 t, .int .i64 (-1)] 88) = w4 at *
 obtain ⟨bg, bc, hv5, hF5, hb5, ⟨y5, hy5⟩, hz5, hput5⟩ := ints_poke PX.out HFN.out
 simp only [Value.slice.injEq] at hv5
 obtain ⟨rfl, _, rfl⟩ := hv5
 have HP5 := Lib.hid (hput5 x)
 have R5 := Lib.hid (QX.out _ hF5)
 have hfl := HFN.out
 have f1 : (fn : Int) < (ys.length : Int) := by omega
 clear hput5 hF5 hb5 hfl
 have p_BV_0 := (cell_of_row w4 _ 0 _ _ _ BV.out).trans (show _ = some (Value.int .i64 vi) from rfl)
 have p_BV_1 := (cell_of_row w4 _ 1 _ _ _ BV.out).trans (show _ = some (Value.slice (some ⟨bg, 0, none⟩) ys.length uc) from rfl)
 have p_BV_2 := (cell_of_row w4 _ 2 _ _ _ BV.out).trans (show _ = some (Value.int .i64 t) from rfl)
 have p_BV_3 := (cell_of_row w4 _ 3 _ _ _ BV.out).trans (show _ = some (Value.int .i64 (-1)) from rfl)
 have p_B0_0 := (cell_of_row w4 _ 0 _ _ _ B0.out).trans (show _ = some (Value.int .i64 vi) from rfl)
 have p_B0_1 := (cell_of_row w4 _ 1 _ _ _ B0.out).trans (show _ = some (Value.int .i64 (fn : Int)) from rfl)
 have p_B0_2 := (cell_of_row w4 _ 2 _ _ _ B0.out).trans (show _ = some (Value.int .i64 x) from rfl)
 go_upto_region 6 with fail
 clear hy5 hz5 p_BV_0 p_BV_1 p_BV_2 p_BV_3 p_B0_0 p_B0_1 p_B0_2
 have tt : Turn (fun q => q = bg) w4 (w4.setCell ⟨bg, fn, none⟩ (.int .i64 x)) := turn_set (G := fun q => q = bg) (g := bg) (j := fn) (u := .int .i64 x) rfl
 generalize (w4.setCell ⟨bg, fn, none⟩ (.int .i64 x)) = w5 at *
 replace CB := Lib.hid (below_turn CB.out tt (fun q h => by have r2 : q = bg := h; have r4 := R5.out; omega) CB.out.size)
 have y0 := YW.out
 have y1 := Z_w2.out
 have y2 := Z_w3.out
 have y3 := YV.out
 have yd : w.heap.size ≤ w4.heap.size := d.out.size
 replace B0 := Lib.hid ((tt.block w.heap.size (Array.getElem?_eq_some_iff.1 B0.out).1 (fun h => by have r2 : _ = bg := h; have r4 := R5.out; omega)).trans B0.out)
 replace BV := Lib.hid ((tt.block w3.heap.size (Array.getElem?_eq_some_iff.1 BV.out).1 (fun h => by have r2 : _ = bg := h; have r4 := R5.out; omega)).trans BV.out)
 replace PT := Lib.hid (slO_turn tSegP_law PT.out tt (fun b h1 h2 => by have r1 := QT.out b h1; have r2 : _ = bg := h2; have r4 := R5.out; omega))
 replace d := Lib.hid (below_turn d.out tt (fun b h => by have r2 : _ = bg := h; have r4 := R5.out; omega) (by omega))
 have Z_w5 := Lib.hid (show w4.heap.size ≤ w5.heap.size from tt.size)
 clear yd y0 y1 y2 y3
 replace PX := HP5
 clear HP5 tt
 obtain ⟨g8, c8, b8, q8, cc8, hv8, hc8, hb8, hF8, hq8, hn8, ⟨y8, hy8⟩, hz8, hput8⟩ := tab_die2 PT.out HSG.out HKX.out
 simp only [Value.slice.injEq, Option.some.injEq, Addr.mk.injEq] at hv8
 obtain ⟨⟨rfl, _⟩, hl8, hc9⟩ := hv8
 have habw := (CB.out.cell (p := ⟨_, i, none⟩) GLT.out).trans HAB.out
 have harw := (CB.out.block _ (Array.getElem?_eq_some_iff.1 HAR.out).1).trans HAR.out
 have e1 := hc8.symm.trans habw
 have e2 : b8 = ab := by simpa [ptrV] using e1
 have e3 := seg_row hb8 harw e2
 simp only [Value.slice.injEq, Option.some.injEq, Addr.mk.injEq] at e3
 obtain ⟨⟨e4, _⟩, _, _⟩ := e3
 subst e4
 have HP8 := Lib.hid (hput8 t)
 have HF8 := Lib.hid hF8
 have HN8 := Lib.hid hn8
 clear hput8 hc8 hb8 hF8 e1 e2 hl8 hc9 habw harw hn8 hq8
 go_upto_region 7 with fail
 clear hy8 hz8
 have rbw := (CB.out.cell (p := ⟨_, roomI ss, none⟩) GLT.out).trans RB.out
 have glt := Nat.lt_of_lt_of_le GLT.out CB.out.size
 have tt : Turn (fun q => q = q8) w5 (w5.setCell ⟨q8, kx * 4 + 3, none⟩ (.int .i64 t)) := turn_set (G := fun q => q = q8) (g := q8) (j := kx * 4 + 3) (u := .int .i64 t) rfl
 generalize (w5.setCell ⟨q8, kx * 4 + 3, none⟩ (.int .i64 t)) = w6 at *
 have rb6 := (cell_block (o := roomI ss) (tt.block _ glt (fun h => HN8.out h.symm))).trans rbw
 have RB6 := Lib.hid rb6
 have T6 : Hid (Turn F w w6) := Lib.hid ((turn_below (G := F) d.out).trans (tt.mono (fun q h => by have r2 : q = q8 := h; rw [r2]; exact HF8.out.1)))
 have Z6 := Lib.hid tt.size
 clear rbw glt rb6
 have y0 := YW.out
 have y1 := Z_w2.out
 have y2 := Z_w3.out
 have y3 := YV.out
 have y4 := Z_w5.out
 replace BV := Lib.hid ((tt.block w3.heap.size (Array.getElem?_eq_some_iff.1 BV.out).1 (fun h => by have r2 : _ = q8 := h; have r3 := HF8.out.2; omega)).trans BV.out)
 replace PX := Lib.hid (slO_turn tInt_law PX.out tt (fun q h1 h2 => by have r1 := QX.out q h1; have r2 : q = q8 := h2; have r3 := HF8.out.2; omega))
 have hsz : w.heap.size ≤ w6.heap.size := Nat.le_trans d.out.size tt.size
 have HSZ := Lib.hid hsz
 have PX2 := Lib.hid (slO_mono PX.out (F' := fun q => w.heap.size ≤ q) (fun q h => by have r1 := QX.out q h; show w.heap.size ≤ q; omega))
 clear tt hsz y0 y1 y2 y3 y4
 have HLD : Hid (((dieL ss i kx t).getD (roomI ss) []).length ≤ 1048576) := Lib.hid (by rw [die_seg_len]; exact HS.out _ HRM0.out)
 have HRD : Hid (roomI ss < (dieL ss i kx t).length) := Lib.hid (by rw [die_len]; exact HR.out)
 obtain ⟨g9, c9, b9, hv9, hc9, hadd⟩ := tab_add HP8.out HSZ.out HF.out HRD.out HLD.out vi t (-1) (some ⟨bg, 0, none⟩) uc (ys.set fn x) (by rw [List.length_set]; exact PX2.out)
 simp only [Value.slice.injEq, Option.some.injEq, Addr.mk.injEq] at hv9
 obtain ⟨⟨rfl, _⟩, hl9, _⟩ := hv9
 have hcb := hc9.symm.trans RB6.out
 have hbb : b9 = rb := by simpa [ptrV] using hcb
 subst hbb
 rw [List.length_set] at hadd
 have HADD := Lib.hid hadd
 clear hadd hcb hc9 hl9
 have p_BV_0 := (cell_of_row w6 _ 0 _ _ _ BV.out).trans (show _ = some (Value.int .i64 vi) from rfl)
 have p_BV_1 := (cell_of_row w6 _ 1 _ _ _ BV.out).trans (show _ = some (Value.slice (some ⟨bg, 0, none⟩) ys.length uc) from rfl)
 have p_BV_2 := (cell_of_row w6 _ 2 _ _ _ BV.out).trans (show _ = some (Value.int .i64 t) from rfl)
 have p_BV_3 := (cell_of_row w6 _ 3 _ _ _ BV.out).trans (show _ = some (Value.int .i64 (-1)) from rfl)
 go_wp2_with fail
 clear p_BV_0 p_BV_1 p_BV_2 p_BV_3
 refine HADD.out.mono ?_
 rintro e w7 ⟨rfl, o7, t7⟩
 have O7 := Lib.hid o7
 have T7 := Lib.hid t7
 clear o7 t7 HADD
 go_wp2
 go_ret
 exact ⟨rfl, O7.out, T6.out.trans (T7.out.mono (fun q h => h.1))⟩
set_option maxHeartbeats 2000000 in
set_option maxRecDepth 100000 in
theorem equalInts (v u : Value) (xs ys : List Int) (w : World) (h : Ints w v xs) (g : Ints w u ys) (hn : xs.length ≤ 1048576) (hm : ys.length ≤ 1048576) :
  Calls Try.prog 110 #[v, u] w fun e w' => e = .returned (.bool (decide (xs = ys))) ∧ Below w.heap.size w w' := by
 have H := Lib.hid h
 have G := Lib.hid g
 obtain ⟨a, cap, rfl⟩ := ints_len h
 obtain ⟨a2, cap2, rfl⟩ := ints_len g
 clear h g
 by_cases hl : xs.length = ys.length
 ·
  have HL := Lib.hid hl
  have hne : ((xs.length : Int) != (ys.length : Int)) = false := by rw [hl]; simp
  clear hl
  go_enter Try.func110, Try.ntmps110
  go_wp2
  clear hne
  go_loopw [13] (fun i wr => ∃ k : Nat, k ≤ xs.length ∧ i = .int .i64 k ∧ Hid (∀ j, j < k → xs.getD j 0 = ys.getD j 0) ∧ Below w.heap.size w wr) (fun i _ => xs.length - (intOf i).toNat)
  case atStart => exact ⟨0, Nat.zero_le _, rfl, Lib.hid (fun j hj => by omega), Below.refl _ _⟩
  case round =>
   obtain ⟨k, hk, rfl, hall, hbel⟩ := hrel
   by_cases hlt : k < xs.length
   ·
    obtain ⟨b, off, cap', hv, hbl, hc⟩ := ints_cell H.out (by omega)
    simp only [Value.slice.injEq] at hv
    obtain ⟨rfl, _, rfl⟩ := hv
    obtain ⟨b2, off2, cap2', hv2, hbl2, hc2⟩ := ints_cell G.out (by have := HL.out; omega)
    simp only [Value.slice.injEq] at hv2
    obtain ⟨rfl, _, rfl⟩ := hv2
    have hcell := (hbel.cell (p := ⟨b, off + k, none⟩) hbl).trans (hc k hlt)
    have hcell2 := (hbel.cell (p := ⟨b2, off2 + k, none⟩) hbl2).trans (hc2 k (by have := HL.out; omega))
    have i1 : (0 : Int) ≤ (k : Int) := by omega
    have i2 : (k : Int) < (xs.length : Int) := by omega
    have i3 : (k : Int) < (ys.length : Int) := by have := HL.out; omega
    clear hc hc2
    by_cases he : xs.getD k 0 = ys.getD k 0
    ·
     have HA : Hid (∀ j, j < k + 1 → xs.getD j 0 = ys.getD j 0) := Lib.hid (fun j hj => by
      by_cases e : j = k
      ·
       exact e ▸ he
      ·
       exact hall.out j (by omega))
     rw [← he] at hcell2
     clear he hall
     generalize xs.getD k 0 = y at hcell hcell2
     go_wp2
     go_quiet (fail)
     go_wp2
     go_roundw
     case rel => exact ⟨k + 1, by omega, by go_num, HA, below_dn hbel _⟩
     case measure => simp [intOf]; omega
    ·
     have HF := Lib.hid (decide_eq_false (list_ne_at hlt he))
     have heq : (xs.getD k 0 != ys.getD k 0) = true := by rw [bne_iff_ne]; exact he
     clear he hall
     generalize xs.getD k 0 = y at hcell heq
     generalize ys.getD k 0 = z at hcell2 heq
     go_wp2
     go_quiet (fail)
     go_wp2
     go_ret
     exact ⟨ret_b HF.out.symm, below_dn hbel _⟩
   ·
    obtain rfl : k = xs.length := by omega
    have HT := Lib.hid (decide_eq_true (list_eq_all HL.out hall.out))
    clear hall
    go_wp2
    go_ret
    exact ⟨ret_b HT.out.symm, hbel⟩
 ·
  have HF := Lib.hid (decide_eq_false (show ¬ xs = ys from fun e => hl (by rw [e])))
  have hne : ((xs.length : Int) != (ys.length : Int)) = true := by rw [bne_iff_ne]; omega
  clear hl
  go_enter Try.func110, Try.ntmps110
  go_wp2
  go_ret
  exact ⟨ret_b HF.out.symm, Below.refl _ _⟩
theorem ints_zero {w : World} {a : Option Addr} {n cap : Nat} (h : n = 0) : Ints w (.slice a n cap) [] := by subst h; exact Or.inl ⟨rfl, _, _, rfl⟩
theorem beyond_ints {W w : World} {b off cap : Nat} {xs : List Int} (hb : Below W.heap.size W w) (h2 : xs.length ≤ cap) (h3 : b < W.heap.size) (H : ∀ (j : Nat), j < xs.length → W.cell? ⟨b, off + j, none⟩ = some (.int .i64 (xs.getD j 0))) :
  Ints w (.slice (some ⟨b, off + (min 3 (xs.length : Int)).toNat, none⟩) (xs.length - (min 3 (xs.length : Int)).toNat) (cap - (min 3 (xs.length : Int)).toNat)) (xs.drop 3) := by
 by_cases hl : xs.length ≤ 3
 ·
  have e : xs.drop 3 = [] := List.drop_eq_nil_of_le hl
  have e2 : xs.length - (min 3 (xs.length : Int)).toNat = 0 := by omega
  rw [e, e2]
  exact Or.inl ⟨rfl, _, _, rfl⟩
 ·
  have e2 : (min 3 (xs.length : Int)).toNat = 3 := by omega
  rw [e2]
  refine Or.inr ⟨b, off + 3, cap - 3, by rw [List.length_drop], by rw [List.length_drop]; omega, Nat.lt_of_lt_of_le h3 hb.size, fun j hj => ?_⟩
  rw [List.length_drop] at hj
  have := (hb.cell (p := ⟨b, off + (3 + j), none⟩) h3).trans (H (3 + j) (by omega))
  rw [← Nat.add_assoc] at this
  rw [this]
  congr 2
  simp [List.getD, List.getElem?_drop]
set_option maxHeartbeats 4000000 in
set_option maxRecDepth 100000 in
theorem valuesBeyond_any (id : Int) (vv : Value) (xs : List Int) (w : World) (h : Ints w vv xs) (hn : xs.length ≤ 1048576) :
  Calls Try.prog 111 #[.agg #[.int .i64 id, vv]] w fun e w' => ∃ u, e = .returned u ∧ Ints w' u (xs.drop 3) ∧ Below w.heap.size w w' := by
 rcases h with ⟨rfl, a, cap, rfl⟩ | ⟨b, off, cap, rfl, h2, h3, h4⟩
 ·
  go_enter Try.func111, Try.ntmps111
  go_wp2
  all_goals
   go_ret
   exact ⟨_, rfl, Or.inl ⟨rfl, _, _, rfl⟩, (Below.refl _ w).alloc (Nat.le_refl _) _⟩
 ·
  have H := Lib.hid h4
  clear h4
  go_enter Try.func111, Try.ntmps111
  go_wp2
  ·
   go_ret
   have e : xs.drop 3 = [] := List.drop_eq_nil_of_le (by omega)
   have e2 : xs.length - (min 3 (xs.length : Int)).toNat = 0 := by omega
   refine ⟨_, rfl, ?_, (Below.refl _ w).alloc (Nat.le_refl _) _⟩
   rw [e]
   exact ints_zero e2
  ·
   go_ret
   exact ⟨_, rfl, beyond_ints ((Below.refl _ w).alloc (Nat.le_refl _) _) h2 h3 H.out, (Below.refl _ w).alloc (Nat.le_refl _) _⟩
theorem row_eq_parts (id id2 : Int) (xs ys : List Int) : decide (((id, xs) : RowD) = (id2, ys)) = ((id == id2 && (xs.length : Int) == (ys.length : Int) && (xs.getD 0 0 == ys.getD 0 0 && xs.getD 1 0 == ys.getD 1 0 && xs.getD 2 0 == ys.getD 2 0)) && decide (xs.drop 3 = ys.drop 3)) := by
 rw [Bool.eq_iff_iff]
 simp only [Bool.and_eq_true, decide_eq_true_eq, beq_iff_eq, Prod.mk.injEq]
 constructor
 ·
  rintro ⟨rfl, rfl⟩
  exact ⟨⟨⟨rfl, rfl⟩, ⟨rfl, rfl⟩, rfl⟩, rfl⟩
 ·
  rintro ⟨⟨⟨rfl, hl⟩, ⟨h0, h1⟩, h2⟩, h3⟩
  refine ⟨rfl, ?_⟩
  have hl' : xs.length = ys.length := by omega
  match xs, ys, hl', h0, h1, h2, h3 with
  | [], [], _, _, _, _, _ => rfl
  | [x], [y], _, h0, _, _, _ => simp at h0; rw [h0]
  | [x, x2], [y, y2], _, h0, h1, _, _ => simp at h0 h1; rw [h0, h1]
  | x :: x2 :: x3 :: r, y :: y2 :: y3 :: q, _, h0, h1, h2, h3 => simp at h0 h1 h2 h3; rw [h0, h1, h2, h3]
  | [], _ :: _, h, _, _, _, _ => simp at h
  | _ :: _, [], h, _, _, _, _ => simp at h
  | [_], _ :: _ :: _, h, _, _, _, _ => simp at h
  | _ :: _ :: _, [_], h, _, _, _, _ => simp at h
  | [_, _], _ :: _ :: _ :: _, h, _, _, _, _ => simp at h
  | _ :: _ :: _ :: _, [_, _], h, _, _, _, _ => simp at h
theorem box2 {W w : World} {g : Nat} {i j x y : Value} (g0 : W.heap[g]? = some (.cells #[i, x] 29 (0, 0))) (g1 : W.heap[g + 1]? = some (.cells #[j, y] 29 (0, 0))) (hz : g + 1 < W.heap.size) (hb : Below W.heap.size W w) :
  w.cell? ⟨g, 0, none⟩ = some i ∧ w.cell? ⟨g, 1, none⟩ = some x ∧ w.cell? ⟨g + 1, 0, none⟩ = some j ∧ w.cell? ⟨g + 1, 1, none⟩ = some y := by
 have h0 := (hb.block g (by omega)).trans g0
 have h1 := (hb.block (g + 1) hz).trans g1
 have a0 := cell_of_row w _ 0 _ _ _ h0
 have a1 := cell_of_row w _ 1 _ _ _ h0
 have a2 := cell_of_row w _ 0 _ _ _ h1
 have a3 := cell_of_row w _ 1 _ _ _ h1
 simp at a0 a1 a2 a3
 exact ⟨a0, a1, a2, a3⟩
set_option maxHeartbeats 8000000 in
set_option maxRecDepth 100000 in
theorem equalRow_any (id id2 : Int) (v u : Value) (xs ys : List Int) (w : World) (h : Ints w v xs) (g : Ints w u ys) (hn : xs.length ≤ 1048576) (hm : ys.length ≤ 1048576) :
  Calls Try.prog 94 #[.agg #[.int .i64 id, v], .agg #[.int .i64 id2, u]] w fun e w' => e = .returned (.bool (decide (((id, xs) : RowD) = (id2, ys)))) ∧ Below w.heap.size w w' := by
 have HP := Lib.hid (row_eq_parts id id2 xs ys)
 have HR1 := Lib.hid (fun w h => recordOf_any id v xs w h hn)
 have HR2 := Lib.hid (fun w h => recordOf_any id2 u ys w h hm)
 have HB1 := Lib.hid (fun w h => valuesBeyond_any id v xs w h hn)
 have HB2 := Lib.hid (fun w h => valuesBeyond_any id2 u ys w h hm)
 have HE := Lib.hid (fun w p q h g => equalInts p q (xs.drop 3) (ys.drop 3) w h g (by rw [List.length_drop]; omega) (by rw [List.length_drop]; omega))
 have HQ := Lib.hid (fun w => eql_rec id xs.length (xs.getD 0 0) (xs.getD 1 0) (xs.getD 2 0) id2 ys.length (ys.getD 0 0) (ys.getD 1 0) (ys.getD 2 0) w)
 have hgd := fun (o1 o2 : Operand) (xs ys : Array Value) (w : World) => guard_rec o1 o2 xs ys w
 have HV := Lib.hid h
 have HU := Lib.hid g
 unfold recV at HR1 HR2
 obtain ⟨a, cap, rfl⟩ := ints_len h
 obtain ⟨a2, cap2, rfl⟩ := ints_len g
 clear h g hn hm
 generalize xs.getD 0 0 = x0 at *
 generalize xs.getD 1 0 = x1 at *
 generalize xs.getD 2 0 = x2 at *
 generalize ys.getD 0 0 = y0 at *
 generalize ys.getD 1 0 = y1 at *
 generalize ys.getD 2 0 = y2 at *
 generalize decide (((id, xs) : RowD) = (id2, ys)) = r at *
 generalize decide (xs.drop 3 = ys.drop 3) = r2 at *
 generalize (id == id2 && (xs.length : Int) == (ys.length : Int) && (x0 == y0 && x1 == y1 && x2 == y2)) = r1 at *
 have hq := HQ.out
 clear HQ
 cases r1 with
 | false =>
  have HF : Hid (r = false) := Lib.hid (by rw [HP.out]; simp)
  clear HP
  go_enter Try.func94, Try.ntmps94
  go_wp2
  have hh : Below w.heap.size w ((w.alloc (.cells #[.int .i64 id, .slice a xs.length cap] 29)).alloc (.cells #[.int .i64 id2, .slice a2 ys.length cap2] 29)) := ((Below.refl _ w).alloc (Nat.le_refl _) _).alloc (by simp) _
  have g1 : ((w.alloc (.cells #[.int .i64 id, .slice a xs.length cap] 29)).alloc (.cells #[.int .i64 id2, .slice a2 ys.length cap2] 29)).heap[w.heap.size + 1]? = some (.cells #[.int .i64 id2, .slice a2 ys.length cap2] 29 (0, 0)) := by
   have := heap_alloc_new (w.alloc (.cells #[.int .i64 id, .slice a xs.length cap] 29)) (.cells #[.int .i64 id2, .slice a2 ys.length cap2] 29)
   simpa only [World.size_alloc] using this
  have g0 : ((w.alloc (.cells #[.int .i64 id, .slice a xs.length cap] 29)).alloc (.cells #[.int .i64 id2, .slice a2 ys.length cap2] 29)).heap[w.heap.size]? = some (.cells #[.int .i64 id, .slice a xs.length cap] 29 (0, 0)) := by
   rw [Below.heap_alloc _ _ _ (by simp)]
   exact heap_alloc_new w _
  have hz1 : w.heap.size + 1 < ((w.alloc (.cells #[.int .i64 id, .slice a xs.length cap] 29)).alloc (.cells #[.int .i64 id2, .slice a2 ys.length cap2] 29)).heap.size := by simp
  generalize ((w.alloc (.cells #[.int .i64 id, .slice a xs.length cap] 29)).alloc (.cells #[.int .i64 id2, .slice a2 ys.length cap2] 29)) = W at *
  have z1 := box2 g0 g1 hz1 (Below.refl _ W)
  refine wp_region_held_drew (S := fun w' => w'.cell? ⟨w.heap.size, 0, none⟩ = some (.int .i64 id) ∧ w'.cell? ⟨w.heap.size, 1, none⟩ = some (.slice a xs.length cap) ∧ w'.cell? ⟨w.heap.size + 1, 0, none⟩ = some (.int .i64 id2) ∧ w'.cell? ⟨w.heap.size + 1, 1, none⟩ = some (.slice a2 ys.length cap2)) (by kernel_rfl) ⟨z1.1, z1.2.1, z1.2.2.1, z1.2.2.2⟩ (fun hHeld => ?_)
  have cD : Below W.heap.size W W.drew := below_drew (Below.refl _ W)
  refine tR (i := 0) (v := ?_) ?_ ?_; rotate_left
  ·
   intro w hSw; (try dsimp only at hSw); go_simp; try (with_reducible rfl)
  try simp only [Act.put, lA, lB, lC]
  refine tR (i := 2) (v := ?_) ?_ ?_; rotate_left
  ·
   intro w hSw; (try dsimp only at hSw); go_simp; try (with_reducible rfl)
  try simp only [Act.put, lA, lB, lC]
  refine wpAnyH_ready (rs := [1]) (by kernel_rfl) (by simp) ?_
  refine AllReadyH.cons (o := _) (by simp only [hA, hB, hC]; rfl) (fun K hK => ?_) AllReadyH.nil
  go_simp
  refine (HR1.out _ (ints_below HV.out (hh.trans (cD.mono hh.size)))).mono ?_
  rintro e w1 ⟨rfl, bw1⟩
  have cw1 := cD.trans (bw1.mono cD.size)
  have z2 := box2 g0 g1 hz1 cw1
  refine hK.out _ _ ⟨z2.1, z2.2.1, z2.2.2.1, z2.2.2.2⟩ (fun hHeld => ?_)
  clear hK K
  try simp only [Act.put, lA, lB, lC]
  refine wpAnyH_ready (rs := [3]) (by kernel_rfl) (by simp) ?_
  refine AllReadyH.cons (o := _) (by simp only [hA, hB, hC]; rfl) (fun K hK => ?_) AllReadyH.nil
  go_simp
  refine (HR2.out _ (ints_below HU.out (hh.trans (cw1.mono hh.size)))).mono ?_
  rintro e w2 ⟨rfl, bw2⟩
  have cw2 := cw1.trans (bw2.mono cw1.size)
  have z3 := box2 g0 g1 hz1 cw2
  refine hK.out _ _ ⟨z3.1, z3.2.1, z3.2.2.1, z3.2.2.2⟩ (fun hHeld => ?_)
  clear hK K
  try simp only [Act.put, lA, lB, lC]
  refine tR (i := 4) (v := ?_) ?_ ?_; rotate_left
  ·
   intro w hSw; (try dsimp only at hSw); go_simp; try (with_reducible rfl)
  try simp only [Act.put, lA, lB, lC]
  refine tR (i := 5) (v := ?_) ?_ ?_; rotate_left
  ·
   intro w hSw; (try dsimp only at hSw); go_simp; try (with_reducible rfl)
  try simp only [Act.put, lA, lB, lC]
  refine tO (i := 6) ?_
  try simp only [Act.put, lA, lB, lC]
  refine tO (i := 7) ?_
  try simp only [Act.put, lA, lB, lC]
  refine tO (i := 8) ?_
  try simp only [Act.put, lA, lB, lC]
  refine tO (i := 9) ?_
  try simp only [Act.put, lA, lB, lC]
  refine tO (i := 10) ?_
  try simp only [Act.put, lA, lB, lC]
  refine tR (i := 11) (v := ?_) ?_ ?_; rotate_left
  ·
   intro w hSw; (try dsimp only at hSw); go_simp; try (with_reducible rfl)
  try simp only [Act.put, lA, lB, lC]
  refine tR (i := 12) (v := ?_) ?_ ?_; rotate_left
  ·
   intro w hSw; (try dsimp only at hSw); go_simp; try (with_reducible rfl)
  try simp only [Act.put, lA, lB, lC]
  refine wpAnyH_done (by kernel_rfl) ?_ _
  have b11 := hh.trans (cw2.mono hh.size)
  go_wp2
  go_ret
  exact ⟨ret_b HF.out.symm, b11⟩
 | true =>
  have HF : Hid (r = r2) := Lib.hid (by rw [HP.out]; simp)
  clear HP
  go_enter Try.func94, Try.ntmps94
  go_wp2
  have hh : Below w.heap.size w ((w.alloc (.cells #[.int .i64 id, .slice a xs.length cap] 29)).alloc (.cells #[.int .i64 id2, .slice a2 ys.length cap2] 29)) := ((Below.refl _ w).alloc (Nat.le_refl _) _).alloc (by simp) _
  have g1 : ((w.alloc (.cells #[.int .i64 id, .slice a xs.length cap] 29)).alloc (.cells #[.int .i64 id2, .slice a2 ys.length cap2] 29)).heap[w.heap.size + 1]? = some (.cells #[.int .i64 id2, .slice a2 ys.length cap2] 29 (0, 0)) := by
   have := heap_alloc_new (w.alloc (.cells #[.int .i64 id, .slice a xs.length cap] 29)) (.cells #[.int .i64 id2, .slice a2 ys.length cap2] 29)
   simpa only [World.size_alloc] using this
  have g0 : ((w.alloc (.cells #[.int .i64 id, .slice a xs.length cap] 29)).alloc (.cells #[.int .i64 id2, .slice a2 ys.length cap2] 29)).heap[w.heap.size]? = some (.cells #[.int .i64 id, .slice a xs.length cap] 29 (0, 0)) := by
   rw [Below.heap_alloc _ _ _ (by simp)]
   exact heap_alloc_new w _
  have hz1 : w.heap.size + 1 < ((w.alloc (.cells #[.int .i64 id, .slice a xs.length cap] 29)).alloc (.cells #[.int .i64 id2, .slice a2 ys.length cap2] 29)).heap.size := by simp
  generalize ((w.alloc (.cells #[.int .i64 id, .slice a xs.length cap] 29)).alloc (.cells #[.int .i64 id2, .slice a2 ys.length cap2] 29)) = W at *
  have z1 := box2 g0 g1 hz1 (Below.refl _ W)
  refine wp_region_held_drew (S := fun w' => w'.cell? ⟨w.heap.size, 0, none⟩ = some (.int .i64 id) ∧ w'.cell? ⟨w.heap.size, 1, none⟩ = some (.slice a xs.length cap) ∧ w'.cell? ⟨w.heap.size + 1, 0, none⟩ = some (.int .i64 id2) ∧ w'.cell? ⟨w.heap.size + 1, 1, none⟩ = some (.slice a2 ys.length cap2)) (by kernel_rfl) ⟨z1.1, z1.2.1, z1.2.2.1, z1.2.2.2⟩ (fun hHeld => ?_)
  have cD : Below W.heap.size W W.drew := below_drew (Below.refl _ W)
  refine tR (i := 0) (v := ?_) ?_ ?_; rotate_left
  ·
   intro w hSw; (try dsimp only at hSw); go_simp; try (with_reducible rfl)
  try simp only [Act.put, lA, lB, lC]
  refine tR (i := 2) (v := ?_) ?_ ?_; rotate_left
  ·
   intro w hSw; (try dsimp only at hSw); go_simp; try (with_reducible rfl)
  try simp only [Act.put, lA, lB, lC]
  refine wpAnyH_ready (rs := [1]) (by kernel_rfl) (by simp) ?_
  refine AllReadyH.cons (o := _) (by simp only [hA, hB, hC]; rfl) (fun K hK => ?_) AllReadyH.nil
  go_simp
  refine (HR1.out _ (ints_below HV.out (hh.trans (cD.mono hh.size)))).mono ?_
  rintro e w1 ⟨rfl, bw1⟩
  have cw1 := cD.trans (bw1.mono cD.size)
  have z2 := box2 g0 g1 hz1 cw1
  refine hK.out _ _ ⟨z2.1, z2.2.1, z2.2.2.1, z2.2.2.2⟩ (fun hHeld => ?_)
  clear hK K
  try simp only [Act.put, lA, lB, lC]
  refine wpAnyH_ready (rs := [3]) (by kernel_rfl) (by simp) ?_
  refine AllReadyH.cons (o := _) (by simp only [hA, hB, hC]; rfl) (fun K hK => ?_) AllReadyH.nil
  go_simp
  refine (HR2.out _ (ints_below HU.out (hh.trans (cw1.mono hh.size)))).mono ?_
  rintro e w2 ⟨rfl, bw2⟩
  have cw2 := cw1.trans (bw2.mono cw1.size)
  have z3 := box2 g0 g1 hz1 cw2
  refine hK.out _ _ ⟨z3.1, z3.2.1, z3.2.2.1, z3.2.2.2⟩ (fun hHeld => ?_)
  clear hK K
  try simp only [Act.put, lA, lB, lC]
  refine tR (i := 4) (v := ?_) ?_ ?_; rotate_left
  ·
   intro w hSw; (try dsimp only at hSw); go_simp; try (with_reducible rfl)
  try simp only [Act.put, lA, lB, lC]
  refine tR (i := 5) (v := ?_) ?_ ?_; rotate_left
  ·
   intro w hSw; (try dsimp only at hSw); go_simp; try (with_reducible rfl)
  try simp only [Act.put, lA, lB, lC]
  refine tR (i := 6) (v := ?_) ?_ ?_; rotate_left
  ·
   intro w hSw; (try dsimp only at hSw); go_simp; try (with_reducible rfl)
  try simp only [Act.put, lA, lB, lC]
  refine tR (i := 8) (v := ?_) ?_ ?_; rotate_left
  ·
   intro w hSw; (try dsimp only at hSw); go_simp; try (with_reducible rfl)
  try simp only [Act.put, lA, lB, lC]
  refine wpAnyH_ready (rs := [7]) (by kernel_rfl) (by simp) ?_
  refine AllReadyH.cons (o := _) (by simp only [hA, hB, hC]; rfl) (fun K hK => ?_) AllReadyH.nil
  go_simp
  refine (HB1.out _ (ints_below HV.out (hh.trans (cw2.mono hh.size)))).mono ?_
  rintro e w3 ⟨xw3, rfl, iw3, bw3⟩
  have cw3 := cw2.trans (bw3.mono cw2.size)
  have z4 := box2 g0 g1 hz1 cw3
  refine hK.out _ _ ⟨z4.1, z4.2.1, z4.2.2.1, z4.2.2.2⟩ (fun hHeld => ?_)
  clear hK K
  try simp only [Act.put, lA, lB, lC]
  refine wpAnyH_ready (rs := [9]) (by kernel_rfl) (by simp) ?_
  refine AllReadyH.cons (o := _) (by simp only [hA, hB, hC]; rfl) (fun K hK => ?_) AllReadyH.nil
  go_simp
  refine (HB2.out _ (ints_below HU.out (hh.trans (cw3.mono hh.size)))).mono ?_
  rintro e w4 ⟨xw4, rfl, iw4, bw4⟩
  have cw4 := cw3.trans (bw4.mono cw3.size)
  have z5 := box2 g0 g1 hz1 cw4
  refine hK.out _ _ ⟨z5.1, z5.2.1, z5.2.2.1, z5.2.2.2⟩ (fun hHeld => ?_)
  clear hK K
  try simp only [Act.put, lA, lB, lC]
  refine wpAnyH_ready (rs := [10]) (by kernel_rfl) (by simp) ?_
  refine AllReadyH.cons (o := _) (by simp only [hA, hB, hC]; rfl) (fun K hK => ?_) AllReadyH.nil
  go_simp
  refine (HE.out _ xw3 xw4 (ints_below iw3 bw4) iw4).mono ?_
  rintro e w5 ⟨rfl, bw5⟩
  have cw5 := cw4.trans (bw5.mono cw4.size)
  have z6 := box2 g0 g1 hz1 cw5
  refine hK.out _ _ ⟨z6.1, z6.2.1, z6.2.2.1, z6.2.2.2⟩ (fun hHeld => ?_)
  clear hK K
  try simp only [Act.put, lA, lB, lC]
  refine tR (i := 11) (v := ?_) ?_ ?_; rotate_left
  ·
   intro w hSw; (try dsimp only at hSw); go_simp; try (with_reducible rfl)
  try simp only [Act.put, lA, lB, lC]
  refine tR (i := 12) (v := ?_) ?_ ?_; rotate_left
  ·
   intro w hSw; (try dsimp only at hSw); go_simp; try (with_reducible rfl)
  try simp only [Act.put, lA, lB, lC]
  refine wpAnyH_done (by kernel_rfl) ?_ _
  have b11 := hh.trans (cw5.mono hh.size)
  go_wp2
  go_ret
  exact ⟨ret_b HF.out.symm, b11⟩
theorem uField_yes (n : Int) (w : World) (h1 : 0 ≤ n) (h2 : n < 3) : Calls Try.prog 168 #[.int .i64 n] w fun e w' => e = .returned (.bool true) ∧ w' = w := by
 go_enter Try.func168, Try.ntmps168
 go_wp2
 go_ret
 exact ⟨rfl, rfl⟩
theorem uField_no (n : Int) (w : World) (h : ¬ (0 ≤ n ∧ n ≤ 2)) : Calls Try.prog 168 #[.int .i64 n] w fun e w' => e = .returned (.bool false) ∧ w' = w := by
 by_cases h1 : 0 ≤ n
 ·
  have h2 : ¬ n < 3 := fun g => h ⟨h1, by omega⟩
  have h3 : decide (n < 3) = false := decide_eq_false h2
  clear h
  go_enter Try.func168, Try.ntmps168
  go_wp2
  go_ret
  exact ⟨rfl, rfl⟩
 ·
  have h3 : decide (0 ≤ n) = false := decide_eq_false h1
  clear h
  go_enter Try.func168, Try.ntmps168
  go_wp2
  go_ret
  exact ⟨rfl, rfl⟩
theorem uValue_yes (n : Int) (w : World) (h1 : 0 ≤ n) (h2 : n ≤ 99) : Calls Try.prog 169 #[.int .i64 n] w fun e w' => e = .returned (.bool true) ∧ w' = w := by
 go_enter Try.func169, Try.ntmps169
 go_wp2
 go_ret
 exact ⟨rfl, rfl⟩
theorem uValue_no (n : Int) (w : World) (h : ¬ (0 ≤ n ∧ n ≤ 99)) : Calls Try.prog 169 #[.int .i64 n] w fun e w' => e = .returned (.bool false) ∧ w' = w := by
 by_cases h1 : 0 ≤ n
 ·
  have h2 : ¬ n ≤ 99 := fun g => h ⟨h1, g⟩
  have h3 : decide (n ≤ 99) = false := decide_eq_false h2
  clear h
  go_enter Try.func169, Try.ntmps169
  go_wp2
  go_ret
  exact ⟨rfl, rfl⟩
 ·
  have h3 : decide (0 ≤ n) = false := decide_eq_false h1
  clear h
  go_enter Try.func169, Try.ntmps169
  go_wp2
  go_ret
  exact ⟨rfl, rfl⟩
set_option maxHeartbeats 8000000 in
set_option maxRecDepth 100000 in
theorem insValid (id : Int) (vv : Value) (xs : List Int) (w : World) (h : Ints w vv xs) (hn : xs.length ≤ 1048576) :
  Calls Try.prog 138 #[.agg #[.int .i64 id, vv]] w fun e w' => e = .returned (.bool (rowB (id, xs))) ∧ Below w.heap.size w w' := by
 obtain ⟨va, vc, rfl⟩ := ints_len h
 have hal : Below w.heap.size w (w.alloc (.cells #[.int .i64 id, .slice va xs.length vc] 114)) := (Below.refl _ _).alloc (Nat.le_refl _) _
 have HR := Lib.hid (implIsRow id (.slice va xs.length vc) xs (w.alloc (.cells #[.int .i64 id, .slice va xs.length vc] 114)) (ints_below h hal) hn)
 clear h
 go_enter Try.func138, Try.ntmps138
 go_wp2_with fail
 refine HR.out.mono ?_
 rintro e w1 ⟨rfl, b1⟩
 have b2 := hal.trans (b1.mono hal.size)
 go_wp2
 go_ret
 exact ⟨rfl, b2⟩
set_option maxHeartbeats 8000000 in
set_option maxRecDepth 100000 in
theorem delValid_yes (id : Int) (w : World) (h1 : 0 ≤ id) (h2 : id ≤ 999) :
  Calls Try.prog 161 #[.agg #[.int .i64 id]] w fun e w' => e = .returned (.bool true) ∧ Below w.heap.size w w' := by
 have HI := Lib.hid (fun W => isRowId_yes id W h1 h2)
 have hal : Below w.heap.size w (w.alloc (.cells #[.int .i64 id] 116)) := (Below.refl _ _).alloc (Nat.le_refl _) _
 go_enter Try.func161, Try.ntmps161
 go_wp2_with fail
 refine (HI.out _).mono ?_
 rintro e wx ⟨rfl, rfl⟩
 go_wp2
 go_ret
 exact ⟨rfl, hal⟩
set_option maxHeartbeats 8000000 in
set_option maxRecDepth 100000 in
theorem delValid_no (id : Int) (w : World) (h : ¬ (0 ≤ id ∧ id ≤ 999)) :
  Calls Try.prog 161 #[.agg #[.int .i64 id]] w fun e w' => e = .returned (.bool false) ∧ Below w.heap.size w w' := by
 have HI := Lib.hid (fun W => isRowId_no id W h)
 have hal : Below w.heap.size w (w.alloc (.cells #[.int .i64 id] 116)) := (Below.refl _ _).alloc (Nat.le_refl _) _
 go_enter Try.func161, Try.ntmps161
 go_wp2_with fail
 refine (HI.out _).mono ?_
 rintro e wx ⟨rfl, rfl⟩
 go_wp2
 go_ret
 exact ⟨rfl, hal⟩
set_option maxHeartbeats 8000000 in
set_option maxRecDepth 100000 in
theorem setValid (id f x : Int) (w : World) :
  Calls Try.prog 165 #[.agg #[.int .i64 id, .int .i64 f, .int .i64 x]] w fun e w' => e = .returned (.bool (decide ((0 ≤ id ∧ id ≤ 999) ∧ (0 ≤ f ∧ f ≤ 2) ∧ (0 ≤ x ∧ x ≤ 99)))) ∧ Below w.heap.size w w' := by
 have hal : Below w.heap.size w (w.alloc (.cells #[.int .i64 id, .int .i64 f, .int .i64 x] 118)) := (Below.refl _ _).alloc (Nat.le_refl _) _
 by_cases hi : 0 ≤ id ∧ id ≤ 999
 rotate_left
 ·
  rw [decide_eq_false (fun g => hi g.1)]
  have HI := Lib.hid (fun W => isRowId_no id W hi)
  clear hi
  go_enter Try.func165, Try.ntmps165
  go_wp2_with fail
  refine (HI.out _).mono ?_
  rintro e wx ⟨rfl, rfl⟩
  go_wp2
  go_ret
  exact ⟨rfl, hal⟩
 have HI := Lib.hid (fun W => isRowId_yes id W hi.1 hi.2)
 by_cases hf : 0 ≤ f ∧ f ≤ 2
 rotate_left
 ·
  rw [decide_eq_false (fun g => hf g.2.1)]
  have HF := Lib.hid (fun W => uField_no f W hf)
  clear hi hf
  go_enter Try.func165, Try.ntmps165
  go_wp2_with fail
  refine (HI.out _).mono ?_
  rintro e wx ⟨rfl, rfl⟩
  go_wp2_with fail
  refine (HF.out _).mono ?_
  rintro e wx ⟨rfl, rfl⟩
  go_wp2
  go_ret
  exact ⟨rfl, hal⟩
 have HF := Lib.hid (fun W => uField_yes f W hf.1 (by omega))
 by_cases hx : 0 ≤ x ∧ x ≤ 99
 rotate_left
 ·
  rw [decide_eq_false (fun g => hx g.2.2)]
  have HX := Lib.hid (fun W => uValue_no x W hx)
  clear hi hf hx
  go_enter Try.func165, Try.ntmps165
  go_wp2_with fail
  refine (HI.out _).mono ?_
  rintro e wx ⟨rfl, rfl⟩
  go_wp2_with fail
  refine (HF.out _).mono ?_
  rintro e wx ⟨rfl, rfl⟩
  go_wp2_with fail
  refine (HX.out _).mono ?_
  rintro e wx ⟨rfl, rfl⟩
  go_wp2
  go_ret
  exact ⟨rfl, hal⟩
 have HX := Lib.hid (fun W => uValue_yes x W hx.1 hx.2)
 rw [decide_eq_true ⟨hi, hf, hx⟩]
 clear hi hf hx
 go_enter Try.func165, Try.ntmps165
 go_wp2_with fail
 refine (HI.out _).mono ?_
 rintro e wx ⟨rfl, rfl⟩
 go_wp2_with fail
 refine (HF.out _).mono ?_
 rintro e wx ⟨rfl, rfl⟩
 go_wp2_with fail
 refine (HX.out _).mono ?_
 rintro e wx ⟨rfl, rfl⟩
 go_wp2
 go_ret
 exact ⟨rfl, hal⟩
set_option maxHeartbeats 8000000 in
set_option maxRecDepth 100000 in
theorem insUpdate (id : Int) (va : Option Addr) (n vc : Nat) (w : World) :
  Calls Try.prog 139 #[.agg #[.int .i64 id, .slice va n vc]] w fun e w' => e = .returned (.agg #[.int .i64 1, .int .i64 id, .slice va n vc, .int .i64 0, .int .i64 0]) ∧ Below w.heap.size w w' := by
 go_enter Try.func139, Try.ntmps139
 go_wp2
 refine bodyPost_ret (v := .agg #[.int .i64 1, .int .i64 id, .slice va n vc, .int .i64 0, .int .i64 0]) ?_ rfl ⟨rfl, ((Below.refl _ _).alloc (Nat.le_refl _) _).alloc (by simp) _⟩
 simp [results, Try.f139, go_sem]
set_option maxHeartbeats 8000000 in
set_option maxRecDepth 100000 in
theorem delUpdate (id : Int) (w : World) :
  Calls Try.prog 162 #[.agg #[.int .i64 id]] w fun e w' => e = .returned (.agg #[.int .i64 2, .int .i64 id, .slice none 0 0, .int .i64 0, .int .i64 0]) ∧ Below w.heap.size w w' := by
 go_enter Try.func162, Try.ntmps162
 go_wp2
 refine bodyPost_ret (v := .agg #[.int .i64 2, .int .i64 id, .slice none 0 0, .int .i64 0, .int .i64 0]) ?_ rfl ⟨rfl, ((Below.refl _ _).alloc (Nat.le_refl _) _).alloc (by simp) _⟩
 simp [results, Try.f162, go_sem]
set_option maxHeartbeats 8000000 in
set_option maxRecDepth 100000 in
theorem setUpdate (id f x : Int) (w : World) :
  Calls Try.prog 166 #[.agg #[.int .i64 id, .int .i64 f, .int .i64 x]] w fun e w' => e = .returned (.agg #[.int .i64 3, .int .i64 id, .slice none 0 0, .int .i64 f, .int .i64 x]) ∧ Below w.heap.size w w' := by
 go_enter Try.func166, Try.ntmps166
 go_wp2
 refine bodyPost_ret (v := .agg #[.int .i64 3, .int .i64 id, .slice none 0 0, .int .i64 f, .int .i64 x]) ?_ rfl ⟨rfl, ((Below.refl _ _).alloc (Nat.le_refl _) _).alloc (by simp) _⟩
 simp [results, Try.f166, go_sem]
set_option maxHeartbeats 8000000 in
set_option maxRecDepth 100000 in
theorem implEqualUpdate (k id f x k2 id2 f2 x2 : Int) (v u : Value) (xs ys : List Int) (w : World) (h : Ints w v xs) (g : Ints w u ys) (hn : xs.length ≤ 1048576) (hm : ys.length ≤ 1048576) :
  Calls Try.prog 74 #[.agg #[.int .i64 k, .int .i64 id, v, .int .i64 f, .int .i64 x], .agg #[.int .i64 k2, .int .i64 id2, u, .int .i64 f2, .int .i64 x2]] w fun e w' => e = .returned (.bool (decide (k = k2 ∧ ((id, xs) : RowD) = (id2, ys) ∧ f = f2 ∧ x = x2))) ∧ Below w.heap.size w w' := by
 obtain ⟨va, vc, rfl⟩ := ints_len h
 obtain ⟨ua, uc, rfl⟩ := ints_len g
 have d := Lib.hid (show Below w.heap.size w ((w.alloc (.cells #[.int .i64 k, .int .i64 id, .slice va xs.length vc, .int .i64 f, .int .i64 x] 31)).alloc (.cells #[.int .i64 k2, .int .i64 id2, .slice ua ys.length uc, .int .i64 f2, .int .i64 x2] 31)) from ((Below.refl _ _).alloc (Nat.le_refl _) _).alloc (by simp) _)
 have K0 : Hid (((w.alloc (.cells #[.int .i64 k, .int .i64 id, .slice va xs.length vc, .int .i64 f, .int .i64 x] 31)).alloc (.cells #[.int .i64 k2, .int .i64 id2, .slice ua ys.length uc, .int .i64 f2, .int .i64 x2] 31)).heap[w.heap.size]? = some (.cells #[.int .i64 k, .int .i64 id, .slice va xs.length vc, .int .i64 f, .int .i64 x] 31 (0, 0))) := Lib.hid (by rw [Below.heap_alloc _ _ _ (by simp)]; exact heap_alloc_new w _)
 have K1 : Hid (((w.alloc (.cells #[.int .i64 k, .int .i64 id, .slice va xs.length vc, .int .i64 f, .int .i64 x] 31)).alloc (.cells #[.int .i64 k2, .int .i64 id2, .slice ua ys.length uc, .int .i64 f2, .int .i64 x2] 31)).heap[w.heap.size + 1]? = some (.cells #[.int .i64 k2, .int .i64 id2, .slice ua ys.length uc, .int .i64 f2, .int .i64 x2] 31 (0, 0))) := Lib.hid (by
  have := heap_alloc_new (w.alloc (.cells #[.int .i64 k, .int .i64 id, .slice va xs.length vc, .int .i64 f, .int .i64 x] 31)) (.cells #[.int .i64 k2, .int .i64 id2, .slice ua ys.length uc, .int .i64 f2, .int .i64 x2] 31)
  simpa only [World.size_alloc] using this)
 have Y : Hid (w.heap.size + 1 < ((w.alloc (.cells #[.int .i64 k, .int .i64 id, .slice va xs.length vc, .int .i64 f, .int .i64 x] 31)).alloc (.cells #[.int .i64 k2, .int .i64 id2, .slice ua ys.length uc, .int .i64 f2, .int .i64 x2] 31)).heap.size) := Lib.hid (by simp)
 have HE := Lib.hid (equalRow_any id id2 (.slice va xs.length vc) (.slice ua ys.length uc) xs ys ((w.alloc (.cells #[.int .i64 k, .int .i64 id, .slice va xs.length vc, .int .i64 f, .int .i64 x] 31)).alloc (.cells #[.int .i64 k2, .int .i64 id2, .slice ua ys.length uc, .int .i64 f2, .int .i64 x2] 31)) (ints_below h d.out) (ints_below g d.out) hn hm)
 clear h g
 by_cases hk : k = k2
 rotate_left
 ·
  rw [decide_eq_false (fun q => hk q.1)]
  have ek : (k == k2) = false := by simp [hk]
  clear hk HE
  go_enter Try.func74, Try.ntmps74
  go_wp2
  go_ret
  exact ⟨rfl, d.out⟩
 have ek : (k == k2) = true := by simp [hk]
 by_cases hr : ((id, xs) : RowD) = (id2, ys)
 rotate_left
 ·
  rw [decide_eq_false (fun q => hr q.2.1)]
  rw [decide_eq_false hr] at HE
  clear hk hr
  go_enter Try.func74, Try.ntmps74
  go_wp2_with fail
  refine HE.out.mono ?_
  rintro e w1 ⟨rfl, c1⟩
  have k0 := (c1.block w.heap.size (by have := Y.out; omega)).trans K0.out
  have k1 := (c1.block (w.heap.size + 1) Y.out).trans K1.out
  have d2 := Lib.hid (d.out.trans (c1.mono d.out.size))
  have p0 := (cell_of_row w1 _ 0 _ _ _ k0).trans (show _ = some (Value.int .i64 k) from rfl)
  have p1 := (cell_of_row w1 _ 1 _ _ _ k0).trans (show _ = some (Value.int .i64 id) from rfl)
  have p2 := (cell_of_row w1 _ 2 _ _ _ k0).trans (show _ = some (Value.slice va xs.length vc) from rfl)
  have p3 := (cell_of_row w1 _ 3 _ _ _ k0).trans (show _ = some (Value.int .i64 f) from rfl)
  have p4 := (cell_of_row w1 _ 4 _ _ _ k0).trans (show _ = some (Value.int .i64 x) from rfl)
  have q0 := (cell_of_row w1 _ 0 _ _ _ k1).trans (show _ = some (Value.int .i64 k2) from rfl)
  have q1 := (cell_of_row w1 _ 1 _ _ _ k1).trans (show _ = some (Value.int .i64 id2) from rfl)
  have q2 := (cell_of_row w1 _ 2 _ _ _ k1).trans (show _ = some (Value.slice ua ys.length uc) from rfl)
  have q3 := (cell_of_row w1 _ 3 _ _ _ k1).trans (show _ = some (Value.int .i64 f2) from rfl)
  have q4 := (cell_of_row w1 _ 4 _ _ _ k1).trans (show _ = some (Value.int .i64 x2) from rfl)
  clear k0 k1 c1
  go_wp2
  go_ret
  exact ⟨rfl, d2.out⟩
 rw [decide_eq_true hr] at HE
 by_cases hf : f = f2
 rotate_left
 ·
  rw [decide_eq_false (fun q => hf q.2.2.1)]
  have ef : (f == f2) = false := by simp [hf]
  clear hk hr hf
  go_enter Try.func74, Try.ntmps74
  go_wp2_with fail
  refine HE.out.mono ?_
  rintro e w1 ⟨rfl, c1⟩
  have k0 := (c1.block w.heap.size (by have := Y.out; omega)).trans K0.out
  have k1 := (c1.block (w.heap.size + 1) Y.out).trans K1.out
  have d2 := Lib.hid (d.out.trans (c1.mono d.out.size))
  have p0 := (cell_of_row w1 _ 0 _ _ _ k0).trans (show _ = some (Value.int .i64 k) from rfl)
  have p1 := (cell_of_row w1 _ 1 _ _ _ k0).trans (show _ = some (Value.int .i64 id) from rfl)
  have p2 := (cell_of_row w1 _ 2 _ _ _ k0).trans (show _ = some (Value.slice va xs.length vc) from rfl)
  have p3 := (cell_of_row w1 _ 3 _ _ _ k0).trans (show _ = some (Value.int .i64 f) from rfl)
  have p4 := (cell_of_row w1 _ 4 _ _ _ k0).trans (show _ = some (Value.int .i64 x) from rfl)
  have q0 := (cell_of_row w1 _ 0 _ _ _ k1).trans (show _ = some (Value.int .i64 k2) from rfl)
  have q1 := (cell_of_row w1 _ 1 _ _ _ k1).trans (show _ = some (Value.int .i64 id2) from rfl)
  have q2 := (cell_of_row w1 _ 2 _ _ _ k1).trans (show _ = some (Value.slice ua ys.length uc) from rfl)
  have q3 := (cell_of_row w1 _ 3 _ _ _ k1).trans (show _ = some (Value.int .i64 f2) from rfl)
  have q4 := (cell_of_row w1 _ 4 _ _ _ k1).trans (show _ = some (Value.int .i64 x2) from rfl)
  clear k0 k1 c1
  go_wp2
  go_ret
  exact ⟨rfl, d2.out⟩
 have ef : (f == f2) = true := by simp [hf]
 by_cases hx : x = x2
 rotate_left
 ·
  rw [decide_eq_false (fun q => hx q.2.2.2)]
  have ex : (x == x2) = false := by simp [hx]
  clear hk hr hf hx
  go_enter Try.func74, Try.ntmps74
  go_wp2_with fail
  refine HE.out.mono ?_
  rintro e w1 ⟨rfl, c1⟩
  have k0 := (c1.block w.heap.size (by have := Y.out; omega)).trans K0.out
  have k1 := (c1.block (w.heap.size + 1) Y.out).trans K1.out
  have d2 := Lib.hid (d.out.trans (c1.mono d.out.size))
  have p0 := (cell_of_row w1 _ 0 _ _ _ k0).trans (show _ = some (Value.int .i64 k) from rfl)
  have p1 := (cell_of_row w1 _ 1 _ _ _ k0).trans (show _ = some (Value.int .i64 id) from rfl)
  have p2 := (cell_of_row w1 _ 2 _ _ _ k0).trans (show _ = some (Value.slice va xs.length vc) from rfl)
  have p3 := (cell_of_row w1 _ 3 _ _ _ k0).trans (show _ = some (Value.int .i64 f) from rfl)
  have p4 := (cell_of_row w1 _ 4 _ _ _ k0).trans (show _ = some (Value.int .i64 x) from rfl)
  have q0 := (cell_of_row w1 _ 0 _ _ _ k1).trans (show _ = some (Value.int .i64 k2) from rfl)
  have q1 := (cell_of_row w1 _ 1 _ _ _ k1).trans (show _ = some (Value.int .i64 id2) from rfl)
  have q2 := (cell_of_row w1 _ 2 _ _ _ k1).trans (show _ = some (Value.slice ua ys.length uc) from rfl)
  have q3 := (cell_of_row w1 _ 3 _ _ _ k1).trans (show _ = some (Value.int .i64 f2) from rfl)
  have q4 := (cell_of_row w1 _ 4 _ _ _ k1).trans (show _ = some (Value.int .i64 x2) from rfl)
  clear k0 k1 c1
  go_wp2
  go_ret
  exact ⟨rfl, d2.out⟩
 have ex : (x == x2) = true := by simp [hx]
 rw [decide_eq_true ⟨hk, hr, hf, hx⟩]
 clear hk hr hf hx
 go_enter Try.func74, Try.ntmps74
 go_wp2_with fail
 refine HE.out.mono ?_
 rintro e w1 ⟨rfl, c1⟩
 have k0 := (c1.block w.heap.size (by have := Y.out; omega)).trans K0.out
 have k1 := (c1.block (w.heap.size + 1) Y.out).trans K1.out
 have d2 := Lib.hid (d.out.trans (c1.mono d.out.size))
 have p0 := (cell_of_row w1 _ 0 _ _ _ k0).trans (show _ = some (Value.int .i64 k) from rfl)
 have p1 := (cell_of_row w1 _ 1 _ _ _ k0).trans (show _ = some (Value.int .i64 id) from rfl)
 have p2 := (cell_of_row w1 _ 2 _ _ _ k0).trans (show _ = some (Value.slice va xs.length vc) from rfl)
 have p3 := (cell_of_row w1 _ 3 _ _ _ k0).trans (show _ = some (Value.int .i64 f) from rfl)
 have p4 := (cell_of_row w1 _ 4 _ _ _ k0).trans (show _ = some (Value.int .i64 x) from rfl)
 have q0 := (cell_of_row w1 _ 0 _ _ _ k1).trans (show _ = some (Value.int .i64 k2) from rfl)
 have q1 := (cell_of_row w1 _ 1 _ _ _ k1).trans (show _ = some (Value.int .i64 id2) from rfl)
 have q2 := (cell_of_row w1 _ 2 _ _ _ k1).trans (show _ = some (Value.slice ua ys.length uc) from rfl)
 have q3 := (cell_of_row w1 _ 3 _ _ _ k1).trans (show _ = some (Value.int .i64 f2) from rfl)
 have q4 := (cell_of_row w1 _ 4 _ _ _ k1).trans (show _ = some (Value.int .i64 x2) from rfl)
 clear k0 k1 c1
 go_wp2
 go_ret
 exact ⟨rfl, d2.out⟩
end Go.Proofs.Ythiiaiholcfhhaa
