/-
  Texts of the proof, merged: TActiveS, TFinished, TFinishedS, TCharge, TChargeS, TEngine, EngBr, VerSpec1, TyApp, Raw, VerBr, VerSpec2, VerSpec4, FlatT, VerSpec3, BrRow, RowInsM, RowSort, VerSpec5, NewMath, VerSpec6, VerSpec7, UpdSpec2, UpdSpec3.
-/
import Derived.Test.YtdhglmoanpkeoaaNE1
import Derived.BigQuiet
import Derived.Deep.QuietTactic
import Derived.Deep.RegionHeld3
import Derived.Maps.AppendAt
import Derived.Deep.Upon
import Derived.Deep.Slices
namespace Go.Proofs.Ytdhglmoanpkeoaa
open Go.RowKit
set_option linter.unusedVariables false
set_option linter.unusedSimpArgs false
abbrev tActiveS : Ty (List ((Int × Int × List (Int × Int × Int) × List Int) × Int × List Int × Int × Int × Int × List (Int × List Int))) := tSl 92 tActive
theorem tActiveS_law : tActiveS.Law := tSl_law tActive_law (by decide)
set_option maxHeartbeats 8000000 in
set_option maxRecDepth 100000 in
theorem eqActiveS_S (v u : Value) (xs : List ((Int × Int × List (Int × Int × Int) × List Int) × Int × List Int × Int × Int × Int × List (Int × List Int))) (w : World) (h : SlR tActive w v xs) (g : SlR tActive w u xs) (hs : zL tActive xs ≤ 1048576) :
    Calls Try.prog 45 #[v, u] w fun e w' => e = .returned (.bool true) ∧ Below w.heap.size w w' := by
  have H := Lib.hid h
  have G := Lib.hid g
  have HS := Lib.hid hs
  have hlen := zL_len hs
  obtain ⟨a, cap, rfl⟩ := slR_len h
  obtain ⟨a2, cap2, rfl⟩ := slR_len g
  clear h g hs
  go_enter Try.func45, Try.ntmps45
  go_wp2
  go_loopw [5] (fun i wr => ∃ k : Nat, k ≤ xs.length ∧ i = .int .i64 k ∧ Below w.heap.size w wr) (fun i _ => xs.length - (intOf i).toNat)
  case atStart => exact ⟨0, Nat.zero_le _, rfl, Below.refl _ _⟩
  case round =>
    obtain ⟨k, hk, rfl, hbel⟩ := hrel
    by_cases hlt : k < xs.length
    · obtain ⟨b, off, cap', cs, hv, hbl, hcs, hR⟩ := slR_at (slR_below tActive_law H.out hbel) hlt
      simp only [Value.slice.injEq] at hv
      obtain ⟨rfl, _, rfl⟩ := hv
      obtain ⟨b2, off2, cap2', ds, hv2, hbl2, hds, hQ⟩ := slR_at (slR_below tActive_law G.out hbel) hlt
      simp only [Value.slice.injEq] at hv2
      obtain ⟨rfl, _, rfl⟩ := hv2
      have hzx := zL_at HS.out hlt
      have i1 : (0 : Int) ≤ (k : Int) := by omega
      have i2 : (k : Int) < (xs.length : Int) := by omega
      generalize xs.getD k tActive.d = x at *
      obtain ⟨⟨a0, a1, x2, x3⟩, a4, x5, a6, a7, a8, x9⟩ := x
      obtain ⟨v2, v3, v5, v9, hR'⟩ := tActive_R hR
      obtain ⟨rfl, h2, h3, h5, h9⟩ := hR'
      obtain ⟨u2, u3, u5, u9, hQ'⟩ := tActive_R hQ
      obtain ⟨rfl, g2, g3, g5, g9⟩ := hQ'
      rw [tActive_sz] at hzx
      have S2 := Lib.hid (show zL tCond x2 ≤ 1048576 by omega)
      have S3 := Lib.hid (show zL tInt x3 ≤ 1048576 by omega)
      have S5 := Lib.hid (show zL tInt x5 ≤ 1048576 by omega)
      have S9 := Lib.hid (show zL tRow x9 ≤ 1048576 by omega)
      have p0 : wr.cell? ⟨b, off + k * 10, none⟩ = some (Value.int .i64 a0) := hcs 0 (by decide)
      have q0 : wr.cell? ⟨b2, off2 + k * 10, none⟩ = some (Value.int .i64 a0) := hds 0 (by decide)
      have p1 : wr.cell? ⟨b, off + k * 10 + 1, none⟩ = some (Value.int .i64 a1) := hcs 1 (by decide)
      have q1 : wr.cell? ⟨b2, off2 + k * 10 + 1, none⟩ = some (Value.int .i64 a1) := hds 1 (by decide)
      have p2 : wr.cell? ⟨b, off + k * 10 + 2, none⟩ = some (v2) := hcs 2 (by decide)
      have q2 : wr.cell? ⟨b2, off2 + k * 10 + 2, none⟩ = some (u2) := hds 2 (by decide)
      have p3 : wr.cell? ⟨b, off + k * 10 + 3, none⟩ = some (v3) := hcs 3 (by decide)
      have q3 : wr.cell? ⟨b2, off2 + k * 10 + 3, none⟩ = some (u3) := hds 3 (by decide)
      have p4 : wr.cell? ⟨b, off + k * 10 + 4, none⟩ = some (Value.int .i64 a4) := hcs 4 (by decide)
      have q4 : wr.cell? ⟨b2, off2 + k * 10 + 4, none⟩ = some (Value.int .i64 a4) := hds 4 (by decide)
      have p5 : wr.cell? ⟨b, off + k * 10 + 5, none⟩ = some (v5) := hcs 5 (by decide)
      have q5 : wr.cell? ⟨b2, off2 + k * 10 + 5, none⟩ = some (u5) := hds 5 (by decide)
      have p6 : wr.cell? ⟨b, off + k * 10 + 6, none⟩ = some (Value.int .i64 a6) := hcs 6 (by decide)
      have q6 : wr.cell? ⟨b2, off2 + k * 10 + 6, none⟩ = some (Value.int .i64 a6) := hds 6 (by decide)
      have p7 : wr.cell? ⟨b, off + k * 10 + 7, none⟩ = some (Value.int .i64 a7) := hcs 7 (by decide)
      have q7 : wr.cell? ⟨b2, off2 + k * 10 + 7, none⟩ = some (Value.int .i64 a7) := hds 7 (by decide)
      have p8 : wr.cell? ⟨b, off + k * 10 + 8, none⟩ = some (Value.int .i64 a8) := hcs 8 (by decide)
      have q8 : wr.cell? ⟨b2, off2 + k * 10 + 8, none⟩ = some (Value.int .i64 a8) := hds 8 (by decide)
      have p9 : wr.cell? ⟨b, off + k * 10 + 9, none⟩ = some (v9) := hcs 9 (by decide)
      have q9 : wr.cell? ⟨b2, off2 + k * 10 + 9, none⟩ = some (u9) := hds 9 (by decide)
      clear hcs hds hzx
      go_wp2
      go_region_with (first | (go_at_call 97; refine (eqActive_T a0 a1 a4 a6 a7 a8 v2 v3 v5 v9 x2 x3 x5 x9 u2 u3 u5 u9 _ (by exact slR_same tCond_law h2 rfl rfl rfl rfl) (by exact slR_same tInt_law h3 rfl rfl rfl rfl) (by exact slR_same tInt_law h5 rfl rfl rfl rfl) (by exact slR_same tRow_law h9 rfl rfl rfl rfl) (by exact slR_same tCond_law g2 rfl rfl rfl rfl) (by exact slR_same tInt_law g3 rfl rfl rfl rfl) (by exact slR_same tInt_law g5 rfl rfl rfl rfl) (by exact slR_same tRow_law g9 rfl rfl rfl rfl) S2.out S3.out S5.out S9.out).mono ?_; rintro e w8 ⟨rfl, b9⟩; have b10 : Below wr.heap.size wr w8 := ⟨b9.os, b9.tape, b9.output, b9.size, b9.block⟩))
      all_goals
        have b11 := hbel.trans (b10.mono hbel.size)
        go_wp2
        go_roundw
        case rel => exact ⟨k + 1, by omega, by go_num, b11⟩
        case measure => simp [intOf]; omega
    · go_wp2
      go_ret
      exact ⟨rfl, hbel⟩
set_option maxHeartbeats 8000000 in
set_option maxRecDepth 100000 in
theorem markActiveS_S (v : Value) (xs : List ((Int × Int × List (Int × Int × Int) × List Int) × Int × List Int × Int × Int × Int × List (Int × List Int))) (F : Nat → Prop) (k : Int) (w : World) (h : SlO 92 tActive w F v xs) (hs : zL tActive xs ≤ 1048576) (k0 : 0 ≤ k) (k1 : k ≤ 939524096) :
    Calls Try.prog 48 #[v, .int .i64 k] w fun e w' => e = .returned (.int .i64 (k + (ndL tActive xs : Int))) ∧ SlO 92 tActive w' F v (mAll tActive xs k) ∧ Turn F w w' := by
  rw [← kAt_all]
  have HS := Lib.hid hs
  have hlen := zL_len hs
  rcases slO_form h with ⟨rfl, rfl⟩ | ⟨g, cap, rfl, hFg, hgw⟩
  · have H := Lib.hid h
    clear h hs
    go_enter Try.func48, Try.ntmps48
    go_wp2
    go_loop [1, 5] (fun m i => i = .int .i64 0 ∧ m = .int .i64 k) (fun _ _ => 0)
    case atStart => exact ⟨rfl, rfl⟩
    case round =>
      obtain ⟨rfl, rfl⟩ := hrel
      go_wp2
      go_ret
      exact ⟨by simp [kAt, sumN], by rw [show mAll tActive [] k = [] from rfl]; exact H.out, Turn.refl _ _⟩
  · have H := Lib.hid h
    clear h hs
    go_enter Try.func48, Try.ntmps48
    go_wp2
    go_loopw [1, 5] (fun m i wr => ∃ j : Nat, j ≤ xs.length ∧ i = .int .i64 j ∧ m = .int .i64 (kAt tActive xs k j) ∧ SlO 92 tActive wr (fun b => F b ∧ b < w.heap.size) (.slice (some ⟨g, 0, none⟩) xs.length cap) (mTo tActive xs k j) ∧ Turn F w wr) (fun _ i _ => xs.length - (intOf i).toNat)
    case atStart => exact ⟨0, Nat.zero_le _, rfl, by rw [kAt_zero], by rw [mTo_zero]; exact slO_lt tActive_law H.out, Turn.refl _ _⟩
    case round =>
      obtain ⟨j, hj, rfl, rfl, hown, hon⟩ := hrel
      by_cases hlt : j < xs.length
      · have i1 : (0 : Int) ≤ (j : Int) := by omega
        have i2 : (j : Int) < (xs.length : Int) := by omega
        have hjl : j < (mTo tActive xs k j).length := by rw [mTo_len hj]; exact hlt
        have HLL := Lib.hid (mTo_len (T := tActive) (k := k) hj)
        obtain ⟨r1, r2⟩ := kAt_range tActive_law (by decide) (k := k) HS.out hj
        obtain ⟨r3, r4⟩ := kAt_range tActive_law (by decide) (k := k) (j := j + 1) HS.out (by omega)
        have hzx := zL_at HS.out hlt
        have hstep := kAt_step (T := tActive) (k := k) hlt
        have hset := mTo_step (T := tActive) (k := k) hlt
        have hsz := hon.size
        obtain ⟨hme, hFg2, hgl, cj, Fj, Lc, hrow, hLc, hO, hFj, hput⟩ := slO_open tActive_law hown hjl
        clear hme hFg2
        rw [mTo_at hlt] at hO
        have HM : Hid (∃ m', kAt tActive xs k (j + 1) = m') := Lib.hid ⟨_, rfl⟩
        obtain ⟨m', hm'⟩ := HM.out
        rw [hm'] at hstep r3 r4
        have HM' := Lib.hid hm'
        clear hm' HM H hown hjl
        generalize kAt tActive xs k j = m at *
        generalize xs.getD j tActive.d = x at *
        rw [HLL.out] at hrow hput
        obtain ⟨⟨a0, a1, x2, x3⟩, a4, x5, a6, a7, a8, x9⟩ := x
        rw [tActive_md] at hset
        rw [tActive_nd] at hstep
        rw [tActive_sz] at hzx
        obtain ⟨v2, v3, v5, v9, K2, K3, K5, K9, rfl, o2, o3, o5, o9, q2, q3, q5, q9, d2_3, d2_5, d2_9, d3_5, d3_9, d5_9⟩ := tActive_O hO
        have S2 := Lib.hid (show zL tCond x2 ≤ 1048576 by omega)
        have N2 := ndL_le tCond_law (by decide) x2
        have S3 := Lib.hid (show zL tInt x3 ≤ 1048576 by omega)
        have N3 := ndL_le tInt_law (by decide) x3
        have S5 := Lib.hid (show zL tInt x5 ≤ 1048576 by omega)
        have N5 := ndL_le tInt_law (by decide) x5
        have S9 := Lib.hid (show zL tRow x9 ≤ 1048576 by omega)
        have N9 := ndL_le tRow_law (by decide) x9
        have R2 : Hid (0 ≤ m + 1 + 1 ∧ m + 1 + 1 ≤ 1006632960) := Lib.hid (by omega)
        have R3 : Hid (0 ≤ m + 1 + 1 + (ndL tCond x2 : Int) ∧ m + 1 + 1 + (ndL tCond x2 : Int) ≤ 1073741824) := Lib.hid (by omega)
        have R5 : Hid (0 ≤ m + 1 + 1 + (ndL tCond x2 : Int) + (ndL tInt x3 : Int) + 1 ∧ m + 1 + 1 + (ndL tCond x2 : Int) + (ndL tInt x3 : Int) + 1 ≤ 1073741824) := Lib.hid (by omega)
        have R9 : Hid (0 ≤ m + 1 + 1 + (ndL tCond x2 : Int) + (ndL tInt x3 : Int) + 1 + (ndL tInt x5 : Int) + 1 + 1 + 1 ∧ m + 1 + 1 + (ndL tCond x2 : Int) + (ndL tInt x3 : Int) + 1 + (ndL tInt x5 : Int) + 1 + 1 + 1 ≤ 1006632960) := Lib.hid (by omega)
        have hmx5 : m + 1 + 1 + (ndL tCond x2 : Int) + (ndL tInt x3 : Int) + 1 ≤ 1073741824 := by omega
        have hmx9 : m + 1 + 1 + (ndL tCond x2 : Int) + (ndL tInt x3 : Int) + 1 + (ndL tInt x5 : Int) + 1 + 1 + 1 ≤ 1073741824 := by omega
        have hmm : m + 1 + 1 + (ndL tCond x2 : Int) + (ndL tInt x3 : Int) + 1 + (ndL tInt x5 : Int) + 1 + 1 + 1 + (ndL tRow x9 : Int) = m' := by omega
        have HMM := Lib.hid hmm
        have hm0 : 0 ≤ m := by omega
        have hm1 : m ≤ 1073741824 := by omega
        clear hmm hstep hzx N2 N3 N5 N9
        have hLl : Lc.length = xs.length * 10 := hrow.1
        have HSET := Lib.hid hset
        clear hset
        have tt : Turn (fun b => b = g ∨ Fj b ∨ wr.heap.size ≤ b) wr wr := Turn.refl _ _
        have rr := hrow
        have c0 : ∃ x, wr.cell? ⟨g, j * 10, none⟩ = some x := ⟨_, (World.ownsRow.cellAt rr (j * 10) (by show j * 10 < xs.length * 10; omega)).trans (List.getElem?_eq_getElem (by have h9 := rr.1; have h8 : xs.length * tActive.n = xs.length * 10 := rfl; omega))⟩
        obtain ⟨y0, c0⟩ := c0
        have f0 := World.ownsRow.frozenAt rr (j * 10)
        have c1 : ∃ x, wr.cell? ⟨g, j * 10 + 1, none⟩ = some x := ⟨_, (World.ownsRow.cellAt rr (j * 10 + 1) (by show j * 10 + 1 < xs.length * 10; omega)).trans (List.getElem?_eq_getElem (by have h9 := rr.1; have h8 : xs.length * tActive.n = xs.length * 10 := rfl; omega))⟩
        obtain ⟨y1, c1⟩ := c1
        have f1 := World.ownsRow.frozenAt rr (j * 10 + 1)
        have cv2 : wr.cell? ⟨g, j * 10 + 2, none⟩ = some v2 := (World.ownsRow.cellAt rr (j * 10 + 2) (by show j * 10 + 2 < xs.length * 10; omega)).trans (by exact hLc 2 (by decide))
        go_wp2_with fail
        clear c0 f0 c1 f1 cv2
        have ts : Turn (fun b => b = g) wr ((wr.setCell ⟨g, j * 10, none⟩ (.int .i64 (m))).setCell ⟨g, j * 10 + 1, none⟩ (.int .i64 (m + 1))) := (((Turn.refl (fun b => b = g) _).trans (turn_set (G := fun b => b = g) (g := g) (j := j * 10) (u := .int .i64 (m)) rfl)).trans (turn_set (G := fun b => b = g) (g := g) (j := j * 10 + 1) (u := .int .i64 (m + 1)) rfl))
        replace rr := (World.ownsRow.stored (World.ownsRow.stored rr (j * 10) (.int .i64 (m))).1 (j * 10 + 1) (.int .i64 (m + 1))).1
        replace o2 := slO_turn tCond_law o2 ts (fun b h1 h2 => (hFj b (q2 b h1)).2.1 h2)
        replace o3 := slO_turn tInt_law o3 ts (fun b h1 h2 => (hFj b (q3 b h1)).2.1 h2)
        replace o5 := slO_turn tInt_law o5 ts (fun b h1 h2 => (hFj b (q5 b h1)).2.1 h2)
        replace o9 := slO_turn tRow_law o9 ts (fun b h1 h2 => (hFj b (q9 b h1)).2.1 h2)
        replace tt := tt.trans (ts.mono (fun b h => Or.inl h))
        clear ts
        generalize ((wr.setCell ⟨g, j * 10, none⟩ (.int .i64 (m))).setCell ⟨g, j * 10 + 1, none⟩ (.int .i64 (m + 1))) = W0 at *
        refine (markCondS_S v2 x2 _ (m + 1 + 1) W0 o2 S2.out R2.out.1 (by have := R2.out.2; omega)).mono ?_
        rintro e w1 ⟨rfl, m2, t1⟩
        replace rr := row_turn rr t1 (fun b hb h => by simp [Value.ownBlock] at hb; exact (hFj b (q2 b h)).2.1 hb.symm)
        replace o2 := m2
        replace o3 := slO_turn tInt_law o3 t1 (fun b h1 h2 => d2_3 b h2 h1)
        replace o5 := slO_turn tInt_law o5 t1 (fun b h1 h2 => d2_5 b h2 h1)
        replace o9 := slO_turn tRow_law o9 t1 (fun b h1 h2 => d2_9 b h2 h1)
        replace tt := tt.trans (t1.mono (fun b h => Or.inr (Or.inl (q2 b h))))
        clear t1
        have cv3 : w1.cell? ⟨g, j * 10 + 3, none⟩ = some v3 := (World.ownsRow.cellAt rr (j * 10 + 3) (by show j * 10 + 3 < xs.length * 10; omega)).trans (by rw [List.getElem?_set_ne (by omega)]; rw [List.getElem?_set_ne (by omega)]; exact hLc 3 (by decide))
        go_wp2_with fail
        clear cv3
        refine (markIntS_S v3 x3 _ (m + 1 + 1 + (ndL tCond x2 : Int)) w1 o3 S3.out R3.out.1 (by have := R3.out.2; omega)).mono ?_
        rintro e w2 ⟨rfl, m3, t1⟩
        replace rr := row_turn rr t1 (fun b hb h => by simp [Value.ownBlock] at hb; exact (hFj b (q3 b h)).2.1 hb.symm)
        replace o2 := slO_turn tCond_law o2 t1 (fun b h1 h2 => d2_3 b h1 h2)
        replace o3 := m3
        replace o5 := slO_turn tInt_law o5 t1 (fun b h1 h2 => d3_5 b h2 h1)
        replace o9 := slO_turn tRow_law o9 t1 (fun b h1 h2 => d3_9 b h2 h1)
        replace tt := tt.trans (t1.mono (fun b h => Or.inr (Or.inl (q3 b h))))
        clear t1
        have c4 : ∃ x, w2.cell? ⟨g, j * 10 + 4, none⟩ = some x := ⟨_, (World.ownsRow.cellAt rr (j * 10 + 4) (by show j * 10 + 4 < xs.length * 10; omega)).trans (List.getElem?_eq_getElem (by have h9 := rr.1; have h8 : xs.length * tActive.n = xs.length * 10 := rfl; omega))⟩
        obtain ⟨y4, c4⟩ := c4
        have f4 := World.ownsRow.frozenAt rr (j * 10 + 4)
        have cv5 : w2.cell? ⟨g, j * 10 + 5, none⟩ = some v5 := (World.ownsRow.cellAt rr (j * 10 + 5) (by show j * 10 + 5 < xs.length * 10; omega)).trans (by rw [List.getElem?_set_ne (by omega)]; rw [List.getElem?_set_ne (by omega)]; exact hLc 5 (by decide))
        go_wp2_with fail
        clear c4 f4 cv5
        have ts : Turn (fun b => b = g) w2 (w2.setCell ⟨g, j * 10 + 4, none⟩ (.int .i64 (m + 1 + 1 + (ndL tCond x2 : Int) + (ndL tInt x3 : Int)))) := ((Turn.refl (fun b => b = g) _).trans (turn_set (G := fun b => b = g) (g := g) (j := j * 10 + 4) (u := .int .i64 (m + 1 + 1 + (ndL tCond x2 : Int) + (ndL tInt x3 : Int))) rfl))
        replace rr := (World.ownsRow.stored rr (j * 10 + 4) (.int .i64 (m + 1 + 1 + (ndL tCond x2 : Int) + (ndL tInt x3 : Int)))).1
        replace o2 := slO_turn tCond_law o2 ts (fun b h1 h2 => (hFj b (q2 b h1)).2.1 h2)
        replace o3 := slO_turn tInt_law o3 ts (fun b h1 h2 => (hFj b (q3 b h1)).2.1 h2)
        replace o5 := slO_turn tInt_law o5 ts (fun b h1 h2 => (hFj b (q5 b h1)).2.1 h2)
        replace o9 := slO_turn tRow_law o9 ts (fun b h1 h2 => (hFj b (q9 b h1)).2.1 h2)
        replace tt := tt.trans (ts.mono (fun b h => Or.inl h))
        clear ts
        generalize (w2.setCell ⟨g, j * 10 + 4, none⟩ (.int .i64 (m + 1 + 1 + (ndL tCond x2 : Int) + (ndL tInt x3 : Int)))) = W2 at *
        refine (markIntS_S v5 x5 _ (m + 1 + 1 + (ndL tCond x2 : Int) + (ndL tInt x3 : Int) + 1) W2 o5 S5.out R5.out.1 (by have := R5.out.2; omega)).mono ?_
        rintro e w3 ⟨rfl, m5, t1⟩
        replace rr := row_turn rr t1 (fun b hb h => by simp [Value.ownBlock] at hb; exact (hFj b (q5 b h)).2.1 hb.symm)
        replace o2 := slO_turn tCond_law o2 t1 (fun b h1 h2 => d2_5 b h1 h2)
        replace o3 := slO_turn tInt_law o3 t1 (fun b h1 h2 => d3_5 b h1 h2)
        replace o5 := m5
        replace o9 := slO_turn tRow_law o9 t1 (fun b h1 h2 => d5_9 b h2 h1)
        replace tt := tt.trans (t1.mono (fun b h => Or.inr (Or.inl (q5 b h))))
        clear t1
        have c6 : ∃ x, w3.cell? ⟨g, j * 10 + 6, none⟩ = some x := ⟨_, (World.ownsRow.cellAt rr (j * 10 + 6) (by show j * 10 + 6 < xs.length * 10; omega)).trans (List.getElem?_eq_getElem (by have h9 := rr.1; have h8 : xs.length * tActive.n = xs.length * 10 := rfl; omega))⟩
        obtain ⟨y6, c6⟩ := c6
        have f6 := World.ownsRow.frozenAt rr (j * 10 + 6)
        have c7 : ∃ x, w3.cell? ⟨g, j * 10 + 7, none⟩ = some x := ⟨_, (World.ownsRow.cellAt rr (j * 10 + 7) (by show j * 10 + 7 < xs.length * 10; omega)).trans (List.getElem?_eq_getElem (by have h9 := rr.1; have h8 : xs.length * tActive.n = xs.length * 10 := rfl; omega))⟩
        obtain ⟨y7, c7⟩ := c7
        have f7 := World.ownsRow.frozenAt rr (j * 10 + 7)
        have c8 : ∃ x, w3.cell? ⟨g, j * 10 + 8, none⟩ = some x := ⟨_, (World.ownsRow.cellAt rr (j * 10 + 8) (by show j * 10 + 8 < xs.length * 10; omega)).trans (List.getElem?_eq_getElem (by have h9 := rr.1; have h8 : xs.length * tActive.n = xs.length * 10 := rfl; omega))⟩
        obtain ⟨y8, c8⟩ := c8
        have f8 := World.ownsRow.frozenAt rr (j * 10 + 8)
        have cv9 : w3.cell? ⟨g, j * 10 + 9, none⟩ = some v9 := (World.ownsRow.cellAt rr (j * 10 + 9) (by show j * 10 + 9 < xs.length * 10; omega)).trans (by rw [List.getElem?_set_ne (by omega)]; rw [List.getElem?_set_ne (by omega)]; rw [List.getElem?_set_ne (by omega)]; exact hLc 9 (by decide))
        go_wp2_with fail
        clear c6 f6 c7 f7 c8 f8 cv9
        have ts : Turn (fun b => b = g) w3 (((w3.setCell ⟨g, j * 10 + 6, none⟩ (.int .i64 (m + 1 + 1 + (ndL tCond x2 : Int) + (ndL tInt x3 : Int) + 1 + (ndL tInt x5 : Int)))).setCell ⟨g, j * 10 + 7, none⟩ (.int .i64 (m + 1 + 1 + (ndL tCond x2 : Int) + (ndL tInt x3 : Int) + 1 + (ndL tInt x5 : Int) + 1))).setCell ⟨g, j * 10 + 8, none⟩ (.int .i64 (m + 1 + 1 + (ndL tCond x2 : Int) + (ndL tInt x3 : Int) + 1 + (ndL tInt x5 : Int) + 1 + 1))) := ((((Turn.refl (fun b => b = g) _).trans (turn_set (G := fun b => b = g) (g := g) (j := j * 10 + 6) (u := .int .i64 (m + 1 + 1 + (ndL tCond x2 : Int) + (ndL tInt x3 : Int) + 1 + (ndL tInt x5 : Int))) rfl)).trans (turn_set (G := fun b => b = g) (g := g) (j := j * 10 + 7) (u := .int .i64 (m + 1 + 1 + (ndL tCond x2 : Int) + (ndL tInt x3 : Int) + 1 + (ndL tInt x5 : Int) + 1)) rfl)).trans (turn_set (G := fun b => b = g) (g := g) (j := j * 10 + 8) (u := .int .i64 (m + 1 + 1 + (ndL tCond x2 : Int) + (ndL tInt x3 : Int) + 1 + (ndL tInt x5 : Int) + 1 + 1)) rfl))
        replace rr := (World.ownsRow.stored (World.ownsRow.stored (World.ownsRow.stored rr (j * 10 + 6) (.int .i64 (m + 1 + 1 + (ndL tCond x2 : Int) + (ndL tInt x3 : Int) + 1 + (ndL tInt x5 : Int)))).1 (j * 10 + 7) (.int .i64 (m + 1 + 1 + (ndL tCond x2 : Int) + (ndL tInt x3 : Int) + 1 + (ndL tInt x5 : Int) + 1))).1 (j * 10 + 8) (.int .i64 (m + 1 + 1 + (ndL tCond x2 : Int) + (ndL tInt x3 : Int) + 1 + (ndL tInt x5 : Int) + 1 + 1))).1
        replace o2 := slO_turn tCond_law o2 ts (fun b h1 h2 => (hFj b (q2 b h1)).2.1 h2)
        replace o3 := slO_turn tInt_law o3 ts (fun b h1 h2 => (hFj b (q3 b h1)).2.1 h2)
        replace o5 := slO_turn tInt_law o5 ts (fun b h1 h2 => (hFj b (q5 b h1)).2.1 h2)
        replace o9 := slO_turn tRow_law o9 ts (fun b h1 h2 => (hFj b (q9 b h1)).2.1 h2)
        replace tt := tt.trans (ts.mono (fun b h => Or.inl h))
        clear ts
        generalize (((w3.setCell ⟨g, j * 10 + 6, none⟩ (.int .i64 (m + 1 + 1 + (ndL tCond x2 : Int) + (ndL tInt x3 : Int) + 1 + (ndL tInt x5 : Int)))).setCell ⟨g, j * 10 + 7, none⟩ (.int .i64 (m + 1 + 1 + (ndL tCond x2 : Int) + (ndL tInt x3 : Int) + 1 + (ndL tInt x5 : Int) + 1))).setCell ⟨g, j * 10 + 8, none⟩ (.int .i64 (m + 1 + 1 + (ndL tCond x2 : Int) + (ndL tInt x3 : Int) + 1 + (ndL tInt x5 : Int) + 1 + 1))) = W3 at *
        refine (markRowS_S v9 x9 _ (m + 1 + 1 + (ndL tCond x2 : Int) + (ndL tInt x3 : Int) + 1 + (ndL tInt x5 : Int) + 1 + 1 + 1) W3 o9 S9.out R9.out.1 (by have := R9.out.2; omega)).mono ?_
        rintro e w4 ⟨rfl, m9, t1⟩
        replace rr := row_turn rr t1 (fun b hb h => by simp [Value.ownBlock] at hb; exact (hFj b (q9 b h)).2.1 hb.symm)
        replace o2 := slO_turn tCond_law o2 t1 (fun b h1 h2 => d2_9 b h1 h2)
        replace o3 := slO_turn tInt_law o3 t1 (fun b h1 h2 => d3_9 b h1 h2)
        replace o5 := slO_turn tInt_law o5 t1 (fun b h1 h2 => d5_9 b h1 h2)
        replace o9 := m9
        replace tt := tt.trans (t1.mono (fun b h => Or.inr (Or.inl (q9 b h))))
        clear t1
        have hO2 := tActive_mkO (F := Fj) (a0 := m) (a1 := m + 1) (a4 := m + 1 + 1 + (ndL tCond x2 : Int) + (ndL tInt x3 : Int)) (a6 := m + 1 + 1 + (ndL tCond x2 : Int) + (ndL tInt x3 : Int) + 1 + (ndL tInt x5 : Int)) (a7 := m + 1 + 1 + (ndL tCond x2 : Int) + (ndL tInt x3 : Int) + 1 + (ndL tInt x5 : Int) + 1) (a8 := m + 1 + 1 + (ndL tCond x2 : Int) + (ndL tInt x3 : Int) + 1 + (ndL tInt x5 : Int) + 1 + 1) o2 o3 o5 o9 q2 q3 q5 q9 d2_3 d2_5 d2_9 d3_5 d3_9 d5_9
        have hst := hput w4 ((((((Lc.set (j * 10) (.int .i64 (m))).set (j * 10 + 1) (.int .i64 (m + 1))).set (j * 10 + 4) (.int .i64 (m + 1 + 1 + (ndL tCond x2 : Int) + (ndL tInt x3 : Int)))).set (j * 10 + 6) (.int .i64 (m + 1 + 1 + (ndL tCond x2 : Int) + (ndL tInt x3 : Int) + 1 + (ndL tInt x5 : Int)))).set (j * 10 + 7) (.int .i64 (m + 1 + 1 + (ndL tCond x2 : Int) + (ndL tInt x3 : Int) + 1 + (ndL tInt x5 : Int) + 1))).set (j * 10 + 8) (.int .i64 (m + 1 + 1 + (ndL tCond x2 : Int) + (ndL tInt x3 : Int) + 1 + (ndL tInt x5 : Int) + 1 + 1))) [.int .i64 (m), .int .i64 (m + 1), v2, v3, .int .i64 (m + 1 + 1 + (ndL tCond x2 : Int) + (ndL tInt x3 : Int)), v5, .int .i64 (m + 1 + 1 + (ndL tCond x2 : Int) + (ndL tInt x3 : Int) + 1 + (ndL tInt x5 : Int)), .int .i64 (m + 1 + 1 + (ndL tCond x2 : Int) + (ndL tInt x3 : Int) + 1 + (ndL tInt x5 : Int) + 1), .int .i64 (m + 1 + 1 + (ndL tCond x2 : Int) + (ndL tInt x3 : Int) + 1 + (ndL tInt x5 : Int) + 1 + 1), v9] Fj _ rr (fun p hp => by have hp2 : p < j * 10 ∨ j * 10 + 10 ≤ p := hp; rw [List.getElem?_set_ne (by omega)]; rw [List.getElem?_set_ne (by omega)]; rw [List.getElem?_set_ne (by omega)]; rw [List.getElem?_set_ne (by omega)]; rw [List.getElem?_set_ne (by omega)]; rw [List.getElem?_set_ne (by omega)]) (fun i hi => by have hi' : i < 10 := hi; match i, hi' with | 0, _ => (show (((((((Lc.set (j * 10) (.int .i64 (m))).set (j * 10 + 1) (.int .i64 (m + 1))).set (j * 10 + 4) (.int .i64 (m + 1 + 1 + (ndL tCond x2 : Int) + (ndL tInt x3 : Int)))).set (j * 10 + 6) (.int .i64 (m + 1 + 1 + (ndL tCond x2 : Int) + (ndL tInt x3 : Int) + 1 + (ndL tInt x5 : Int)))).set (j * 10 + 7) (.int .i64 (m + 1 + 1 + (ndL tCond x2 : Int) + (ndL tInt x3 : Int) + 1 + (ndL tInt x5 : Int) + 1))).set (j * 10 + 8) (.int .i64 (m + 1 + 1 + (ndL tCond x2 : Int) + (ndL tInt x3 : Int) + 1 + (ndL tInt x5 : Int) + 1 + 1))))[j * 10]? = _; rw [List.getElem?_set_ne (by omega)]; rw [List.getElem?_set_ne (by omega)]; rw [List.getElem?_set_ne (by omega)]; rw [List.getElem?_set_ne (by omega)]; rw [List.getElem?_set_ne (by omega)]; rw [List.getElem?_set_self (by first | omega | (simp only [List.length_set]; omega))]; rfl) | 1, _ => (show (((((((Lc.set (j * 10) (.int .i64 (m))).set (j * 10 + 1) (.int .i64 (m + 1))).set (j * 10 + 4) (.int .i64 (m + 1 + 1 + (ndL tCond x2 : Int) + (ndL tInt x3 : Int)))).set (j * 10 + 6) (.int .i64 (m + 1 + 1 + (ndL tCond x2 : Int) + (ndL tInt x3 : Int) + 1 + (ndL tInt x5 : Int)))).set (j * 10 + 7) (.int .i64 (m + 1 + 1 + (ndL tCond x2 : Int) + (ndL tInt x3 : Int) + 1 + (ndL tInt x5 : Int) + 1))).set (j * 10 + 8) (.int .i64 (m + 1 + 1 + (ndL tCond x2 : Int) + (ndL tInt x3 : Int) + 1 + (ndL tInt x5 : Int) + 1 + 1))))[j * 10 + 1]? = _; rw [List.getElem?_set_ne (by omega)]; rw [List.getElem?_set_ne (by omega)]; rw [List.getElem?_set_ne (by omega)]; rw [List.getElem?_set_ne (by omega)]; rw [List.getElem?_set_self (by first | omega | (simp only [List.length_set]; omega))]; rfl) | 2, _ => (show (((((((Lc.set (j * 10) (.int .i64 (m))).set (j * 10 + 1) (.int .i64 (m + 1))).set (j * 10 + 4) (.int .i64 (m + 1 + 1 + (ndL tCond x2 : Int) + (ndL tInt x3 : Int)))).set (j * 10 + 6) (.int .i64 (m + 1 + 1 + (ndL tCond x2 : Int) + (ndL tInt x3 : Int) + 1 + (ndL tInt x5 : Int)))).set (j * 10 + 7) (.int .i64 (m + 1 + 1 + (ndL tCond x2 : Int) + (ndL tInt x3 : Int) + 1 + (ndL tInt x5 : Int) + 1))).set (j * 10 + 8) (.int .i64 (m + 1 + 1 + (ndL tCond x2 : Int) + (ndL tInt x3 : Int) + 1 + (ndL tInt x5 : Int) + 1 + 1))))[j * 10 + 2]? = _; rw [List.getElem?_set_ne (by omega)]; rw [List.getElem?_set_ne (by omega)]; rw [List.getElem?_set_ne (by omega)]; rw [List.getElem?_set_ne (by omega)]; rw [List.getElem?_set_ne (by omega)]; rw [List.getElem?_set_ne (by omega)]; exact hLc 2 (by decide)) | 3, _ => (show (((((((Lc.set (j * 10) (.int .i64 (m))).set (j * 10 + 1) (.int .i64 (m + 1))).set (j * 10 + 4) (.int .i64 (m + 1 + 1 + (ndL tCond x2 : Int) + (ndL tInt x3 : Int)))).set (j * 10 + 6) (.int .i64 (m + 1 + 1 + (ndL tCond x2 : Int) + (ndL tInt x3 : Int) + 1 + (ndL tInt x5 : Int)))).set (j * 10 + 7) (.int .i64 (m + 1 + 1 + (ndL tCond x2 : Int) + (ndL tInt x3 : Int) + 1 + (ndL tInt x5 : Int) + 1))).set (j * 10 + 8) (.int .i64 (m + 1 + 1 + (ndL tCond x2 : Int) + (ndL tInt x3 : Int) + 1 + (ndL tInt x5 : Int) + 1 + 1))))[j * 10 + 3]? = _; rw [List.getElem?_set_ne (by omega)]; rw [List.getElem?_set_ne (by omega)]; rw [List.getElem?_set_ne (by omega)]; rw [List.getElem?_set_ne (by omega)]; rw [List.getElem?_set_ne (by omega)]; rw [List.getElem?_set_ne (by omega)]; exact hLc 3 (by decide)) | 4, _ => (show (((((((Lc.set (j * 10) (.int .i64 (m))).set (j * 10 + 1) (.int .i64 (m + 1))).set (j * 10 + 4) (.int .i64 (m + 1 + 1 + (ndL tCond x2 : Int) + (ndL tInt x3 : Int)))).set (j * 10 + 6) (.int .i64 (m + 1 + 1 + (ndL tCond x2 : Int) + (ndL tInt x3 : Int) + 1 + (ndL tInt x5 : Int)))).set (j * 10 + 7) (.int .i64 (m + 1 + 1 + (ndL tCond x2 : Int) + (ndL tInt x3 : Int) + 1 + (ndL tInt x5 : Int) + 1))).set (j * 10 + 8) (.int .i64 (m + 1 + 1 + (ndL tCond x2 : Int) + (ndL tInt x3 : Int) + 1 + (ndL tInt x5 : Int) + 1 + 1))))[j * 10 + 4]? = _; rw [List.getElem?_set_ne (by omega)]; rw [List.getElem?_set_ne (by omega)]; rw [List.getElem?_set_ne (by omega)]; rw [List.getElem?_set_self (by first | omega | (simp only [List.length_set]; omega))]; rfl) | 5, _ => (show (((((((Lc.set (j * 10) (.int .i64 (m))).set (j * 10 + 1) (.int .i64 (m + 1))).set (j * 10 + 4) (.int .i64 (m + 1 + 1 + (ndL tCond x2 : Int) + (ndL tInt x3 : Int)))).set (j * 10 + 6) (.int .i64 (m + 1 + 1 + (ndL tCond x2 : Int) + (ndL tInt x3 : Int) + 1 + (ndL tInt x5 : Int)))).set (j * 10 + 7) (.int .i64 (m + 1 + 1 + (ndL tCond x2 : Int) + (ndL tInt x3 : Int) + 1 + (ndL tInt x5 : Int) + 1))).set (j * 10 + 8) (.int .i64 (m + 1 + 1 + (ndL tCond x2 : Int) + (ndL tInt x3 : Int) + 1 + (ndL tInt x5 : Int) + 1 + 1))))[j * 10 + 5]? = _; rw [List.getElem?_set_ne (by omega)]; rw [List.getElem?_set_ne (by omega)]; rw [List.getElem?_set_ne (by omega)]; rw [List.getElem?_set_ne (by omega)]; rw [List.getElem?_set_ne (by omega)]; rw [List.getElem?_set_ne (by omega)]; exact hLc 5 (by decide)) | 6, _ => (show (((((((Lc.set (j * 10) (.int .i64 (m))).set (j * 10 + 1) (.int .i64 (m + 1))).set (j * 10 + 4) (.int .i64 (m + 1 + 1 + (ndL tCond x2 : Int) + (ndL tInt x3 : Int)))).set (j * 10 + 6) (.int .i64 (m + 1 + 1 + (ndL tCond x2 : Int) + (ndL tInt x3 : Int) + 1 + (ndL tInt x5 : Int)))).set (j * 10 + 7) (.int .i64 (m + 1 + 1 + (ndL tCond x2 : Int) + (ndL tInt x3 : Int) + 1 + (ndL tInt x5 : Int) + 1))).set (j * 10 + 8) (.int .i64 (m + 1 + 1 + (ndL tCond x2 : Int) + (ndL tInt x3 : Int) + 1 + (ndL tInt x5 : Int) + 1 + 1))))[j * 10 + 6]? = _; rw [List.getElem?_set_ne (by omega)]; rw [List.getElem?_set_ne (by omega)]; rw [List.getElem?_set_self (by first | omega | (simp only [List.length_set]; omega))]; rfl) | 7, _ => (show (((((((Lc.set (j * 10) (.int .i64 (m))).set (j * 10 + 1) (.int .i64 (m + 1))).set (j * 10 + 4) (.int .i64 (m + 1 + 1 + (ndL tCond x2 : Int) + (ndL tInt x3 : Int)))).set (j * 10 + 6) (.int .i64 (m + 1 + 1 + (ndL tCond x2 : Int) + (ndL tInt x3 : Int) + 1 + (ndL tInt x5 : Int)))).set (j * 10 + 7) (.int .i64 (m + 1 + 1 + (ndL tCond x2 : Int) + (ndL tInt x3 : Int) + 1 + (ndL tInt x5 : Int) + 1))).set (j * 10 + 8) (.int .i64 (m + 1 + 1 + (ndL tCond x2 : Int) + (ndL tInt x3 : Int) + 1 + (ndL tInt x5 : Int) + 1 + 1))))[j * 10 + 7]? = _; rw [List.getElem?_set_ne (by omega)]; rw [List.getElem?_set_self (by first | omega | (simp only [List.length_set]; omega))]; rfl) | 8, _ => (show (((((((Lc.set (j * 10) (.int .i64 (m))).set (j * 10 + 1) (.int .i64 (m + 1))).set (j * 10 + 4) (.int .i64 (m + 1 + 1 + (ndL tCond x2 : Int) + (ndL tInt x3 : Int)))).set (j * 10 + 6) (.int .i64 (m + 1 + 1 + (ndL tCond x2 : Int) + (ndL tInt x3 : Int) + 1 + (ndL tInt x5 : Int)))).set (j * 10 + 7) (.int .i64 (m + 1 + 1 + (ndL tCond x2 : Int) + (ndL tInt x3 : Int) + 1 + (ndL tInt x5 : Int) + 1))).set (j * 10 + 8) (.int .i64 (m + 1 + 1 + (ndL tCond x2 : Int) + (ndL tInt x3 : Int) + 1 + (ndL tInt x5 : Int) + 1 + 1))))[j * 10 + 8]? = _; rw [List.getElem?_set_self (by first | omega | (simp only [List.length_set]; omega))]; rfl) | 9, _ => (show (((((((Lc.set (j * 10) (.int .i64 (m))).set (j * 10 + 1) (.int .i64 (m + 1))).set (j * 10 + 4) (.int .i64 (m + 1 + 1 + (ndL tCond x2 : Int) + (ndL tInt x3 : Int)))).set (j * 10 + 6) (.int .i64 (m + 1 + 1 + (ndL tCond x2 : Int) + (ndL tInt x3 : Int) + 1 + (ndL tInt x5 : Int)))).set (j * 10 + 7) (.int .i64 (m + 1 + 1 + (ndL tCond x2 : Int) + (ndL tInt x3 : Int) + 1 + (ndL tInt x5 : Int) + 1))).set (j * 10 + 8) (.int .i64 (m + 1 + 1 + (ndL tCond x2 : Int) + (ndL tInt x3 : Int) + 1 + (ndL tInt x5 : Int) + 1 + 1))))[j * 10 + 9]? = _; rw [List.getElem?_set_ne (by omega)]; rw [List.getElem?_set_ne (by omega)]; rw [List.getElem?_set_ne (by omega)]; rw [List.getElem?_set_ne (by omega)]; rw [List.getElem?_set_ne (by omega)]; rw [List.getElem?_set_ne (by omega)]; exact hLc 9 (by decide))) hO2 (fun b hb => ⟨(hFj b hb).1, Or.inl hb⟩) tt
        rw [HSET.out] at hst
        have HST := Lib.hid hst
        have hon2 := hon.trans (Turn.mono (G := fun b => F b ∧ b < w.heap.size) (G' := F) ⟨tt.os, tt.tape, tt.output, tt.size, fun b hb hn => tt.block b hb (fun h => hn (h.elim (fun h => by rw [h]; exact ⟨hFg, hgw⟩) (fun h => h.elim (fun h => (hFj b h).1) (fun h => absurd hb (Nat.not_lt.2 h)))))⟩ (fun b h => h.1))
        clear hst hput tt rr hO2 hon hFj hLc hLl o2 o3 o5 o9
        rw [HMM.out]
        go_wp2
        go_roundw
        case rel => exact ⟨j + 1, by omega, by go_num, by rw [HM'.out], HST.out, hon2⟩
        case measure => simp [intOf]; omega
      · obtain rfl : j = xs.length := by omega
        rw [mTo_all] at hown
        go_wp2
        go_ret
        refine ⟨?_, slO_mono hown (fun b h => h.1), hon⟩
        simp
set_option maxHeartbeats 8000000 in
set_option maxRecDepth 100000 in
theorem heldActiveS_S (v : Value) (xs : List ((Int × Int × List (Int × Int × Int) × List Int) × Int × List Int × Int × Int × Int × List (Int × List Int))) (k : Int) (w : World) (h : SlR tActive w v (mAll tActive xs k)) (hs : zL tActive xs ≤ 1048576) (k0 : 0 ≤ k) (k1 : k ≤ 939524096) :
    Calls Try.prog 52 #[v, .int .i64 k] w fun e w' => e = .returned (.int .i64 (k + (ndL tActive xs : Int))) ∧ w = w' := by
  rw [← kAt_all]
  have HS := Lib.hid hs
  have H := Lib.hid h
  have hlen := zL_len hs
  obtain ⟨a, cap, rfl⟩ := slR_len h
  rw [mAll_len] at H ⊢
  clear h hs
  go_enter Try.func52, Try.ntmps52
  go_wp2
  go_loop [1, 5] (fun m i => ∃ j : Nat, j ≤ xs.length ∧ i = .int .i64 j ∧ m = .int .i64 (kAt tActive xs k j)) (fun _ i => xs.length - (intOf i).toNat)
  case atStart => exact ⟨0, Nat.zero_le _, rfl, by rw [kAt_zero]⟩
  case round =>
    obtain ⟨j, hj, rfl, rfl⟩ := hrel
    by_cases hlt : j < xs.length
    · have i1 : (0 : Int) ≤ (j : Int) := by omega
      have i2 : (j : Int) < (xs.length : Int) := by omega
      obtain ⟨r1, r2⟩ := kAt_range tActive_law (by decide) (k := k) HS.out hj
      obtain ⟨r3, r4⟩ := kAt_range tActive_law (by decide) (k := k) (j := j + 1) HS.out (by omega)
      have hzx := zL_at HS.out hlt
      have hstep := kAt_step (T := tActive) (k := k) hlt
      obtain ⟨b, off, cap', cs, hv, hbl, hcs, hR⟩ := slR_at H.out (k := j) (by rw [mAll_len]; exact hlt)
      rw [mAll_len] at hv
      simp only [Value.slice.injEq] at hv
      obtain ⟨rfl, _, rfl⟩ := hv
      rw [mAll_at hlt] at hR
      have HM : Hid (∃ m', kAt tActive xs k (j + 1) = m') := Lib.hid ⟨_, rfl⟩
      obtain ⟨m', hm'⟩ := HM.out
      rw [hm'] at hstep r3 r4
      have HM' := Lib.hid hm'
      clear hm' HM H
      generalize kAt tActive xs k j = m at *
      generalize xs.getD j tActive.d = x at *
      obtain ⟨⟨a0, a1, x2, x3⟩, a4, x5, a6, a7, a8, x9⟩ := x
      rw [tActive_md] at hR
      obtain ⟨v2, v3, v5, v9, hR'⟩ := tActive_R hR
      obtain ⟨rfl, h2, h3, h5, h9⟩ := hR'
      rw [tActive_sz] at hzx
      rw [tActive_nd] at hstep
      have p0 : w.cell? ⟨b, off + j * 10, none⟩ = some (Value.int .i64 (m)) := hcs 0 (by decide)
      have p1 : w.cell? ⟨b, off + j * 10 + 1, none⟩ = some (Value.int .i64 (m + 1)) := hcs 1 (by decide)
      have p2 : w.cell? ⟨b, off + j * 10 + 2, none⟩ = some (v2) := hcs 2 (by decide)
      have p3 : w.cell? ⟨b, off + j * 10 + 3, none⟩ = some (v3) := hcs 3 (by decide)
      have p4 : w.cell? ⟨b, off + j * 10 + 4, none⟩ = some (Value.int .i64 (m + 1 + 1 + (ndL tCond x2 : Int) + (ndL tInt x3 : Int))) := hcs 4 (by decide)
      have p5 : w.cell? ⟨b, off + j * 10 + 5, none⟩ = some (v5) := hcs 5 (by decide)
      have p6 : w.cell? ⟨b, off + j * 10 + 6, none⟩ = some (Value.int .i64 (m + 1 + 1 + (ndL tCond x2 : Int) + (ndL tInt x3 : Int) + 1 + (ndL tInt x5 : Int))) := hcs 6 (by decide)
      have p7 : w.cell? ⟨b, off + j * 10 + 7, none⟩ = some (Value.int .i64 (m + 1 + 1 + (ndL tCond x2 : Int) + (ndL tInt x3 : Int) + 1 + (ndL tInt x5 : Int) + 1)) := hcs 7 (by decide)
      have p8 : w.cell? ⟨b, off + j * 10 + 8, none⟩ = some (Value.int .i64 (m + 1 + 1 + (ndL tCond x2 : Int) + (ndL tInt x3 : Int) + 1 + (ndL tInt x5 : Int) + 1 + 1)) := hcs 8 (by decide)
      have p9 : w.cell? ⟨b, off + j * 10 + 9, none⟩ = some (v9) := hcs 9 (by decide)
      have S2 := Lib.hid (show zL tCond x2 ≤ 1048576 by omega)
      have N2 := ndL_le tCond_law (by decide) x2
      have S3 := Lib.hid (show zL tInt x3 ≤ 1048576 by omega)
      have N3 := ndL_le tInt_law (by decide) x3
      have S5 := Lib.hid (show zL tInt x5 ≤ 1048576 by omega)
      have N5 := ndL_le tInt_law (by decide) x5
      have S9 := Lib.hid (show zL tRow x9 ≤ 1048576 by omega)
      have N9 := ndL_le tRow_law (by decide) x9
      have R2 : Hid (0 ≤ m + 1 + 1 ∧ m + 1 + 1 ≤ 1006632960) := Lib.hid (by omega)
      have A2 := Lib.hid h2
      have R3 : Hid (0 ≤ m + 1 + 1 + (ndL tCond x2 : Int) ∧ m + 1 + 1 + (ndL tCond x2 : Int) ≤ 1073741824) := Lib.hid (by omega)
      have A3 := Lib.hid h3
      have R5 : Hid (0 ≤ m + 1 + 1 + (ndL tCond x2 : Int) + (ndL tInt x3 : Int) + 1 ∧ m + 1 + 1 + (ndL tCond x2 : Int) + (ndL tInt x3 : Int) + 1 ≤ 1073741824) := Lib.hid (by omega)
      have A5 := Lib.hid h5
      have R9 : Hid (0 ≤ m + 1 + 1 + (ndL tCond x2 : Int) + (ndL tInt x3 : Int) + 1 + (ndL tInt x5 : Int) + 1 + 1 + 1 ∧ m + 1 + 1 + (ndL tCond x2 : Int) + (ndL tInt x3 : Int) + 1 + (ndL tInt x5 : Int) + 1 + 1 + 1 ≤ 1006632960) := Lib.hid (by omega)
      have A9 := Lib.hid h9
      have ng2 : ¬ m + 1 + 1 + (ndL tCond x2 : Int) < 0 := by omega
      have ng3 : ¬ m + 1 + 1 + (ndL tCond x2 : Int) + (ndL tInt x3 : Int) < 0 := by omega
      have ng5 : ¬ m + 1 + 1 + (ndL tCond x2 : Int) + (ndL tInt x3 : Int) + 1 + (ndL tInt x5 : Int) < 0 := by omega
      have ng9 : ¬ m + 1 + 1 + (ndL tCond x2 : Int) + (ndL tInt x3 : Int) + 1 + (ndL tInt x5 : Int) + 1 + 1 + 1 + (ndL tRow x9 : Int) < 0 := by omega
      have eq0 : ((m : Int) != m) = false := by simp
      have eq1 : ((m + 1 : Int) != m + 1) = false := by simp
      have eq4 : ((m + 1 + 1 + (ndL tCond x2 : Int) + (ndL tInt x3 : Int) : Int) != m + 1 + 1 + (ndL tCond x2 : Int) + (ndL tInt x3 : Int)) = false := by simp
      have eq6 : ((m + 1 + 1 + (ndL tCond x2 : Int) + (ndL tInt x3 : Int) + 1 + (ndL tInt x5 : Int) : Int) != m + 1 + 1 + (ndL tCond x2 : Int) + (ndL tInt x3 : Int) + 1 + (ndL tInt x5 : Int)) = false := by simp
      have eq7 : ((m + 1 + 1 + (ndL tCond x2 : Int) + (ndL tInt x3 : Int) + 1 + (ndL tInt x5 : Int) + 1 : Int) != m + 1 + 1 + (ndL tCond x2 : Int) + (ndL tInt x3 : Int) + 1 + (ndL tInt x5 : Int) + 1) = false := by simp
      have eq8 : ((m + 1 + 1 + (ndL tCond x2 : Int) + (ndL tInt x3 : Int) + 1 + (ndL tInt x5 : Int) + 1 + 1 : Int) != m + 1 + 1 + (ndL tCond x2 : Int) + (ndL tInt x3 : Int) + 1 + (ndL tInt x5 : Int) + 1 + 1) = false := by simp
      have hmx5 : m + 1 + 1 + (ndL tCond x2 : Int) + (ndL tInt x3 : Int) + 1 ≤ 1073741824 := by omega
      have hmx9 : m + 1 + 1 + (ndL tCond x2 : Int) + (ndL tInt x3 : Int) + 1 + (ndL tInt x5 : Int) + 1 + 1 + 1 ≤ 1073741824 := by omega
      have hmm : m + 1 + 1 + (ndL tCond x2 : Int) + (ndL tInt x3 : Int) + 1 + (ndL tInt x5 : Int) + 1 + 1 + 1 + (ndL tRow x9 : Int) = m' := by omega
      have HMM := Lib.hid hmm
      have hm0 : 0 ≤ m := by omega
      have hm1 : m ≤ 1073741824 := by omega
      clear hmm hstep hcs hzx N2 h2 N3 h3 N5 h5 N9 h9
      go_wp2_with fail
      refine (heldCondS_S v2 x2 (m + 1 + 1) _ A2.out S2.out R2.out.1 (by have := R2.out.2; omega)).mono ?_
      rintro e w2 ⟨rfl, rfl⟩
      go_wp2_with fail
      refine (heldIntS_S v3 x3 (m + 1 + 1 + (ndL tCond x2 : Int)) _ A3.out S3.out R3.out.1 (by have := R3.out.2; omega)).mono ?_
      rintro e w2 ⟨rfl, rfl⟩
      go_wp2_with fail
      refine (heldIntS_S v5 x5 (m + 1 + 1 + (ndL tCond x2 : Int) + (ndL tInt x3 : Int) + 1) _ A5.out S5.out R5.out.1 (by have := R5.out.2; omega)).mono ?_
      rintro e w2 ⟨rfl, rfl⟩
      go_wp2_with fail
      refine (heldRowS_S v9 x9 (m + 1 + 1 + (ndL tCond x2 : Int) + (ndL tInt x3 : Int) + 1 + (ndL tInt x5 : Int) + 1 + 1 + 1) _ A9.out S9.out R9.out.1 (by have := R9.out.2; omega)).mono ?_
      rintro e w2 ⟨rfl, rfl⟩
      rw [HMM.out]
      clear ng9
      have hnn : ¬ m' < 0 := by omega
      go_wp2
      go_round
      case rel => exact ⟨j + 1, by omega, by go_num, by rw [HM'.out]⟩
      case measure => simp [intOf]; omega
    · obtain rfl : j = xs.length := by omega
      go_wp2
      go_ret
      exact ⟨rfl, rfl⟩
end Go.Proofs.Ytdhglmoanpkeoaa
namespace Go.Proofs.Ytdhglmoanpkeoaa
open Go.RowKit
set_option linter.unusedVariables false
set_option linter.unusedSimpArgs false
def tFinished : Ty ((Int × Int × List (Int × Int × Int) × List Int) × Int × Int × List (Int × List Int)) := tPair tQuery (tPair tInt (tPair tInt tRowS))
theorem tFinished_law : tFinished.Law := tPair_law tQuery_law (tPair_law tInt_law (tPair_law tInt_law tRowS_law))
theorem tFinished_R {w : World} {cs : List Value} {a0 : Int} {a1 : Int} {x2 : List (Int × Int × Int)} {x3 : List Int} {a4 : Int} {a5 : Int} {x6 : List (Int × List Int)} (h : tFinished.R w cs ((a0, a1, x2, x3), a4, a5, x6)) : ∃ v2 v3 v6, cs = [.int .i64 a0, .int .i64 a1, v2, v3, .int .i64 a4, .int .i64 a5, v6] ∧ SlR tCond w v2 x2 ∧ SlR tInt w v3 x3 ∧ SlR tRow w v6 x6 := by
  obtain ⟨_, _, rfl, ⟨_, _, rfl, rfl, ⟨_, _, rfl, rfl, ⟨_, _, rfl, ⟨v2, rfl, h2⟩, ⟨v3, rfl, h3⟩⟩⟩⟩, ⟨_, _, rfl, rfl, ⟨_, _, rfl, rfl, ⟨v6, rfl, h6⟩⟩⟩⟩ := h
  exact ⟨_, _, _, rfl, h2, h3, h6⟩
theorem tFinished_sz {a0 : Int} {a1 : Int} {x2 : List (Int × Int × Int)} {x3 : List Int} {a4 : Int} {a5 : Int} {x6 : List (Int × List Int)} : tFinished.sz ((a0, a1, x2, x3), a4, a5, x6) = zL tCond x2 + zL tInt x3 + zL tRow x6 := by
  simp only [tFinished, tPair_sz, tPair_nd, tPair_nv, tInt_sz, tInt_nd, tInt_nv, tSl_sz, tSl_nd, tSl_nv, tQuery]
  try omega
theorem tFinished_nd {a0 : Int} {a1 : Int} {x2 : List (Int × Int × Int)} {x3 : List Int} {a4 : Int} {a5 : Int} {x6 : List (Int × List Int)} : tFinished.nd ((a0, a1, x2, x3), a4, a5, x6) = 4 + ndL tCond x2 + ndL tInt x3 + ndL tRow x6 := by
  simp only [tFinished, tPair_sz, tPair_nd, tPair_nv, tInt_sz, tInt_nd, tInt_nv, tSl_sz, tSl_nd, tSl_nv, tQuery]
  try omega
theorem tFinished_md {a0 : Int} {a1 : Int} {x2 : List (Int × Int × Int)} {x3 : List Int} {a4 : Int} {a5 : Int} {x6 : List (Int × List Int)} {k : Int} : tFinished.md ((a0, a1, x2, x3), a4, a5, x6) k = (((k), (k + 1), mAll tCond x2 (k + 1 + 1), mAll tInt x3 (k + 1 + 1 + (ndL tCond x2 : Int))), (k + 1 + 1 + (ndL tCond x2 : Int) + (ndL tInt x3 : Int)), (k + 1 + 1 + (ndL tCond x2 : Int) + (ndL tInt x3 : Int) + 1), mAll tRow x6 (k + 1 + 1 + (ndL tCond x2 : Int) + (ndL tInt x3 : Int) + 1 + 1)) := by
  simp only [tFinished, tPair_md, tPair_mv, tPair_nd, tPair_nv, tInt_md, tInt_mv, tInt_nd, tInt_nv, tSl_md, tSl_mv, tSl_nd, tSl_nv, tQuery, Int.natCast_add, Int.natCast_zero, Int.natCast_one, Int.add_zero, Int.zero_add, Int.add_assoc]
theorem tFinished_O {w : World} {F : Nat → Prop} {cs : List Value} {a0 : Int} {a1 : Int} {x2 : List (Int × Int × Int)} {x3 : List Int} {a4 : Int} {a5 : Int} {x6 : List (Int × List Int)} (h : tFinished.O w F cs ((a0, a1, x2, x3), a4, a5, x6)) : ∃ v2 v3 v6, ∃ F2 F3 F6 : Nat → Prop, cs = [.int .i64 a0, .int .i64 a1, v2, v3, .int .i64 a4, .int .i64 a5, v6] ∧ SlO 147 tCond w F2 v2 x2 ∧ SlO 3 tInt w F3 v3 x3 ∧ SlO 73 tRow w F6 v6 x6 ∧ (∀ b, F2 b → F b) ∧ (∀ b, F3 b → F b) ∧ (∀ b, F6 b → F b) ∧ (∀ b, F2 b → ¬ F3 b) ∧ (∀ b, F2 b → ¬ F6 b) ∧ (∀ b, F3 b → ¬ F6 b) := by
  obtain ⟨_, _, F0_1, F0_2, rfl, ⟨_, _, F1_1, F1_2, rfl, rfl, ⟨_, _, F2_1, F2_2, rfl, rfl, ⟨_, _, F3_1, F3_2, rfl, ⟨v2, rfl, h2⟩, ⟨v3, rfl, h3⟩, s3_1, s3_2, d3⟩, s2_1, s2_2, d2⟩, s1_1, s1_2, d1⟩, ⟨_, _, F4_1, F4_2, rfl, rfl, ⟨_, _, F5_1, F5_2, rfl, rfl, ⟨v6, rfl, h6⟩, s5_1, s5_2, d5⟩, s4_1, s4_2, d4⟩, s0_1, s0_2, d0⟩ := h
  exact ⟨v2, v3, v6, F3_1, F3_2, F5_2, rfl, h2, h3, h6, fun b h => (s0_1 b (s1_2 b (s2_2 b (s3_1 b h)))), fun b h => (s0_1 b (s1_2 b (s2_2 b (s3_2 b h)))), fun b h => (s0_2 b (s4_2 b (s5_2 b h))), fun b h h2 => d3 b h h2, fun b h h2 => d0 b (s1_2 b (s2_2 b (s3_1 b h))) (s4_2 b (s5_2 b h2)), fun b h h2 => d0 b (s1_2 b (s2_2 b (s3_2 b h))) (s4_2 b (s5_2 b h2))⟩
theorem tFinished_mkO {w : World} {F : Nat → Prop} {a0 : Int} {a1 : Int} {x2 : List (Int × Int × Int)} {x3 : List Int} {a4 : Int} {a5 : Int} {x6 : List (Int × List Int)} {v2 v3 v6 : Value} {F2 F3 F6 : Nat → Prop} (h2 : SlO 147 tCond w F2 v2 x2) (h3 : SlO 3 tInt w F3 v3 x3) (h6 : SlO 73 tRow w F6 v6 x6) (s2 : ∀ b, F2 b → F b) (s3 : ∀ b, F3 b → F b) (s6 : ∀ b, F6 b → F b) (d2_3 : ∀ b, F2 b → ¬ F3 b) (d2_6 : ∀ b, F2 b → ¬ F6 b) (d3_6 : ∀ b, F3 b → ¬ F6 b) : tFinished.O w F [.int .i64 a0, .int .i64 a1, v2, v3, .int .i64 a4, .int .i64 a5, v6] ((a0, a1, x2, x3), a4, a5, x6) := ⟨[.int .i64 a0, .int .i64 a1, v2, v3], [.int .i64 a4, .int .i64 a5, v6], fun b => F2 b ∨ (F3 b), F6, rfl, ⟨[.int .i64 a0], [.int .i64 a1, v2, v3], fun _ => False, fun b => F2 b ∨ (F3 b), rfl, rfl, ⟨[.int .i64 a1], [v2, v3], fun _ => False, fun b => F2 b ∨ (F3 b), rfl, rfl, ⟨[v2], [v3], F2, F3, rfl, ⟨_, rfl, h2⟩, ⟨_, rfl, h3⟩, (fun b h => (Or.inl h)), (fun b h => (Or.inr h)), (fun b h g => d2_3 b h g)⟩, (fun b h => (False.elim h)), (fun b h => (h.elim (fun q0 => (Or.inl q0)) (fun q0 => (Or.inr q0)))), (fun b h g => (False.elim h))⟩, (fun b h => (False.elim h)), (fun b h => (h.elim (fun q0 => (Or.inl q0)) (fun q0 => (Or.inr q0)))), (fun b h g => (False.elim h))⟩, ⟨[.int .i64 a4], [.int .i64 a5, v6], fun _ => False, F6, rfl, rfl, ⟨[.int .i64 a5], [v6], fun _ => False, F6, rfl, rfl, ⟨_, rfl, h6⟩, (fun b h => (False.elim h)), (fun b h => h), (fun b h g => (False.elim h))⟩, (fun b h => (False.elim h)), (fun b h => h), (fun b h g => (False.elim h))⟩, (fun b h => (h.elim (fun q0 => s2 b q0) (fun q0 => s3 b q0))), (fun b h => s6 b h), (fun b h g => (h.elim (fun q0 => d2_6 b q0 g) (fun q0 => d3_6 b q0 g)))⟩
set_option maxHeartbeats 8000000 in
set_option maxRecDepth 100000 in
theorem eqFinished_T (a0 a1 a4 a5 : Int) (v2 v3 v6 : Value) (x2 : List (Int × Int × Int)) (x3 : List Int) (x6 : List (Int × List Int)) (u2 u3 u6 : Value) (w : World) (h2 : SlR tCond w v2 x2) (h3 : SlR tInt w v3 x3) (h6 : SlR tRow w v6 x6) (g2 : SlR tCond w u2 x2) (g3 : SlR tInt w u3 x3) (g6 : SlR tRow w u6 x6) (s2 : zL tCond x2 ≤ 1048576) (s3 : zL tInt x3 ≤ 1048576) (s6 : zL tRow x6 ≤ 1048576) :
    Calls Try.prog 98 #[.agg #[.int .i64 a0, .int .i64 a1, v2, v3, .int .i64 a4, .int .i64 a5, v6], .agg #[.int .i64 a0, .int .i64 a1, u2, u3, .int .i64 a4, .int .i64 a5, u6]] w fun e w' => e = .returned (.bool true) ∧ Below w.heap.size w w' := by
  have H2 := Lib.hid h2; have G2 := Lib.hid g2; have S2 := Lib.hid s2
  have H3 := Lib.hid h3; have G3 := Lib.hid g3; have S3 := Lib.hid s3
  have H6 := Lib.hid h6; have G6 := Lib.hid g6; have S6 := Lib.hid s6
  clear h2 g2 s2 h3 g3 s3 h6 g6 s6
  have e0 : (a0 != a0) = false := by simp
  have e1 : (a1 != a1) = false := by simp
  have e4 : (a4 != a4) = false := by simp
  have e5 : (a5 != a5) = false := by simp
  go_enter Try.func98, Try.ntmps98
  go_wp2_with fail
  have hb : Below w.heap.size w ((w.alloc (.cells #[.int .i64 a0, .int .i64 a1, v2, v3, .int .i64 a4, .int .i64 a5, v6] 101)).alloc (.cells #[.int .i64 a0, .int .i64 a1, u2, u3, .int .i64 a4, .int .i64 a5, u6] 101)) := ((Below.refl _ w).alloc (Nat.le_refl _) _).alloc (by simp) _
  have g1 : ((w.alloc (.cells #[.int .i64 a0, .int .i64 a1, v2, v3, .int .i64 a4, .int .i64 a5, v6] 101)).alloc (.cells #[.int .i64 a0, .int .i64 a1, u2, u3, .int .i64 a4, .int .i64 a5, u6] 101)).heap[w.heap.size + 1]? = some (.cells #[.int .i64 a0, .int .i64 a1, u2, u3, .int .i64 a4, .int .i64 a5, u6] 101 (0, 0)) := by
    have := heap_alloc_new (w.alloc (.cells #[.int .i64 a0, .int .i64 a1, v2, v3, .int .i64 a4, .int .i64 a5, v6] 101)) (.cells #[.int .i64 a0, .int .i64 a1, u2, u3, .int .i64 a4, .int .i64 a5, u6] 101)
    simpa only [World.size_alloc] using this
  have g0 : ((w.alloc (.cells #[.int .i64 a0, .int .i64 a1, v2, v3, .int .i64 a4, .int .i64 a5, v6] 101)).alloc (.cells #[.int .i64 a0, .int .i64 a1, u2, u3, .int .i64 a4, .int .i64 a5, u6] 101)).heap[w.heap.size]? = some (.cells #[.int .i64 a0, .int .i64 a1, v2, v3, .int .i64 a4, .int .i64 a5, v6] 101 (0, 0)) := by
    rw [Below.heap_alloc _ _ _ (by simp)]
    exact heap_alloc_new w _
  have hz : w.heap.size + 1 < ((w.alloc (.cells #[.int .i64 a0, .int .i64 a1, v2, v3, .int .i64 a4, .int .i64 a5, v6] 101)).alloc (.cells #[.int .i64 a0, .int .i64 a1, u2, u3, .int .i64 a4, .int .i64 a5, u6] 101)).heap.size := by simp [World.size_alloc]
  generalize ((w.alloc (.cells #[.int .i64 a0, .int .i64 a1, v2, v3, .int .i64 a4, .int .i64 a5, v6] 101)).alloc (.cells #[.int .i64 a0, .int .i64 a1, u2, u3, .int .i64 a4, .int .i64 a5, u6] 101)) = W at *
  refine (eqQuery_T a0 a1 v2 v3 x2 x3 u2 u3 W (slR_below tCond_law H2.out hb) (slR_below tInt_law H3.out hb) (slR_below tCond_law G2.out hb) (slR_below tInt_law G3.out hb) S2.out S3.out).mono ?_
  rintro e w1 ⟨rfl, b1⟩
  replace g0 := (b1.block _ (by omega)).trans g0
  replace g1 := (b1.block _ (by omega)).trans g1
  have zz0 := b1.size
  replace hb := hb.trans (b1.mono (by omega))
  clear b1
  have p0_4 := (cell_of_row w1 _ 4 _ _ _ g0).trans (show _ = some (Value.int .i64 a4) from rfl)
  have p1_4 := (cell_of_row w1 _ 4 _ _ _ g1).trans (show _ = some (Value.int .i64 a4) from rfl)
  have p0_5 := (cell_of_row w1 _ 5 _ _ _ g0).trans (show _ = some (Value.int .i64 a5) from rfl)
  have p1_5 := (cell_of_row w1 _ 5 _ _ _ g1).trans (show _ = some (Value.int .i64 a5) from rfl)
  have p0_6 := (cell_of_row w1 _ 6 _ _ _ g0).trans (show _ = some (v6) from rfl)
  have p1_6 := (cell_of_row w1 _ 6 _ _ _ g1).trans (show _ = some (u6) from rfl)
  go_wp2_with fail
  clear p0_4 p1_4 p0_5 p1_5 p0_6 p1_6
  refine (eqRowS_S v6 u6 x6 w1 (slR_below tRow_law H6.out hb) (slR_below tRow_law G6.out hb) S6.out).mono ?_
  rintro e w2 ⟨rfl, b1⟩
  replace g0 := (b1.block _ (by omega)).trans g0
  replace g1 := (b1.block _ (by omega)).trans g1
  have zz1 := b1.size
  replace hb := hb.trans (b1.mono (by omega))
  clear b1
  go_wp2
  go_ret
  exact ⟨rfl, hb⟩
end Go.Proofs.Ytdhglmoanpkeoaa
namespace Go.Proofs.Ytdhglmoanpkeoaa
open Go.RowKit
set_option linter.unusedVariables false
set_option linter.unusedSimpArgs false
abbrev tFinishedS : Ty (List ((Int × Int × List (Int × Int × Int) × List Int) × Int × Int × List (Int × List Int))) := tSl 101 tFinished
theorem tFinishedS_law : tFinishedS.Law := tSl_law tFinished_law (by decide)
set_option maxHeartbeats 8000000 in
set_option maxRecDepth 100000 in
theorem eqFinishedS_S (v u : Value) (xs : List ((Int × Int × List (Int × Int × Int) × List Int) × Int × Int × List (Int × List Int))) (w : World) (h : SlR tFinished w v xs) (g : SlR tFinished w u xs) (hs : zL tFinished xs ≤ 1048576) :
    Calls Try.prog 46 #[v, u] w fun e w' => e = .returned (.bool true) ∧ Below w.heap.size w w' := by
  have H := Lib.hid h
  have G := Lib.hid g
  have HS := Lib.hid hs
  have hlen := zL_len hs
  obtain ⟨a, cap, rfl⟩ := slR_len h
  obtain ⟨a2, cap2, rfl⟩ := slR_len g
  clear h g hs
  go_enter Try.func46, Try.ntmps46
  go_wp2
  go_loopw [5] (fun i wr => ∃ k : Nat, k ≤ xs.length ∧ i = .int .i64 k ∧ Below w.heap.size w wr) (fun i _ => xs.length - (intOf i).toNat)
  case atStart => exact ⟨0, Nat.zero_le _, rfl, Below.refl _ _⟩
  case round =>
    obtain ⟨k, hk, rfl, hbel⟩ := hrel
    by_cases hlt : k < xs.length
    · obtain ⟨b, off, cap', cs, hv, hbl, hcs, hR⟩ := slR_at (slR_below tFinished_law H.out hbel) hlt
      simp only [Value.slice.injEq] at hv
      obtain ⟨rfl, _, rfl⟩ := hv
      obtain ⟨b2, off2, cap2', ds, hv2, hbl2, hds, hQ⟩ := slR_at (slR_below tFinished_law G.out hbel) hlt
      simp only [Value.slice.injEq] at hv2
      obtain ⟨rfl, _, rfl⟩ := hv2
      have hzx := zL_at HS.out hlt
      have i1 : (0 : Int) ≤ (k : Int) := by omega
      have i2 : (k : Int) < (xs.length : Int) := by omega
      generalize xs.getD k tFinished.d = x at *
      obtain ⟨⟨a0, a1, x2, x3⟩, a4, a5, x6⟩ := x
      obtain ⟨v2, v3, v6, hR'⟩ := tFinished_R hR
      obtain ⟨rfl, h2, h3, h6⟩ := hR'
      obtain ⟨u2, u3, u6, hQ'⟩ := tFinished_R hQ
      obtain ⟨rfl, g2, g3, g6⟩ := hQ'
      rw [tFinished_sz] at hzx
      have S2 := Lib.hid (show zL tCond x2 ≤ 1048576 by omega)
      have S3 := Lib.hid (show zL tInt x3 ≤ 1048576 by omega)
      have S6 := Lib.hid (show zL tRow x6 ≤ 1048576 by omega)
      have p0 : wr.cell? ⟨b, off + k * 7, none⟩ = some (Value.int .i64 a0) := hcs 0 (by decide)
      have q0 : wr.cell? ⟨b2, off2 + k * 7, none⟩ = some (Value.int .i64 a0) := hds 0 (by decide)
      have p1 : wr.cell? ⟨b, off + k * 7 + 1, none⟩ = some (Value.int .i64 a1) := hcs 1 (by decide)
      have q1 : wr.cell? ⟨b2, off2 + k * 7 + 1, none⟩ = some (Value.int .i64 a1) := hds 1 (by decide)
      have p2 : wr.cell? ⟨b, off + k * 7 + 2, none⟩ = some (v2) := hcs 2 (by decide)
      have q2 : wr.cell? ⟨b2, off2 + k * 7 + 2, none⟩ = some (u2) := hds 2 (by decide)
      have p3 : wr.cell? ⟨b, off + k * 7 + 3, none⟩ = some (v3) := hcs 3 (by decide)
      have q3 : wr.cell? ⟨b2, off2 + k * 7 + 3, none⟩ = some (u3) := hds 3 (by decide)
      have p4 : wr.cell? ⟨b, off + k * 7 + 4, none⟩ = some (Value.int .i64 a4) := hcs 4 (by decide)
      have q4 : wr.cell? ⟨b2, off2 + k * 7 + 4, none⟩ = some (Value.int .i64 a4) := hds 4 (by decide)
      have p5 : wr.cell? ⟨b, off + k * 7 + 5, none⟩ = some (Value.int .i64 a5) := hcs 5 (by decide)
      have q5 : wr.cell? ⟨b2, off2 + k * 7 + 5, none⟩ = some (Value.int .i64 a5) := hds 5 (by decide)
      have p6 : wr.cell? ⟨b, off + k * 7 + 6, none⟩ = some (v6) := hcs 6 (by decide)
      have q6 : wr.cell? ⟨b2, off2 + k * 7 + 6, none⟩ = some (u6) := hds 6 (by decide)
      clear hcs hds hzx
      go_wp2
      go_region_with (first | (go_at_call 98; refine (eqFinished_T a0 a1 a4 a5 v2 v3 v6 x2 x3 x6 u2 u3 u6 _ (by exact slR_same tCond_law h2 rfl rfl rfl rfl) (by exact slR_same tInt_law h3 rfl rfl rfl rfl) (by exact slR_same tRow_law h6 rfl rfl rfl rfl) (by exact slR_same tCond_law g2 rfl rfl rfl rfl) (by exact slR_same tInt_law g3 rfl rfl rfl rfl) (by exact slR_same tRow_law g6 rfl rfl rfl rfl) S2.out S3.out S6.out).mono ?_; rintro e w8 ⟨rfl, b9⟩; have b10 : Below wr.heap.size wr w8 := ⟨b9.os, b9.tape, b9.output, b9.size, b9.block⟩))
      all_goals
        have b11 := hbel.trans (b10.mono hbel.size)
        go_wp2
        go_roundw
        case rel => exact ⟨k + 1, by omega, by go_num, b11⟩
        case measure => simp [intOf]; omega
    · go_wp2
      go_ret
      exact ⟨rfl, hbel⟩
set_option maxHeartbeats 8000000 in
set_option maxRecDepth 100000 in
theorem markFinishedS_S (v : Value) (xs : List ((Int × Int × List (Int × Int × Int) × List Int) × Int × Int × List (Int × List Int))) (F : Nat → Prop) (k : Int) (w : World) (h : SlO 101 tFinished w F v xs) (hs : zL tFinished xs ≤ 1048576) (k0 : 0 ≤ k) (k1 : k ≤ 939524096) :
    Calls Try.prog 49 #[v, .int .i64 k] w fun e w' => e = .returned (.int .i64 (k + (ndL tFinished xs : Int))) ∧ SlO 101 tFinished w' F v (mAll tFinished xs k) ∧ Turn F w w' := by
  rw [← kAt_all]
  have HS := Lib.hid hs
  have hlen := zL_len hs
  rcases slO_form h with ⟨rfl, rfl⟩ | ⟨g, cap, rfl, hFg, hgw⟩
  · have H := Lib.hid h
    clear h hs
    go_enter Try.func49, Try.ntmps49
    go_wp2
    go_loop [1, 5] (fun m i => i = .int .i64 0 ∧ m = .int .i64 k) (fun _ _ => 0)
    case atStart => exact ⟨rfl, rfl⟩
    case round =>
      obtain ⟨rfl, rfl⟩ := hrel
      go_wp2
      go_ret
      exact ⟨by simp [kAt, sumN], by rw [show mAll tFinished [] k = [] from rfl]; exact H.out, Turn.refl _ _⟩
  · have H := Lib.hid h
    clear h hs
    go_enter Try.func49, Try.ntmps49
    go_wp2
    go_loopw [1, 5] (fun m i wr => ∃ j : Nat, j ≤ xs.length ∧ i = .int .i64 j ∧ m = .int .i64 (kAt tFinished xs k j) ∧ SlO 101 tFinished wr (fun b => F b ∧ b < w.heap.size) (.slice (some ⟨g, 0, none⟩) xs.length cap) (mTo tFinished xs k j) ∧ Turn F w wr) (fun _ i _ => xs.length - (intOf i).toNat)
    case atStart => exact ⟨0, Nat.zero_le _, rfl, by rw [kAt_zero], by rw [mTo_zero]; exact slO_lt tFinished_law H.out, Turn.refl _ _⟩
    case round =>
      obtain ⟨j, hj, rfl, rfl, hown, hon⟩ := hrel
      by_cases hlt : j < xs.length
      · have i1 : (0 : Int) ≤ (j : Int) := by omega
        have i2 : (j : Int) < (xs.length : Int) := by omega
        have hjl : j < (mTo tFinished xs k j).length := by rw [mTo_len hj]; exact hlt
        have HLL := Lib.hid (mTo_len (T := tFinished) (k := k) hj)
        obtain ⟨r1, r2⟩ := kAt_range tFinished_law (by decide) (k := k) HS.out hj
        obtain ⟨r3, r4⟩ := kAt_range tFinished_law (by decide) (k := k) (j := j + 1) HS.out (by omega)
        have hzx := zL_at HS.out hlt
        have hstep := kAt_step (T := tFinished) (k := k) hlt
        have hset := mTo_step (T := tFinished) (k := k) hlt
        have hsz := hon.size
        obtain ⟨hme, hFg2, hgl, cj, Fj, Lc, hrow, hLc, hO, hFj, hput⟩ := slO_open tFinished_law hown hjl
        clear hme hFg2
        rw [mTo_at hlt] at hO
        have HM : Hid (∃ m', kAt tFinished xs k (j + 1) = m') := Lib.hid ⟨_, rfl⟩
        obtain ⟨m', hm'⟩ := HM.out
        rw [hm'] at hstep r3 r4
        have HM' := Lib.hid hm'
        clear hm' HM H hown hjl
        generalize kAt tFinished xs k j = m at *
        generalize xs.getD j tFinished.d = x at *
        rw [HLL.out] at hrow hput
        obtain ⟨⟨a0, a1, x2, x3⟩, a4, a5, x6⟩ := x
        rw [tFinished_md] at hset
        rw [tFinished_nd] at hstep
        rw [tFinished_sz] at hzx
        obtain ⟨v2, v3, v6, K2, K3, K6, rfl, o2, o3, o6, q2, q3, q6, d2_3, d2_6, d3_6⟩ := tFinished_O hO
        have S2 := Lib.hid (show zL tCond x2 ≤ 1048576 by omega)
        have N2 := ndL_le tCond_law (by decide) x2
        have S3 := Lib.hid (show zL tInt x3 ≤ 1048576 by omega)
        have N3 := ndL_le tInt_law (by decide) x3
        have S6 := Lib.hid (show zL tRow x6 ≤ 1048576 by omega)
        have N6 := ndL_le tRow_law (by decide) x6
        have R2 : Hid (0 ≤ m + 1 + 1 ∧ m + 1 + 1 ≤ 1006632960) := Lib.hid (by omega)
        have R3 : Hid (0 ≤ m + 1 + 1 + (ndL tCond x2 : Int) ∧ m + 1 + 1 + (ndL tCond x2 : Int) ≤ 1073741824) := Lib.hid (by omega)
        have R6 : Hid (0 ≤ m + 1 + 1 + (ndL tCond x2 : Int) + (ndL tInt x3 : Int) + 1 + 1 ∧ m + 1 + 1 + (ndL tCond x2 : Int) + (ndL tInt x3 : Int) + 1 + 1 ≤ 1006632960) := Lib.hid (by omega)
        have hmx6 : m + 1 + 1 + (ndL tCond x2 : Int) + (ndL tInt x3 : Int) + 1 + 1 ≤ 1073741824 := by omega
        have hmm : m + 1 + 1 + (ndL tCond x2 : Int) + (ndL tInt x3 : Int) + 1 + 1 + (ndL tRow x6 : Int) = m' := by omega
        have HMM := Lib.hid hmm
        have hm0 : 0 ≤ m := by omega
        have hm1 : m ≤ 1073741824 := by omega
        clear hmm hstep hzx N2 N3 N6
        have hLl : Lc.length = xs.length * 7 := hrow.1
        have HSET := Lib.hid hset
        clear hset
        have tt : Turn (fun b => b = g ∨ Fj b ∨ wr.heap.size ≤ b) wr wr := Turn.refl _ _
        have rr := hrow
        have c0 : ∃ x, wr.cell? ⟨g, j * 7, none⟩ = some x := ⟨_, (World.ownsRow.cellAt rr (j * 7) (by show j * 7 < xs.length * 7; omega)).trans (List.getElem?_eq_getElem (by have h9 := rr.1; have h8 : xs.length * tFinished.n = xs.length * 7 := rfl; omega))⟩
        obtain ⟨y0, c0⟩ := c0
        have f0 := World.ownsRow.frozenAt rr (j * 7)
        have c1 : ∃ x, wr.cell? ⟨g, j * 7 + 1, none⟩ = some x := ⟨_, (World.ownsRow.cellAt rr (j * 7 + 1) (by show j * 7 + 1 < xs.length * 7; omega)).trans (List.getElem?_eq_getElem (by have h9 := rr.1; have h8 : xs.length * tFinished.n = xs.length * 7 := rfl; omega))⟩
        obtain ⟨y1, c1⟩ := c1
        have f1 := World.ownsRow.frozenAt rr (j * 7 + 1)
        have cv2 : wr.cell? ⟨g, j * 7 + 2, none⟩ = some v2 := (World.ownsRow.cellAt rr (j * 7 + 2) (by show j * 7 + 2 < xs.length * 7; omega)).trans (by exact hLc 2 (by decide))
        go_wp2_with fail
        clear c0 f0 c1 f1 cv2
        have ts : Turn (fun b => b = g) wr ((wr.setCell ⟨g, j * 7, none⟩ (.int .i64 (m))).setCell ⟨g, j * 7 + 1, none⟩ (.int .i64 (m + 1))) := (((Turn.refl (fun b => b = g) _).trans (turn_set (G := fun b => b = g) (g := g) (j := j * 7) (u := .int .i64 (m)) rfl)).trans (turn_set (G := fun b => b = g) (g := g) (j := j * 7 + 1) (u := .int .i64 (m + 1)) rfl))
        replace rr := (World.ownsRow.stored (World.ownsRow.stored rr (j * 7) (.int .i64 (m))).1 (j * 7 + 1) (.int .i64 (m + 1))).1
        replace o2 := slO_turn tCond_law o2 ts (fun b h1 h2 => (hFj b (q2 b h1)).2.1 h2)
        replace o3 := slO_turn tInt_law o3 ts (fun b h1 h2 => (hFj b (q3 b h1)).2.1 h2)
        replace o6 := slO_turn tRow_law o6 ts (fun b h1 h2 => (hFj b (q6 b h1)).2.1 h2)
        replace tt := tt.trans (ts.mono (fun b h => Or.inl h))
        clear ts
        generalize ((wr.setCell ⟨g, j * 7, none⟩ (.int .i64 (m))).setCell ⟨g, j * 7 + 1, none⟩ (.int .i64 (m + 1))) = W0 at *
        refine (markCondS_S v2 x2 _ (m + 1 + 1) W0 o2 S2.out R2.out.1 (by have := R2.out.2; omega)).mono ?_
        rintro e w1 ⟨rfl, m2, t1⟩
        replace rr := row_turn rr t1 (fun b hb h => by simp [Value.ownBlock] at hb; exact (hFj b (q2 b h)).2.1 hb.symm)
        replace o2 := m2
        replace o3 := slO_turn tInt_law o3 t1 (fun b h1 h2 => d2_3 b h2 h1)
        replace o6 := slO_turn tRow_law o6 t1 (fun b h1 h2 => d2_6 b h2 h1)
        replace tt := tt.trans (t1.mono (fun b h => Or.inr (Or.inl (q2 b h))))
        clear t1
        have cv3 : w1.cell? ⟨g, j * 7 + 3, none⟩ = some v3 := (World.ownsRow.cellAt rr (j * 7 + 3) (by show j * 7 + 3 < xs.length * 7; omega)).trans (by rw [List.getElem?_set_ne (by omega)]; rw [List.getElem?_set_ne (by omega)]; exact hLc 3 (by decide))
        go_wp2_with fail
        clear cv3
        refine (markIntS_S v3 x3 _ (m + 1 + 1 + (ndL tCond x2 : Int)) w1 o3 S3.out R3.out.1 (by have := R3.out.2; omega)).mono ?_
        rintro e w2 ⟨rfl, m3, t1⟩
        replace rr := row_turn rr t1 (fun b hb h => by simp [Value.ownBlock] at hb; exact (hFj b (q3 b h)).2.1 hb.symm)
        replace o2 := slO_turn tCond_law o2 t1 (fun b h1 h2 => d2_3 b h1 h2)
        replace o3 := m3
        replace o6 := slO_turn tRow_law o6 t1 (fun b h1 h2 => d3_6 b h2 h1)
        replace tt := tt.trans (t1.mono (fun b h => Or.inr (Or.inl (q3 b h))))
        clear t1
        have c4 : ∃ x, w2.cell? ⟨g, j * 7 + 4, none⟩ = some x := ⟨_, (World.ownsRow.cellAt rr (j * 7 + 4) (by show j * 7 + 4 < xs.length * 7; omega)).trans (List.getElem?_eq_getElem (by have h9 := rr.1; have h8 : xs.length * tFinished.n = xs.length * 7 := rfl; omega))⟩
        obtain ⟨y4, c4⟩ := c4
        have f4 := World.ownsRow.frozenAt rr (j * 7 + 4)
        have c5 : ∃ x, w2.cell? ⟨g, j * 7 + 5, none⟩ = some x := ⟨_, (World.ownsRow.cellAt rr (j * 7 + 5) (by show j * 7 + 5 < xs.length * 7; omega)).trans (List.getElem?_eq_getElem (by have h9 := rr.1; have h8 : xs.length * tFinished.n = xs.length * 7 := rfl; omega))⟩
        obtain ⟨y5, c5⟩ := c5
        have f5 := World.ownsRow.frozenAt rr (j * 7 + 5)
        have cv6 : w2.cell? ⟨g, j * 7 + 6, none⟩ = some v6 := (World.ownsRow.cellAt rr (j * 7 + 6) (by show j * 7 + 6 < xs.length * 7; omega)).trans (by rw [List.getElem?_set_ne (by omega)]; rw [List.getElem?_set_ne (by omega)]; exact hLc 6 (by decide))
        go_wp2_with fail
        clear c4 f4 c5 f5 cv6
        have ts : Turn (fun b => b = g) w2 ((w2.setCell ⟨g, j * 7 + 4, none⟩ (.int .i64 (m + 1 + 1 + (ndL tCond x2 : Int) + (ndL tInt x3 : Int)))).setCell ⟨g, j * 7 + 5, none⟩ (.int .i64 (m + 1 + 1 + (ndL tCond x2 : Int) + (ndL tInt x3 : Int) + 1))) := (((Turn.refl (fun b => b = g) _).trans (turn_set (G := fun b => b = g) (g := g) (j := j * 7 + 4) (u := .int .i64 (m + 1 + 1 + (ndL tCond x2 : Int) + (ndL tInt x3 : Int))) rfl)).trans (turn_set (G := fun b => b = g) (g := g) (j := j * 7 + 5) (u := .int .i64 (m + 1 + 1 + (ndL tCond x2 : Int) + (ndL tInt x3 : Int) + 1)) rfl))
        replace rr := (World.ownsRow.stored (World.ownsRow.stored rr (j * 7 + 4) (.int .i64 (m + 1 + 1 + (ndL tCond x2 : Int) + (ndL tInt x3 : Int)))).1 (j * 7 + 5) (.int .i64 (m + 1 + 1 + (ndL tCond x2 : Int) + (ndL tInt x3 : Int) + 1))).1
        replace o2 := slO_turn tCond_law o2 ts (fun b h1 h2 => (hFj b (q2 b h1)).2.1 h2)
        replace o3 := slO_turn tInt_law o3 ts (fun b h1 h2 => (hFj b (q3 b h1)).2.1 h2)
        replace o6 := slO_turn tRow_law o6 ts (fun b h1 h2 => (hFj b (q6 b h1)).2.1 h2)
        replace tt := tt.trans (ts.mono (fun b h => Or.inl h))
        clear ts
        generalize ((w2.setCell ⟨g, j * 7 + 4, none⟩ (.int .i64 (m + 1 + 1 + (ndL tCond x2 : Int) + (ndL tInt x3 : Int)))).setCell ⟨g, j * 7 + 5, none⟩ (.int .i64 (m + 1 + 1 + (ndL tCond x2 : Int) + (ndL tInt x3 : Int) + 1))) = W2 at *
        refine (markRowS_S v6 x6 _ (m + 1 + 1 + (ndL tCond x2 : Int) + (ndL tInt x3 : Int) + 1 + 1) W2 o6 S6.out R6.out.1 (by have := R6.out.2; omega)).mono ?_
        rintro e w3 ⟨rfl, m6, t1⟩
        replace rr := row_turn rr t1 (fun b hb h => by simp [Value.ownBlock] at hb; exact (hFj b (q6 b h)).2.1 hb.symm)
        replace o2 := slO_turn tCond_law o2 t1 (fun b h1 h2 => d2_6 b h1 h2)
        replace o3 := slO_turn tInt_law o3 t1 (fun b h1 h2 => d3_6 b h1 h2)
        replace o6 := m6
        replace tt := tt.trans (t1.mono (fun b h => Or.inr (Or.inl (q6 b h))))
        clear t1
        have hO2 := tFinished_mkO (F := Fj) (a0 := m) (a1 := m + 1) (a4 := m + 1 + 1 + (ndL tCond x2 : Int) + (ndL tInt x3 : Int)) (a5 := m + 1 + 1 + (ndL tCond x2 : Int) + (ndL tInt x3 : Int) + 1) o2 o3 o6 q2 q3 q6 d2_3 d2_6 d3_6
        have hst := hput w3 ((((Lc.set (j * 7) (.int .i64 (m))).set (j * 7 + 1) (.int .i64 (m + 1))).set (j * 7 + 4) (.int .i64 (m + 1 + 1 + (ndL tCond x2 : Int) + (ndL tInt x3 : Int)))).set (j * 7 + 5) (.int .i64 (m + 1 + 1 + (ndL tCond x2 : Int) + (ndL tInt x3 : Int) + 1))) [.int .i64 (m), .int .i64 (m + 1), v2, v3, .int .i64 (m + 1 + 1 + (ndL tCond x2 : Int) + (ndL tInt x3 : Int)), .int .i64 (m + 1 + 1 + (ndL tCond x2 : Int) + (ndL tInt x3 : Int) + 1), v6] Fj _ rr (fun p hp => by have hp2 : p < j * 7 ∨ j * 7 + 7 ≤ p := hp; rw [List.getElem?_set_ne (by omega)]; rw [List.getElem?_set_ne (by omega)]; rw [List.getElem?_set_ne (by omega)]; rw [List.getElem?_set_ne (by omega)]) (fun i hi => by have hi' : i < 7 := hi; match i, hi' with | 0, _ => (show (((((Lc.set (j * 7) (.int .i64 (m))).set (j * 7 + 1) (.int .i64 (m + 1))).set (j * 7 + 4) (.int .i64 (m + 1 + 1 + (ndL tCond x2 : Int) + (ndL tInt x3 : Int)))).set (j * 7 + 5) (.int .i64 (m + 1 + 1 + (ndL tCond x2 : Int) + (ndL tInt x3 : Int) + 1))))[j * 7]? = _; rw [List.getElem?_set_ne (by omega)]; rw [List.getElem?_set_ne (by omega)]; rw [List.getElem?_set_ne (by omega)]; rw [List.getElem?_set_self (by first | omega | (simp only [List.length_set]; omega))]; rfl) | 1, _ => (show (((((Lc.set (j * 7) (.int .i64 (m))).set (j * 7 + 1) (.int .i64 (m + 1))).set (j * 7 + 4) (.int .i64 (m + 1 + 1 + (ndL tCond x2 : Int) + (ndL tInt x3 : Int)))).set (j * 7 + 5) (.int .i64 (m + 1 + 1 + (ndL tCond x2 : Int) + (ndL tInt x3 : Int) + 1))))[j * 7 + 1]? = _; rw [List.getElem?_set_ne (by omega)]; rw [List.getElem?_set_ne (by omega)]; rw [List.getElem?_set_self (by first | omega | (simp only [List.length_set]; omega))]; rfl) | 2, _ => (show (((((Lc.set (j * 7) (.int .i64 (m))).set (j * 7 + 1) (.int .i64 (m + 1))).set (j * 7 + 4) (.int .i64 (m + 1 + 1 + (ndL tCond x2 : Int) + (ndL tInt x3 : Int)))).set (j * 7 + 5) (.int .i64 (m + 1 + 1 + (ndL tCond x2 : Int) + (ndL tInt x3 : Int) + 1))))[j * 7 + 2]? = _; rw [List.getElem?_set_ne (by omega)]; rw [List.getElem?_set_ne (by omega)]; rw [List.getElem?_set_ne (by omega)]; rw [List.getElem?_set_ne (by omega)]; exact hLc 2 (by decide)) | 3, _ => (show (((((Lc.set (j * 7) (.int .i64 (m))).set (j * 7 + 1) (.int .i64 (m + 1))).set (j * 7 + 4) (.int .i64 (m + 1 + 1 + (ndL tCond x2 : Int) + (ndL tInt x3 : Int)))).set (j * 7 + 5) (.int .i64 (m + 1 + 1 + (ndL tCond x2 : Int) + (ndL tInt x3 : Int) + 1))))[j * 7 + 3]? = _; rw [List.getElem?_set_ne (by omega)]; rw [List.getElem?_set_ne (by omega)]; rw [List.getElem?_set_ne (by omega)]; rw [List.getElem?_set_ne (by omega)]; exact hLc 3 (by decide)) | 4, _ => (show (((((Lc.set (j * 7) (.int .i64 (m))).set (j * 7 + 1) (.int .i64 (m + 1))).set (j * 7 + 4) (.int .i64 (m + 1 + 1 + (ndL tCond x2 : Int) + (ndL tInt x3 : Int)))).set (j * 7 + 5) (.int .i64 (m + 1 + 1 + (ndL tCond x2 : Int) + (ndL tInt x3 : Int) + 1))))[j * 7 + 4]? = _; rw [List.getElem?_set_ne (by omega)]; rw [List.getElem?_set_self (by first | omega | (simp only [List.length_set]; omega))]; rfl) | 5, _ => (show (((((Lc.set (j * 7) (.int .i64 (m))).set (j * 7 + 1) (.int .i64 (m + 1))).set (j * 7 + 4) (.int .i64 (m + 1 + 1 + (ndL tCond x2 : Int) + (ndL tInt x3 : Int)))).set (j * 7 + 5) (.int .i64 (m + 1 + 1 + (ndL tCond x2 : Int) + (ndL tInt x3 : Int) + 1))))[j * 7 + 5]? = _; rw [List.getElem?_set_self (by first | omega | (simp only [List.length_set]; omega))]; rfl) | 6, _ => (show (((((Lc.set (j * 7) (.int .i64 (m))).set (j * 7 + 1) (.int .i64 (m + 1))).set (j * 7 + 4) (.int .i64 (m + 1 + 1 + (ndL tCond x2 : Int) + (ndL tInt x3 : Int)))).set (j * 7 + 5) (.int .i64 (m + 1 + 1 + (ndL tCond x2 : Int) + (ndL tInt x3 : Int) + 1))))[j * 7 + 6]? = _; rw [List.getElem?_set_ne (by omega)]; rw [List.getElem?_set_ne (by omega)]; rw [List.getElem?_set_ne (by omega)]; rw [List.getElem?_set_ne (by omega)]; exact hLc 6 (by decide))) hO2 (fun b hb => ⟨(hFj b hb).1, Or.inl hb⟩) tt
        rw [HSET.out] at hst
        have HST := Lib.hid hst
        have hon2 := hon.trans (Turn.mono (G := fun b => F b ∧ b < w.heap.size) (G' := F) ⟨tt.os, tt.tape, tt.output, tt.size, fun b hb hn => tt.block b hb (fun h => hn (h.elim (fun h => by rw [h]; exact ⟨hFg, hgw⟩) (fun h => h.elim (fun h => (hFj b h).1) (fun h => absurd hb (Nat.not_lt.2 h)))))⟩ (fun b h => h.1))
        clear hst hput tt rr hO2 hon hFj hLc hLl o2 o3 o6
        rw [HMM.out]
        go_wp2
        go_roundw
        case rel => exact ⟨j + 1, by omega, by go_num, by rw [HM'.out], HST.out, hon2⟩
        case measure => simp [intOf]; omega
      · obtain rfl : j = xs.length := by omega
        rw [mTo_all] at hown
        go_wp2
        go_ret
        refine ⟨?_, slO_mono hown (fun b h => h.1), hon⟩
        simp
set_option maxHeartbeats 8000000 in
set_option maxRecDepth 100000 in
theorem heldFinishedS_S (v : Value) (xs : List ((Int × Int × List (Int × Int × Int) × List Int) × Int × Int × List (Int × List Int))) (k : Int) (w : World) (h : SlR tFinished w v (mAll tFinished xs k)) (hs : zL tFinished xs ≤ 1048576) (k0 : 0 ≤ k) (k1 : k ≤ 939524096) :
    Calls Try.prog 53 #[v, .int .i64 k] w fun e w' => e = .returned (.int .i64 (k + (ndL tFinished xs : Int))) ∧ w = w' := by
  rw [← kAt_all]
  have HS := Lib.hid hs
  have H := Lib.hid h
  have hlen := zL_len hs
  obtain ⟨a, cap, rfl⟩ := slR_len h
  rw [mAll_len] at H ⊢
  clear h hs
  go_enter Try.func53, Try.ntmps53
  go_wp2
  go_loop [1, 5] (fun m i => ∃ j : Nat, j ≤ xs.length ∧ i = .int .i64 j ∧ m = .int .i64 (kAt tFinished xs k j)) (fun _ i => xs.length - (intOf i).toNat)
  case atStart => exact ⟨0, Nat.zero_le _, rfl, by rw [kAt_zero]⟩
  case round =>
    obtain ⟨j, hj, rfl, rfl⟩ := hrel
    by_cases hlt : j < xs.length
    · have i1 : (0 : Int) ≤ (j : Int) := by omega
      have i2 : (j : Int) < (xs.length : Int) := by omega
      obtain ⟨r1, r2⟩ := kAt_range tFinished_law (by decide) (k := k) HS.out hj
      obtain ⟨r3, r4⟩ := kAt_range tFinished_law (by decide) (k := k) (j := j + 1) HS.out (by omega)
      have hzx := zL_at HS.out hlt
      have hstep := kAt_step (T := tFinished) (k := k) hlt
      obtain ⟨b, off, cap', cs, hv, hbl, hcs, hR⟩ := slR_at H.out (k := j) (by rw [mAll_len]; exact hlt)
      rw [mAll_len] at hv
      simp only [Value.slice.injEq] at hv
      obtain ⟨rfl, _, rfl⟩ := hv
      rw [mAll_at hlt] at hR
      have HM : Hid (∃ m', kAt tFinished xs k (j + 1) = m') := Lib.hid ⟨_, rfl⟩
      obtain ⟨m', hm'⟩ := HM.out
      rw [hm'] at hstep r3 r4
      have HM' := Lib.hid hm'
      clear hm' HM H
      generalize kAt tFinished xs k j = m at *
      generalize xs.getD j tFinished.d = x at *
      obtain ⟨⟨a0, a1, x2, x3⟩, a4, a5, x6⟩ := x
      rw [tFinished_md] at hR
      obtain ⟨v2, v3, v6, hR'⟩ := tFinished_R hR
      obtain ⟨rfl, h2, h3, h6⟩ := hR'
      rw [tFinished_sz] at hzx
      rw [tFinished_nd] at hstep
      have p0 : w.cell? ⟨b, off + j * 7, none⟩ = some (Value.int .i64 (m)) := hcs 0 (by decide)
      have p1 : w.cell? ⟨b, off + j * 7 + 1, none⟩ = some (Value.int .i64 (m + 1)) := hcs 1 (by decide)
      have p2 : w.cell? ⟨b, off + j * 7 + 2, none⟩ = some (v2) := hcs 2 (by decide)
      have p3 : w.cell? ⟨b, off + j * 7 + 3, none⟩ = some (v3) := hcs 3 (by decide)
      have p4 : w.cell? ⟨b, off + j * 7 + 4, none⟩ = some (Value.int .i64 (m + 1 + 1 + (ndL tCond x2 : Int) + (ndL tInt x3 : Int))) := hcs 4 (by decide)
      have p5 : w.cell? ⟨b, off + j * 7 + 5, none⟩ = some (Value.int .i64 (m + 1 + 1 + (ndL tCond x2 : Int) + (ndL tInt x3 : Int) + 1)) := hcs 5 (by decide)
      have p6 : w.cell? ⟨b, off + j * 7 + 6, none⟩ = some (v6) := hcs 6 (by decide)
      have S2 := Lib.hid (show zL tCond x2 ≤ 1048576 by omega)
      have N2 := ndL_le tCond_law (by decide) x2
      have S3 := Lib.hid (show zL tInt x3 ≤ 1048576 by omega)
      have N3 := ndL_le tInt_law (by decide) x3
      have S6 := Lib.hid (show zL tRow x6 ≤ 1048576 by omega)
      have N6 := ndL_le tRow_law (by decide) x6
      have R2 : Hid (0 ≤ m + 1 + 1 ∧ m + 1 + 1 ≤ 1006632960) := Lib.hid (by omega)
      have A2 := Lib.hid h2
      have R3 : Hid (0 ≤ m + 1 + 1 + (ndL tCond x2 : Int) ∧ m + 1 + 1 + (ndL tCond x2 : Int) ≤ 1073741824) := Lib.hid (by omega)
      have A3 := Lib.hid h3
      have R6 : Hid (0 ≤ m + 1 + 1 + (ndL tCond x2 : Int) + (ndL tInt x3 : Int) + 1 + 1 ∧ m + 1 + 1 + (ndL tCond x2 : Int) + (ndL tInt x3 : Int) + 1 + 1 ≤ 1006632960) := Lib.hid (by omega)
      have A6 := Lib.hid h6
      have ng2 : ¬ m + 1 + 1 + (ndL tCond x2 : Int) < 0 := by omega
      have ng3 : ¬ m + 1 + 1 + (ndL tCond x2 : Int) + (ndL tInt x3 : Int) < 0 := by omega
      have ng6 : ¬ m + 1 + 1 + (ndL tCond x2 : Int) + (ndL tInt x3 : Int) + 1 + 1 + (ndL tRow x6 : Int) < 0 := by omega
      have eq0 : ((m : Int) != m) = false := by simp
      have eq1 : ((m + 1 : Int) != m + 1) = false := by simp
      have eq4 : ((m + 1 + 1 + (ndL tCond x2 : Int) + (ndL tInt x3 : Int) : Int) != m + 1 + 1 + (ndL tCond x2 : Int) + (ndL tInt x3 : Int)) = false := by simp
      have eq5 : ((m + 1 + 1 + (ndL tCond x2 : Int) + (ndL tInt x3 : Int) + 1 : Int) != m + 1 + 1 + (ndL tCond x2 : Int) + (ndL tInt x3 : Int) + 1) = false := by simp
      have hmx6 : m + 1 + 1 + (ndL tCond x2 : Int) + (ndL tInt x3 : Int) + 1 + 1 ≤ 1073741824 := by omega
      have hmm : m + 1 + 1 + (ndL tCond x2 : Int) + (ndL tInt x3 : Int) + 1 + 1 + (ndL tRow x6 : Int) = m' := by omega
      have HMM := Lib.hid hmm
      have hm0 : 0 ≤ m := by omega
      have hm1 : m ≤ 1073741824 := by omega
      clear hmm hstep hcs hzx N2 h2 N3 h3 N6 h6
      go_wp2_with fail
      refine (heldCondS_S v2 x2 (m + 1 + 1) _ A2.out S2.out R2.out.1 (by have := R2.out.2; omega)).mono ?_
      rintro e w2 ⟨rfl, rfl⟩
      go_wp2_with fail
      refine (heldIntS_S v3 x3 (m + 1 + 1 + (ndL tCond x2 : Int)) _ A3.out S3.out R3.out.1 (by have := R3.out.2; omega)).mono ?_
      rintro e w2 ⟨rfl, rfl⟩
      go_wp2_with fail
      refine (heldRowS_S v6 x6 (m + 1 + 1 + (ndL tCond x2 : Int) + (ndL tInt x3 : Int) + 1 + 1) _ A6.out S6.out R6.out.1 (by have := R6.out.2; omega)).mono ?_
      rintro e w2 ⟨rfl, rfl⟩
      rw [HMM.out]
      clear ng6
      have hnn : ¬ m' < 0 := by omega
      go_wp2
      go_round
      case rel => exact ⟨j + 1, by omega, by go_num, by rw [HM'.out]⟩
      case measure => simp [intOf]; omega
    · obtain rfl : j = xs.length := by omega
      go_wp2
      go_ret
      exact ⟨rfl, rfl⟩
end Go.Proofs.Ytdhglmoanpkeoaa
namespace Go.Proofs.Ytdhglmoanpkeoaa
open Go.RowKit
set_option linter.unusedVariables false
set_option linter.unusedSimpArgs false
def tCharge : Ty (Int × Int × List Int × List Int × List Int) := tPair tInt (tPair tInt (tPair tIntS (tPair tIntS tIntS)))
theorem tCharge_law : tCharge.Law := tPair_law tInt_law (tPair_law tInt_law (tPair_law tIntS_law (tPair_law tIntS_law tIntS_law)))
theorem tCharge_R {w : World} {cs : List Value} {a0 : Int} {a1 : Int} {x2 : List Int} {x3 : List Int} {x4 : List Int} (h : tCharge.R w cs (a0, a1, x2, x3, x4)) : ∃ v2 v3 v4, cs = [.int .i64 a0, .int .i64 a1, v2, v3, v4] ∧ SlR tInt w v2 x2 ∧ SlR tInt w v3 x3 ∧ SlR tInt w v4 x4 := by
  obtain ⟨_, _, rfl, rfl, ⟨_, _, rfl, rfl, ⟨_, _, rfl, ⟨v2, rfl, h2⟩, ⟨_, _, rfl, ⟨v3, rfl, h3⟩, ⟨v4, rfl, h4⟩⟩⟩⟩⟩ := h
  exact ⟨_, _, _, rfl, h2, h3, h4⟩
theorem tCharge_sz {a0 : Int} {a1 : Int} {x2 : List Int} {x3 : List Int} {x4 : List Int} : tCharge.sz (a0, a1, x2, x3, x4) = zL tInt x2 + zL tInt x3 + zL tInt x4 := by
  simp only [tCharge, tPair_sz, tPair_nd, tPair_nv, tInt_sz, tInt_nd, tInt_nv, tSl_sz, tSl_nd, tSl_nv]
  try omega
theorem tCharge_nd {a0 : Int} {a1 : Int} {x2 : List Int} {x3 : List Int} {x4 : List Int} : tCharge.nd (a0, a1, x2, x3, x4) = 2 + ndL tInt x2 + ndL tInt x3 + ndL tInt x4 := by
  simp only [tCharge, tPair_sz, tPair_nd, tPair_nv, tInt_sz, tInt_nd, tInt_nv, tSl_sz, tSl_nd, tSl_nv]
  try omega
theorem tCharge_md {a0 : Int} {a1 : Int} {x2 : List Int} {x3 : List Int} {x4 : List Int} {k : Int} : tCharge.md (a0, a1, x2, x3, x4) k = ((k), (k + 1), mAll tInt x2 (k + 1 + 1), mAll tInt x3 (k + 1 + 1 + (ndL tInt x2 : Int)), mAll tInt x4 (k + 1 + 1 + (ndL tInt x2 : Int) + (ndL tInt x3 : Int))) := by
  simp only [tCharge, tPair_md, tPair_mv, tPair_nd, tPair_nv, tInt_md, tInt_mv, tInt_nd, tInt_nv, tSl_md, tSl_mv, tSl_nd, tSl_nv, Int.natCast_add, Int.natCast_zero, Int.natCast_one, Int.add_zero, Int.zero_add, Int.add_assoc]
theorem tCharge_O {w : World} {F : Nat → Prop} {cs : List Value} {a0 : Int} {a1 : Int} {x2 : List Int} {x3 : List Int} {x4 : List Int} (h : tCharge.O w F cs (a0, a1, x2, x3, x4)) : ∃ v2 v3 v4, ∃ F2 F3 F4 : Nat → Prop, cs = [.int .i64 a0, .int .i64 a1, v2, v3, v4] ∧ SlO 3 tInt w F2 v2 x2 ∧ SlO 3 tInt w F3 v3 x3 ∧ SlO 3 tInt w F4 v4 x4 ∧ (∀ b, F2 b → F b) ∧ (∀ b, F3 b → F b) ∧ (∀ b, F4 b → F b) ∧ (∀ b, F2 b → ¬ F3 b) ∧ (∀ b, F2 b → ¬ F4 b) ∧ (∀ b, F3 b → ¬ F4 b) := by
  obtain ⟨_, _, F0_1, F0_2, rfl, rfl, ⟨_, _, F1_1, F1_2, rfl, rfl, ⟨_, _, F2_1, F2_2, rfl, ⟨v2, rfl, h2⟩, ⟨_, _, F3_1, F3_2, rfl, ⟨v3, rfl, h3⟩, ⟨v4, rfl, h4⟩, s3_1, s3_2, d3⟩, s2_1, s2_2, d2⟩, s1_1, s1_2, d1⟩, s0_1, s0_2, d0⟩ := h
  exact ⟨v2, v3, v4, F2_1, F3_1, F3_2, rfl, h2, h3, h4, fun b h => (s0_2 b (s1_2 b (s2_1 b h))), fun b h => (s0_2 b (s1_2 b (s2_2 b (s3_1 b h)))), fun b h => (s0_2 b (s1_2 b (s2_2 b (s3_2 b h)))), fun b h h2 => d2 b h (s3_1 b h2), fun b h h2 => d2 b h (s3_2 b h2), fun b h h2 => d3 b h h2⟩
theorem tCharge_mkO {w : World} {F : Nat → Prop} {a0 : Int} {a1 : Int} {x2 : List Int} {x3 : List Int} {x4 : List Int} {v2 v3 v4 : Value} {F2 F3 F4 : Nat → Prop} (h2 : SlO 3 tInt w F2 v2 x2) (h3 : SlO 3 tInt w F3 v3 x3) (h4 : SlO 3 tInt w F4 v4 x4) (s2 : ∀ b, F2 b → F b) (s3 : ∀ b, F3 b → F b) (s4 : ∀ b, F4 b → F b) (d2_3 : ∀ b, F2 b → ¬ F3 b) (d2_4 : ∀ b, F2 b → ¬ F4 b) (d3_4 : ∀ b, F3 b → ¬ F4 b) : tCharge.O w F [.int .i64 a0, .int .i64 a1, v2, v3, v4] (a0, a1, x2, x3, x4) := ⟨[.int .i64 a0], [.int .i64 a1, v2, v3, v4], fun _ => False, fun b => F2 b ∨ (F3 b ∨ (F4 b)), rfl, rfl, ⟨[.int .i64 a1], [v2, v3, v4], fun _ => False, fun b => F2 b ∨ (F3 b ∨ (F4 b)), rfl, rfl, ⟨[v2], [v3, v4], F2, fun b => F3 b ∨ (F4 b), rfl, ⟨_, rfl, h2⟩, ⟨[v3], [v4], F3, F4, rfl, ⟨_, rfl, h3⟩, ⟨_, rfl, h4⟩, (fun b h => (Or.inl h)), (fun b h => (Or.inr h)), (fun b h g => d3_4 b h g)⟩, (fun b h => (Or.inl h)), (fun b h => (h.elim (fun q0 => (Or.inr (Or.inl q0))) (fun q0 => (Or.inr (Or.inr q0))))), (fun b h g => (g.elim (fun q10 => d2_3 b h q10) (fun q10 => d2_4 b h q10)))⟩, (fun b h => (False.elim h)), (fun b h => (h.elim (fun q0 => (Or.inl q0)) (fun q0 => (q0.elim (fun q1 => (Or.inr (Or.inl q1))) (fun q1 => (Or.inr (Or.inr q1))))))), (fun b h g => (False.elim h))⟩, (fun b h => (False.elim h)), (fun b h => (h.elim (fun q0 => s2 b q0) (fun q0 => (q0.elim (fun q1 => s3 b q1) (fun q1 => s4 b q1))))), (fun b h g => (False.elim h))⟩
set_option maxHeartbeats 8000000 in
set_option maxRecDepth 100000 in
theorem eqCharge_T (a0 a1 : Int) (v2 v3 v4 : Value) (x2 : List Int) (x3 : List Int) (x4 : List Int) (u2 u3 u4 : Value) (w : World) (h2 : SlR tInt w v2 x2) (h3 : SlR tInt w v3 x3) (h4 : SlR tInt w v4 x4) (g2 : SlR tInt w u2 x2) (g3 : SlR tInt w u3 x3) (g4 : SlR tInt w u4 x4) (s2 : zL tInt x2 ≤ 1048576) (s3 : zL tInt x3 ≤ 1048576) (s4 : zL tInt x4 ≤ 1048576) :
    Calls Try.prog 99 #[.agg #[.int .i64 a0, .int .i64 a1, v2, v3, v4], .agg #[.int .i64 a0, .int .i64 a1, u2, u3, u4]] w fun e w' => e = .returned (.bool true) ∧ Below w.heap.size w w' := by
  have H2 := Lib.hid h2; have G2 := Lib.hid g2; have S2 := Lib.hid s2
  have H3 := Lib.hid h3; have G3 := Lib.hid g3; have S3 := Lib.hid s3
  have H4 := Lib.hid h4; have G4 := Lib.hid g4; have S4 := Lib.hid s4
  clear h2 g2 s2 h3 g3 s3 h4 g4 s4
  have e0 : (a0 != a0) = false := by simp
  have e1 : (a1 != a1) = false := by simp
  go_enter Try.func99, Try.ntmps99
  go_wp2_with fail
  have hb : Below w.heap.size w ((w.alloc (.cells #[.int .i64 a0, .int .i64 a1, v2, v3, v4] 105)).alloc (.cells #[.int .i64 a0, .int .i64 a1, u2, u3, u4] 105)) := ((Below.refl _ w).alloc (Nat.le_refl _) _).alloc (by simp) _
  have g1 : ((w.alloc (.cells #[.int .i64 a0, .int .i64 a1, v2, v3, v4] 105)).alloc (.cells #[.int .i64 a0, .int .i64 a1, u2, u3, u4] 105)).heap[w.heap.size + 1]? = some (.cells #[.int .i64 a0, .int .i64 a1, u2, u3, u4] 105 (0, 0)) := by
    have := heap_alloc_new (w.alloc (.cells #[.int .i64 a0, .int .i64 a1, v2, v3, v4] 105)) (.cells #[.int .i64 a0, .int .i64 a1, u2, u3, u4] 105)
    simpa only [World.size_alloc] using this
  have g0 : ((w.alloc (.cells #[.int .i64 a0, .int .i64 a1, v2, v3, v4] 105)).alloc (.cells #[.int .i64 a0, .int .i64 a1, u2, u3, u4] 105)).heap[w.heap.size]? = some (.cells #[.int .i64 a0, .int .i64 a1, v2, v3, v4] 105 (0, 0)) := by
    rw [Below.heap_alloc _ _ _ (by simp)]
    exact heap_alloc_new w _
  have hz : w.heap.size + 1 < ((w.alloc (.cells #[.int .i64 a0, .int .i64 a1, v2, v3, v4] 105)).alloc (.cells #[.int .i64 a0, .int .i64 a1, u2, u3, u4] 105)).heap.size := by simp [World.size_alloc]
  generalize ((w.alloc (.cells #[.int .i64 a0, .int .i64 a1, v2, v3, v4] 105)).alloc (.cells #[.int .i64 a0, .int .i64 a1, u2, u3, u4] 105)) = W at *
  refine (eqIntS_S v2 u2 x2 W (slR_below tInt_law H2.out hb) (slR_below tInt_law G2.out hb) S2.out).mono ?_
  rintro e w1 ⟨rfl, b1⟩
  replace g0 := (b1.block _ (by omega)).trans g0
  replace g1 := (b1.block _ (by omega)).trans g1
  have zz0 := b1.size
  replace hb := hb.trans (b1.mono (by omega))
  clear b1
  have p0_3 := (cell_of_row w1 _ 3 _ _ _ g0).trans (show _ = some (v3) from rfl)
  have p1_3 := (cell_of_row w1 _ 3 _ _ _ g1).trans (show _ = some (u3) from rfl)
  go_wp2_with fail
  clear p0_3 p1_3
  refine (eqIntS_S v3 u3 x3 w1 (slR_below tInt_law H3.out hb) (slR_below tInt_law G3.out hb) S3.out).mono ?_
  rintro e w2 ⟨rfl, b1⟩
  replace g0 := (b1.block _ (by omega)).trans g0
  replace g1 := (b1.block _ (by omega)).trans g1
  have zz1 := b1.size
  replace hb := hb.trans (b1.mono (by omega))
  clear b1
  have p0_4 := (cell_of_row w2 _ 4 _ _ _ g0).trans (show _ = some (v4) from rfl)
  have p1_4 := (cell_of_row w2 _ 4 _ _ _ g1).trans (show _ = some (u4) from rfl)
  go_wp2_with fail
  clear p0_4 p1_4
  refine (eqIntS_S v4 u4 x4 w2 (slR_below tInt_law H4.out hb) (slR_below tInt_law G4.out hb) S4.out).mono ?_
  rintro e w3 ⟨rfl, b1⟩
  replace g0 := (b1.block _ (by omega)).trans g0
  replace g1 := (b1.block _ (by omega)).trans g1
  have zz2 := b1.size
  replace hb := hb.trans (b1.mono (by omega))
  clear b1
  go_wp2
  go_ret
  exact ⟨rfl, hb⟩
end Go.Proofs.Ytdhglmoanpkeoaa
namespace Go.Proofs.Ytdhglmoanpkeoaa
open Go.RowKit
set_option linter.unusedVariables false
set_option linter.unusedSimpArgs false
abbrev tChargeS : Ty (List (Int × Int × List Int × List Int × List Int)) := tSl 105 tCharge
theorem tChargeS_law : tChargeS.Law := tSl_law tCharge_law (by decide)
set_option maxHeartbeats 8000000 in
set_option maxRecDepth 100000 in
theorem eqChargeS_S (v u : Value) (xs : List (Int × Int × List Int × List Int × List Int)) (w : World) (h : SlR tCharge w v xs) (g : SlR tCharge w u xs) (hs : zL tCharge xs ≤ 1048576) :
    Calls Try.prog 47 #[v, u] w fun e w' => e = .returned (.bool true) ∧ Below w.heap.size w w' := by
  have H := Lib.hid h
  have G := Lib.hid g
  have HS := Lib.hid hs
  have hlen := zL_len hs
  obtain ⟨a, cap, rfl⟩ := slR_len h
  obtain ⟨a2, cap2, rfl⟩ := slR_len g
  clear h g hs
  go_enter Try.func47, Try.ntmps47
  go_wp2
  go_loopw [5] (fun i wr => ∃ k : Nat, k ≤ xs.length ∧ i = .int .i64 k ∧ Below w.heap.size w wr) (fun i _ => xs.length - (intOf i).toNat)
  case atStart => exact ⟨0, Nat.zero_le _, rfl, Below.refl _ _⟩
  case round =>
    obtain ⟨k, hk, rfl, hbel⟩ := hrel
    by_cases hlt : k < xs.length
    · obtain ⟨b, off, cap', cs, hv, hbl, hcs, hR⟩ := slR_at (slR_below tCharge_law H.out hbel) hlt
      simp only [Value.slice.injEq] at hv
      obtain ⟨rfl, _, rfl⟩ := hv
      obtain ⟨b2, off2, cap2', ds, hv2, hbl2, hds, hQ⟩ := slR_at (slR_below tCharge_law G.out hbel) hlt
      simp only [Value.slice.injEq] at hv2
      obtain ⟨rfl, _, rfl⟩ := hv2
      have hzx := zL_at HS.out hlt
      have i1 : (0 : Int) ≤ (k : Int) := by omega
      have i2 : (k : Int) < (xs.length : Int) := by omega
      generalize xs.getD k tCharge.d = x at *
      obtain ⟨a0, a1, x2, x3, x4⟩ := x
      obtain ⟨v2, v3, v4, hR'⟩ := tCharge_R hR
      obtain ⟨rfl, h2, h3, h4⟩ := hR'
      obtain ⟨u2, u3, u4, hQ'⟩ := tCharge_R hQ
      obtain ⟨rfl, g2, g3, g4⟩ := hQ'
      rw [tCharge_sz] at hzx
      have S2 := Lib.hid (show zL tInt x2 ≤ 1048576 by omega)
      have S3 := Lib.hid (show zL tInt x3 ≤ 1048576 by omega)
      have S4 := Lib.hid (show zL tInt x4 ≤ 1048576 by omega)
      have p0 : wr.cell? ⟨b, off + k * 5, none⟩ = some (Value.int .i64 a0) := hcs 0 (by decide)
      have q0 : wr.cell? ⟨b2, off2 + k * 5, none⟩ = some (Value.int .i64 a0) := hds 0 (by decide)
      have p1 : wr.cell? ⟨b, off + k * 5 + 1, none⟩ = some (Value.int .i64 a1) := hcs 1 (by decide)
      have q1 : wr.cell? ⟨b2, off2 + k * 5 + 1, none⟩ = some (Value.int .i64 a1) := hds 1 (by decide)
      have p2 : wr.cell? ⟨b, off + k * 5 + 2, none⟩ = some (v2) := hcs 2 (by decide)
      have q2 : wr.cell? ⟨b2, off2 + k * 5 + 2, none⟩ = some (u2) := hds 2 (by decide)
      have p3 : wr.cell? ⟨b, off + k * 5 + 3, none⟩ = some (v3) := hcs 3 (by decide)
      have q3 : wr.cell? ⟨b2, off2 + k * 5 + 3, none⟩ = some (u3) := hds 3 (by decide)
      have p4 : wr.cell? ⟨b, off + k * 5 + 4, none⟩ = some (v4) := hcs 4 (by decide)
      have q4 : wr.cell? ⟨b2, off2 + k * 5 + 4, none⟩ = some (u4) := hds 4 (by decide)
      clear hcs hds hzx
      go_wp2
      go_region_with (first | (go_at_call 99; refine (eqCharge_T a0 a1 v2 v3 v4 x2 x3 x4 u2 u3 u4 _ (by exact slR_same tInt_law h2 rfl rfl rfl rfl) (by exact slR_same tInt_law h3 rfl rfl rfl rfl) (by exact slR_same tInt_law h4 rfl rfl rfl rfl) (by exact slR_same tInt_law g2 rfl rfl rfl rfl) (by exact slR_same tInt_law g3 rfl rfl rfl rfl) (by exact slR_same tInt_law g4 rfl rfl rfl rfl) S2.out S3.out S4.out).mono ?_; rintro e w8 ⟨rfl, b9⟩; have b10 : Below wr.heap.size wr w8 := ⟨b9.os, b9.tape, b9.output, b9.size, b9.block⟩))
      all_goals
        have b11 := hbel.trans (b10.mono hbel.size)
        go_wp2
        go_roundw
        case rel => exact ⟨k + 1, by omega, by go_num, b11⟩
        case measure => simp [intOf]; omega
    · go_wp2
      go_ret
      exact ⟨rfl, hbel⟩
set_option maxHeartbeats 8000000 in
set_option maxRecDepth 100000 in
theorem markChargeS_S (v : Value) (xs : List (Int × Int × List Int × List Int × List Int)) (F : Nat → Prop) (k : Int) (w : World) (h : SlO 105 tCharge w F v xs) (hs : zL tCharge xs ≤ 1048576) (k0 : 0 ≤ k) (k1 : k ≤ 1006632960) :
    Calls Try.prog 50 #[v, .int .i64 k] w fun e w' => e = .returned (.int .i64 (k + (ndL tCharge xs : Int))) ∧ SlO 105 tCharge w' F v (mAll tCharge xs k) ∧ Turn F w w' := by
  rw [← kAt_all]
  have HS := Lib.hid hs
  have hlen := zL_len hs
  rcases slO_form h with ⟨rfl, rfl⟩ | ⟨g, cap, rfl, hFg, hgw⟩
  · have H := Lib.hid h
    clear h hs
    go_enter Try.func50, Try.ntmps50
    go_wp2
    go_loop [1, 5] (fun m i => i = .int .i64 0 ∧ m = .int .i64 k) (fun _ _ => 0)
    case atStart => exact ⟨rfl, rfl⟩
    case round =>
      obtain ⟨rfl, rfl⟩ := hrel
      go_wp2
      go_ret
      exact ⟨by simp [kAt, sumN], by rw [show mAll tCharge [] k = [] from rfl]; exact H.out, Turn.refl _ _⟩
  · have H := Lib.hid h
    clear h hs
    go_enter Try.func50, Try.ntmps50
    go_wp2
    go_loopw [1, 5] (fun m i wr => ∃ j : Nat, j ≤ xs.length ∧ i = .int .i64 j ∧ m = .int .i64 (kAt tCharge xs k j) ∧ SlO 105 tCharge wr (fun b => F b ∧ b < w.heap.size) (.slice (some ⟨g, 0, none⟩) xs.length cap) (mTo tCharge xs k j) ∧ Turn F w wr) (fun _ i _ => xs.length - (intOf i).toNat)
    case atStart => exact ⟨0, Nat.zero_le _, rfl, by rw [kAt_zero], by rw [mTo_zero]; exact slO_lt tCharge_law H.out, Turn.refl _ _⟩
    case round =>
      obtain ⟨j, hj, rfl, rfl, hown, hon⟩ := hrel
      by_cases hlt : j < xs.length
      · have i1 : (0 : Int) ≤ (j : Int) := by omega
        have i2 : (j : Int) < (xs.length : Int) := by omega
        have hjl : j < (mTo tCharge xs k j).length := by rw [mTo_len hj]; exact hlt
        have HLL := Lib.hid (mTo_len (T := tCharge) (k := k) hj)
        obtain ⟨r1, r2⟩ := kAt_range tCharge_law (by decide) (k := k) HS.out hj
        obtain ⟨r3, r4⟩ := kAt_range tCharge_law (by decide) (k := k) (j := j + 1) HS.out (by omega)
        have hzx := zL_at HS.out hlt
        have hstep := kAt_step (T := tCharge) (k := k) hlt
        have hset := mTo_step (T := tCharge) (k := k) hlt
        have hsz := hon.size
        obtain ⟨hme, hFg2, hgl, cj, Fj, Lc, hrow, hLc, hO, hFj, hput⟩ := slO_open tCharge_law hown hjl
        clear hme hFg2
        rw [mTo_at hlt] at hO
        have HM : Hid (∃ m', kAt tCharge xs k (j + 1) = m') := Lib.hid ⟨_, rfl⟩
        obtain ⟨m', hm'⟩ := HM.out
        rw [hm'] at hstep r3 r4
        have HM' := Lib.hid hm'
        clear hm' HM H hown hjl
        generalize kAt tCharge xs k j = m at *
        generalize xs.getD j tCharge.d = x at *
        rw [HLL.out] at hrow hput
        obtain ⟨a0, a1, x2, x3, x4⟩ := x
        rw [tCharge_md] at hset
        rw [tCharge_nd] at hstep
        rw [tCharge_sz] at hzx
        obtain ⟨v2, v3, v4, K2, K3, K4, rfl, o2, o3, o4, q2, q3, q4, d2_3, d2_4, d3_4⟩ := tCharge_O hO
        have S2 := Lib.hid (show zL tInt x2 ≤ 1048576 by omega)
        have N2 := ndL_le tInt_law (by decide) x2
        have S3 := Lib.hid (show zL tInt x3 ≤ 1048576 by omega)
        have N3 := ndL_le tInt_law (by decide) x3
        have S4 := Lib.hid (show zL tInt x4 ≤ 1048576 by omega)
        have N4 := ndL_le tInt_law (by decide) x4
        have R2 : Hid (0 ≤ m + 1 + 1 ∧ m + 1 + 1 ≤ 1073741824) := Lib.hid (by omega)
        have R3 : Hid (0 ≤ m + 1 + 1 + (ndL tInt x2 : Int) ∧ m + 1 + 1 + (ndL tInt x2 : Int) ≤ 1073741824) := Lib.hid (by omega)
        have R4 : Hid (0 ≤ m + 1 + 1 + (ndL tInt x2 : Int) + (ndL tInt x3 : Int) ∧ m + 1 + 1 + (ndL tInt x2 : Int) + (ndL tInt x3 : Int) ≤ 1073741824) := Lib.hid (by omega)
        have hmm : m + 1 + 1 + (ndL tInt x2 : Int) + (ndL tInt x3 : Int) + (ndL tInt x4 : Int) = m' := by omega
        have HMM := Lib.hid hmm
        have hm0 : 0 ≤ m := by omega
        have hm1 : m ≤ 1073741824 := by omega
        clear hmm hstep hzx N2 N3 N4
        have hLl : Lc.length = xs.length * 5 := hrow.1
        have HSET := Lib.hid hset
        clear hset
        have tt : Turn (fun b => b = g ∨ Fj b ∨ wr.heap.size ≤ b) wr wr := Turn.refl _ _
        have rr := hrow
        have c0 : ∃ x, wr.cell? ⟨g, j * 5, none⟩ = some x := ⟨_, (World.ownsRow.cellAt rr (j * 5) (by show j * 5 < xs.length * 5; omega)).trans (List.getElem?_eq_getElem (by have h9 := rr.1; have h8 : xs.length * tCharge.n = xs.length * 5 := rfl; omega))⟩
        obtain ⟨y0, c0⟩ := c0
        have f0 := World.ownsRow.frozenAt rr (j * 5)
        have c1 : ∃ x, wr.cell? ⟨g, j * 5 + 1, none⟩ = some x := ⟨_, (World.ownsRow.cellAt rr (j * 5 + 1) (by show j * 5 + 1 < xs.length * 5; omega)).trans (List.getElem?_eq_getElem (by have h9 := rr.1; have h8 : xs.length * tCharge.n = xs.length * 5 := rfl; omega))⟩
        obtain ⟨y1, c1⟩ := c1
        have f1 := World.ownsRow.frozenAt rr (j * 5 + 1)
        have cv2 : wr.cell? ⟨g, j * 5 + 2, none⟩ = some v2 := (World.ownsRow.cellAt rr (j * 5 + 2) (by show j * 5 + 2 < xs.length * 5; omega)).trans (by exact hLc 2 (by decide))
        go_wp2_with fail
        clear c0 f0 c1 f1 cv2
        have ts : Turn (fun b => b = g) wr ((wr.setCell ⟨g, j * 5, none⟩ (.int .i64 (m))).setCell ⟨g, j * 5 + 1, none⟩ (.int .i64 (m + 1))) := (((Turn.refl (fun b => b = g) _).trans (turn_set (G := fun b => b = g) (g := g) (j := j * 5) (u := .int .i64 (m)) rfl)).trans (turn_set (G := fun b => b = g) (g := g) (j := j * 5 + 1) (u := .int .i64 (m + 1)) rfl))
        replace rr := (World.ownsRow.stored (World.ownsRow.stored rr (j * 5) (.int .i64 (m))).1 (j * 5 + 1) (.int .i64 (m + 1))).1
        replace o2 := slO_turn tInt_law o2 ts (fun b h1 h2 => (hFj b (q2 b h1)).2.1 h2)
        replace o3 := slO_turn tInt_law o3 ts (fun b h1 h2 => (hFj b (q3 b h1)).2.1 h2)
        replace o4 := slO_turn tInt_law o4 ts (fun b h1 h2 => (hFj b (q4 b h1)).2.1 h2)
        replace tt := tt.trans (ts.mono (fun b h => Or.inl h))
        clear ts
        generalize ((wr.setCell ⟨g, j * 5, none⟩ (.int .i64 (m))).setCell ⟨g, j * 5 + 1, none⟩ (.int .i64 (m + 1))) = W0 at *
        refine (markIntS_S v2 x2 _ (m + 1 + 1) W0 o2 S2.out R2.out.1 (by have := R2.out.2; omega)).mono ?_
        rintro e w1 ⟨rfl, m2, t1⟩
        replace rr := row_turn rr t1 (fun b hb h => by simp [Value.ownBlock] at hb; exact (hFj b (q2 b h)).2.1 hb.symm)
        replace o2 := m2
        replace o3 := slO_turn tInt_law o3 t1 (fun b h1 h2 => d2_3 b h2 h1)
        replace o4 := slO_turn tInt_law o4 t1 (fun b h1 h2 => d2_4 b h2 h1)
        replace tt := tt.trans (t1.mono (fun b h => Or.inr (Or.inl (q2 b h))))
        clear t1
        have cv3 : w1.cell? ⟨g, j * 5 + 3, none⟩ = some v3 := (World.ownsRow.cellAt rr (j * 5 + 3) (by show j * 5 + 3 < xs.length * 5; omega)).trans (by rw [List.getElem?_set_ne (by omega)]; rw [List.getElem?_set_ne (by omega)]; exact hLc 3 (by decide))
        go_wp2_with fail
        clear cv3
        refine (markIntS_S v3 x3 _ (m + 1 + 1 + (ndL tInt x2 : Int)) w1 o3 S3.out R3.out.1 (by have := R3.out.2; omega)).mono ?_
        rintro e w2 ⟨rfl, m3, t1⟩
        replace rr := row_turn rr t1 (fun b hb h => by simp [Value.ownBlock] at hb; exact (hFj b (q3 b h)).2.1 hb.symm)
        replace o2 := slO_turn tInt_law o2 t1 (fun b h1 h2 => d2_3 b h1 h2)
        replace o3 := m3
        replace o4 := slO_turn tInt_law o4 t1 (fun b h1 h2 => d3_4 b h2 h1)
        replace tt := tt.trans (t1.mono (fun b h => Or.inr (Or.inl (q3 b h))))
        clear t1
        have cv4 : w2.cell? ⟨g, j * 5 + 4, none⟩ = some v4 := (World.ownsRow.cellAt rr (j * 5 + 4) (by show j * 5 + 4 < xs.length * 5; omega)).trans (by rw [List.getElem?_set_ne (by omega)]; rw [List.getElem?_set_ne (by omega)]; exact hLc 4 (by decide))
        go_wp2_with fail
        clear cv4
        refine (markIntS_S v4 x4 _ (m + 1 + 1 + (ndL tInt x2 : Int) + (ndL tInt x3 : Int)) w2 o4 S4.out R4.out.1 (by have := R4.out.2; omega)).mono ?_
        rintro e w3 ⟨rfl, m4, t1⟩
        replace rr := row_turn rr t1 (fun b hb h => by simp [Value.ownBlock] at hb; exact (hFj b (q4 b h)).2.1 hb.symm)
        replace o2 := slO_turn tInt_law o2 t1 (fun b h1 h2 => d2_4 b h1 h2)
        replace o3 := slO_turn tInt_law o3 t1 (fun b h1 h2 => d3_4 b h1 h2)
        replace o4 := m4
        replace tt := tt.trans (t1.mono (fun b h => Or.inr (Or.inl (q4 b h))))
        clear t1
        have hO2 := tCharge_mkO (F := Fj) (a0 := m) (a1 := m + 1) o2 o3 o4 q2 q3 q4 d2_3 d2_4 d3_4
        have hst := hput w3 ((Lc.set (j * 5) (.int .i64 (m))).set (j * 5 + 1) (.int .i64 (m + 1))) [.int .i64 (m), .int .i64 (m + 1), v2, v3, v4] Fj _ rr (fun p hp => by have hp2 : p < j * 5 ∨ j * 5 + 5 ≤ p := hp; rw [List.getElem?_set_ne (by omega)]; rw [List.getElem?_set_ne (by omega)]) (fun i hi => by have hi' : i < 5 := hi; match i, hi' with | 0, _ => (show (((Lc.set (j * 5) (.int .i64 (m))).set (j * 5 + 1) (.int .i64 (m + 1))))[j * 5]? = _; rw [List.getElem?_set_ne (by omega)]; rw [List.getElem?_set_self (by first | omega | (simp only [List.length_set]; omega))]; rfl) | 1, _ => (show (((Lc.set (j * 5) (.int .i64 (m))).set (j * 5 + 1) (.int .i64 (m + 1))))[j * 5 + 1]? = _; rw [List.getElem?_set_self (by first | omega | (simp only [List.length_set]; omega))]; rfl) | 2, _ => (show (((Lc.set (j * 5) (.int .i64 (m))).set (j * 5 + 1) (.int .i64 (m + 1))))[j * 5 + 2]? = _; rw [List.getElem?_set_ne (by omega)]; rw [List.getElem?_set_ne (by omega)]; exact hLc 2 (by decide)) | 3, _ => (show (((Lc.set (j * 5) (.int .i64 (m))).set (j * 5 + 1) (.int .i64 (m + 1))))[j * 5 + 3]? = _; rw [List.getElem?_set_ne (by omega)]; rw [List.getElem?_set_ne (by omega)]; exact hLc 3 (by decide)) | 4, _ => (show (((Lc.set (j * 5) (.int .i64 (m))).set (j * 5 + 1) (.int .i64 (m + 1))))[j * 5 + 4]? = _; rw [List.getElem?_set_ne (by omega)]; rw [List.getElem?_set_ne (by omega)]; exact hLc 4 (by decide))) hO2 (fun b hb => ⟨(hFj b hb).1, Or.inl hb⟩) tt
        rw [HSET.out] at hst
        have HST := Lib.hid hst
        have hon2 := hon.trans (Turn.mono (G := fun b => F b ∧ b < w.heap.size) (G' := F) ⟨tt.os, tt.tape, tt.output, tt.size, fun b hb hn => tt.block b hb (fun h => hn (h.elim (fun h => by rw [h]; exact ⟨hFg, hgw⟩) (fun h => h.elim (fun h => (hFj b h).1) (fun h => absurd hb (Nat.not_lt.2 h)))))⟩ (fun b h => h.1))
        clear hst hput tt rr hO2 hon hFj hLc hLl o2 o3 o4
        rw [HMM.out]
        go_wp2
        go_roundw
        case rel => exact ⟨j + 1, by omega, by go_num, by rw [HM'.out], HST.out, hon2⟩
        case measure => simp [intOf]; omega
      · obtain rfl : j = xs.length := by omega
        rw [mTo_all] at hown
        go_wp2
        go_ret
        refine ⟨?_, slO_mono hown (fun b h => h.1), hon⟩
        simp
set_option maxHeartbeats 8000000 in
set_option maxRecDepth 100000 in
theorem heldChargeS_S (v : Value) (xs : List (Int × Int × List Int × List Int × List Int)) (k : Int) (w : World) (h : SlR tCharge w v (mAll tCharge xs k)) (hs : zL tCharge xs ≤ 1048576) (k0 : 0 ≤ k) (k1 : k ≤ 1006632960) :
    Calls Try.prog 54 #[v, .int .i64 k] w fun e w' => e = .returned (.int .i64 (k + (ndL tCharge xs : Int))) ∧ w = w' := by
  rw [← kAt_all]
  have HS := Lib.hid hs
  have H := Lib.hid h
  have hlen := zL_len hs
  obtain ⟨a, cap, rfl⟩ := slR_len h
  rw [mAll_len] at H ⊢
  clear h hs
  go_enter Try.func54, Try.ntmps54
  go_wp2
  go_loop [1, 5] (fun m i => ∃ j : Nat, j ≤ xs.length ∧ i = .int .i64 j ∧ m = .int .i64 (kAt tCharge xs k j)) (fun _ i => xs.length - (intOf i).toNat)
  case atStart => exact ⟨0, Nat.zero_le _, rfl, by rw [kAt_zero]⟩
  case round =>
    obtain ⟨j, hj, rfl, rfl⟩ := hrel
    by_cases hlt : j < xs.length
    · have i1 : (0 : Int) ≤ (j : Int) := by omega
      have i2 : (j : Int) < (xs.length : Int) := by omega
      obtain ⟨r1, r2⟩ := kAt_range tCharge_law (by decide) (k := k) HS.out hj
      obtain ⟨r3, r4⟩ := kAt_range tCharge_law (by decide) (k := k) (j := j + 1) HS.out (by omega)
      have hzx := zL_at HS.out hlt
      have hstep := kAt_step (T := tCharge) (k := k) hlt
      obtain ⟨b, off, cap', cs, hv, hbl, hcs, hR⟩ := slR_at H.out (k := j) (by rw [mAll_len]; exact hlt)
      rw [mAll_len] at hv
      simp only [Value.slice.injEq] at hv
      obtain ⟨rfl, _, rfl⟩ := hv
      rw [mAll_at hlt] at hR
      have HM : Hid (∃ m', kAt tCharge xs k (j + 1) = m') := Lib.hid ⟨_, rfl⟩
      obtain ⟨m', hm'⟩ := HM.out
      rw [hm'] at hstep r3 r4
      have HM' := Lib.hid hm'
      clear hm' HM H
      generalize kAt tCharge xs k j = m at *
      generalize xs.getD j tCharge.d = x at *
      obtain ⟨a0, a1, x2, x3, x4⟩ := x
      rw [tCharge_md] at hR
      obtain ⟨v2, v3, v4, hR'⟩ := tCharge_R hR
      obtain ⟨rfl, h2, h3, h4⟩ := hR'
      rw [tCharge_sz] at hzx
      rw [tCharge_nd] at hstep
      have p0 : w.cell? ⟨b, off + j * 5, none⟩ = some (Value.int .i64 (m)) := hcs 0 (by decide)
      have p1 : w.cell? ⟨b, off + j * 5 + 1, none⟩ = some (Value.int .i64 (m + 1)) := hcs 1 (by decide)
      have p2 : w.cell? ⟨b, off + j * 5 + 2, none⟩ = some (v2) := hcs 2 (by decide)
      have p3 : w.cell? ⟨b, off + j * 5 + 3, none⟩ = some (v3) := hcs 3 (by decide)
      have p4 : w.cell? ⟨b, off + j * 5 + 4, none⟩ = some (v4) := hcs 4 (by decide)
      have S2 := Lib.hid (show zL tInt x2 ≤ 1048576 by omega)
      have N2 := ndL_le tInt_law (by decide) x2
      have S3 := Lib.hid (show zL tInt x3 ≤ 1048576 by omega)
      have N3 := ndL_le tInt_law (by decide) x3
      have S4 := Lib.hid (show zL tInt x4 ≤ 1048576 by omega)
      have N4 := ndL_le tInt_law (by decide) x4
      have R2 : Hid (0 ≤ m + 1 + 1 ∧ m + 1 + 1 ≤ 1073741824) := Lib.hid (by omega)
      have A2 := Lib.hid h2
      have R3 : Hid (0 ≤ m + 1 + 1 + (ndL tInt x2 : Int) ∧ m + 1 + 1 + (ndL tInt x2 : Int) ≤ 1073741824) := Lib.hid (by omega)
      have A3 := Lib.hid h3
      have R4 : Hid (0 ≤ m + 1 + 1 + (ndL tInt x2 : Int) + (ndL tInt x3 : Int) ∧ m + 1 + 1 + (ndL tInt x2 : Int) + (ndL tInt x3 : Int) ≤ 1073741824) := Lib.hid (by omega)
      have A4 := Lib.hid h4
      have ng2 : ¬ m + 1 + 1 + (ndL tInt x2 : Int) < 0 := by omega
      have ng3 : ¬ m + 1 + 1 + (ndL tInt x2 : Int) + (ndL tInt x3 : Int) < 0 := by omega
      have ng4 : ¬ m + 1 + 1 + (ndL tInt x2 : Int) + (ndL tInt x3 : Int) + (ndL tInt x4 : Int) < 0 := by omega
      have eq0 : ((m : Int) != m) = false := by simp
      have eq1 : ((m + 1 : Int) != m + 1) = false := by simp
      have hmm : m + 1 + 1 + (ndL tInt x2 : Int) + (ndL tInt x3 : Int) + (ndL tInt x4 : Int) = m' := by omega
      have HMM := Lib.hid hmm
      have hm0 : 0 ≤ m := by omega
      have hm1 : m ≤ 1073741824 := by omega
      clear hmm hstep hcs hzx N2 h2 N3 h3 N4 h4
      go_wp2_with fail
      refine (heldIntS_S v2 x2 (m + 1 + 1) _ A2.out S2.out R2.out.1 (by have := R2.out.2; omega)).mono ?_
      rintro e w2 ⟨rfl, rfl⟩
      go_wp2_with fail
      refine (heldIntS_S v3 x3 (m + 1 + 1 + (ndL tInt x2 : Int)) _ A3.out S3.out R3.out.1 (by have := R3.out.2; omega)).mono ?_
      rintro e w2 ⟨rfl, rfl⟩
      go_wp2_with fail
      refine (heldIntS_S v4 x4 (m + 1 + 1 + (ndL tInt x2 : Int) + (ndL tInt x3 : Int)) _ A4.out S4.out R4.out.1 (by have := R4.out.2; omega)).mono ?_
      rintro e w2 ⟨rfl, rfl⟩
      rw [HMM.out]
      clear ng4
      have hnn : ¬ m' < 0 := by omega
      go_wp2
      go_round
      case rel => exact ⟨j + 1, by omega, by go_num, by rw [HM'.out]⟩
      case measure => simp [intOf]; omega
    · obtain rfl : j = xs.length := by omega
      go_wp2
      go_ret
      exact ⟨rfl, rfl⟩
end Go.Proofs.Ytdhglmoanpkeoaa
namespace Go.Proofs.Ytdhglmoanpkeoaa
open Go.RowKit
set_option linter.unusedVariables false
set_option linter.unusedSimpArgs false
def tEngine : Ty ((List (List (Int × List Int × Int × Int)) × Int) × Int × List Int × List ((Int × Int × List (Int × Int × Int) × List Int) × Int × List Int × Int × Int × Int × List (Int × List Int)) × List ((Int × Int × List (Int × Int × Int) × List Int) × Int × Int × List (Int × List Int)) × List (Int × Int × List Int × List Int × List Int) × Int) := tPair tStore (tPair tInt (tPair tIntS (tPair tActiveS (tPair tFinishedS (tPair tChargeS tInt)))))
theorem tEngine_law : tEngine.Law := tPair_law tStore_law (tPair_law tInt_law (tPair_law tIntS_law (tPair_law tActiveS_law (tPair_law tFinishedS_law (tPair_law tChargeS_law tInt_law)))))
theorem tEngine_sz {x0 : List (List (Int × List Int × Int × Int))} {a1 : Int} {a2 : Int} {x3 : List Int} {x4 : List ((Int × Int × List (Int × Int × Int) × List Int) × Int × List Int × Int × Int × Int × List (Int × List Int))} {x5 : List ((Int × Int × List (Int × Int × Int) × List Int) × Int × Int × List (Int × List Int))} {x6 : List (Int × Int × List Int × List Int × List Int)} {a7 : Int} : tEngine.sz ((x0, a1), a2, x3, x4, x5, x6, a7) = zL tVersionS x0 + zL tInt x3 + zL tActive x4 + zL tFinished x5 + zL tCharge x6 := by
  simp only [tEngine, tPair_sz, tPair_nd, tPair_nv, tInt_sz, tInt_nd, tInt_nv, tSl_sz, tSl_nd, tSl_nv, tStore]
  try omega
theorem tEngine_O {w : World} {F : Nat → Prop} {cs : List Value} {x0 : List (List (Int × List Int × Int × Int))} {a1 : Int} {a2 : Int} {x3 : List Int} {x4 : List ((Int × Int × List (Int × Int × Int) × List Int) × Int × List Int × Int × Int × Int × List (Int × List Int))} {x5 : List ((Int × Int × List (Int × Int × Int) × List Int) × Int × Int × List (Int × List Int))} {x6 : List (Int × Int × List Int × List Int × List Int)} {a7 : Int} (h : tEngine.O w F cs ((x0, a1), a2, x3, x4, x5, x6, a7)) : ∃ v0 v3 v4 v5 v6, ∃ F0 F3 F4 F5 F6 : Nat → Prop, cs = [v0, .int .i64 a1, .int .i64 a2, v3, v4, v5, v6, .int .i64 a7] ∧ SlO 61 tVersionS w F0 v0 x0 ∧ SlO 3 tInt w F3 v3 x3 ∧ SlO 92 tActive w F4 v4 x4 ∧ SlO 101 tFinished w F5 v5 x5 ∧ SlO 105 tCharge w F6 v6 x6 ∧ (∀ b, F0 b → F b) ∧ (∀ b, F3 b → F b) ∧ (∀ b, F4 b → F b) ∧ (∀ b, F5 b → F b) ∧ (∀ b, F6 b → F b) ∧ (∀ b, F0 b → ¬ F3 b) ∧ (∀ b, F0 b → ¬ F4 b) ∧ (∀ b, F0 b → ¬ F5 b) ∧ (∀ b, F0 b → ¬ F6 b) ∧ (∀ b, F3 b → ¬ F4 b) ∧ (∀ b, F3 b → ¬ F5 b) ∧ (∀ b, F3 b → ¬ F6 b) ∧ (∀ b, F4 b → ¬ F5 b) ∧ (∀ b, F4 b → ¬ F6 b) ∧ (∀ b, F5 b → ¬ F6 b) := by
  obtain ⟨_, _, F0_1, F0_2, rfl, ⟨_, _, F1_1, F1_2, rfl, ⟨v0, rfl, h0⟩, rfl, s1_1, s1_2, d1⟩, ⟨_, _, F2_1, F2_2, rfl, rfl, ⟨_, _, F3_1, F3_2, rfl, ⟨v3, rfl, h3⟩, ⟨_, _, F4_1, F4_2, rfl, ⟨v4, rfl, h4⟩, ⟨_, _, F5_1, F5_2, rfl, ⟨v5, rfl, h5⟩, ⟨_, _, F6_1, F6_2, rfl, ⟨v6, rfl, h6⟩, rfl, s6_1, s6_2, d6⟩, s5_1, s5_2, d5⟩, s4_1, s4_2, d4⟩, s3_1, s3_2, d3⟩, s2_1, s2_2, d2⟩, s0_1, s0_2, d0⟩ := h
  exact ⟨v0, v3, v4, v5, v6, F1_1, F3_1, F4_1, F5_1, F6_1, rfl, h0, h3, h4, h5, h6, fun b h => (s0_1 b (s1_1 b h)), fun b h => (s0_2 b (s2_2 b (s3_1 b h))), fun b h => (s0_2 b (s2_2 b (s3_2 b (s4_1 b h)))), fun b h => (s0_2 b (s2_2 b (s3_2 b (s4_2 b (s5_1 b h))))), fun b h => (s0_2 b (s2_2 b (s3_2 b (s4_2 b (s5_2 b (s6_1 b h)))))), fun b h h2 => d0 b (s1_1 b h) (s2_2 b (s3_1 b h2)), fun b h h2 => d0 b (s1_1 b h) (s2_2 b (s3_2 b (s4_1 b h2))), fun b h h2 => d0 b (s1_1 b h) (s2_2 b (s3_2 b (s4_2 b (s5_1 b h2)))), fun b h h2 => d0 b (s1_1 b h) (s2_2 b (s3_2 b (s4_2 b (s5_2 b (s6_1 b h2))))), fun b h h2 => d3 b h (s4_1 b h2), fun b h h2 => d3 b h (s4_2 b (s5_1 b h2)), fun b h h2 => d3 b h (s4_2 b (s5_2 b (s6_1 b h2))), fun b h h2 => d4 b h (s5_1 b h2), fun b h h2 => d4 b h (s5_2 b (s6_1 b h2)), fun b h h2 => d5 b h (s6_1 b h2)⟩
theorem tEngine_mkO {w : World} {F : Nat → Prop} {x0 : List (List (Int × List Int × Int × Int))} {a1 : Int} {a2 : Int} {x3 : List Int} {x4 : List ((Int × Int × List (Int × Int × Int) × List Int) × Int × List Int × Int × Int × Int × List (Int × List Int))} {x5 : List ((Int × Int × List (Int × Int × Int) × List Int) × Int × Int × List (Int × List Int))} {x6 : List (Int × Int × List Int × List Int × List Int)} {a7 : Int} {v0 v3 v4 v5 v6 : Value} {F0 F3 F4 F5 F6 : Nat → Prop} (h0 : SlO 61 tVersionS w F0 v0 x0) (h3 : SlO 3 tInt w F3 v3 x3) (h4 : SlO 92 tActive w F4 v4 x4) (h5 : SlO 101 tFinished w F5 v5 x5) (h6 : SlO 105 tCharge w F6 v6 x6) (s0 : ∀ b, F0 b → F b) (s3 : ∀ b, F3 b → F b) (s4 : ∀ b, F4 b → F b) (s5 : ∀ b, F5 b → F b) (s6 : ∀ b, F6 b → F b) (d0_3 : ∀ b, F0 b → ¬ F3 b) (d0_4 : ∀ b, F0 b → ¬ F4 b) (d0_5 : ∀ b, F0 b → ¬ F5 b) (d0_6 : ∀ b, F0 b → ¬ F6 b) (d3_4 : ∀ b, F3 b → ¬ F4 b) (d3_5 : ∀ b, F3 b → ¬ F5 b) (d3_6 : ∀ b, F3 b → ¬ F6 b) (d4_5 : ∀ b, F4 b → ¬ F5 b) (d4_6 : ∀ b, F4 b → ¬ F6 b) (d5_6 : ∀ b, F5 b → ¬ F6 b) : tEngine.O w F [v0, .int .i64 a1, .int .i64 a2, v3, v4, v5, v6, .int .i64 a7] ((x0, a1), a2, x3, x4, x5, x6, a7) := ⟨[v0, .int .i64 a1], [.int .i64 a2, v3, v4, v5, v6, .int .i64 a7], F0, fun b => F3 b ∨ (F4 b ∨ (F5 b ∨ (F6 b))), rfl, ⟨[v0], [.int .i64 a1], F0, fun _ => False, rfl, ⟨_, rfl, h0⟩, rfl, (fun b h => h), (fun b h => (False.elim h)), (fun b h g => (False.elim g))⟩, ⟨[.int .i64 a2], [v3, v4, v5, v6, .int .i64 a7], fun _ => False, fun b => F3 b ∨ (F4 b ∨ (F5 b ∨ (F6 b))), rfl, rfl, ⟨[v3], [v4, v5, v6, .int .i64 a7], F3, fun b => F4 b ∨ (F5 b ∨ (F6 b)), rfl, ⟨_, rfl, h3⟩, ⟨[v4], [v5, v6, .int .i64 a7], F4, fun b => F5 b ∨ (F6 b), rfl, ⟨_, rfl, h4⟩, ⟨[v5], [v6, .int .i64 a7], F5, F6, rfl, ⟨_, rfl, h5⟩, ⟨[v6], [.int .i64 a7], F6, fun _ => False, rfl, ⟨_, rfl, h6⟩, rfl, (fun b h => h), (fun b h => (False.elim h)), (fun b h g => (False.elim g))⟩, (fun b h => (Or.inl h)), (fun b h => (Or.inr h)), (fun b h g => d5_6 b h g)⟩, (fun b h => (Or.inl h)), (fun b h => (h.elim (fun q0 => (Or.inr (Or.inl q0))) (fun q0 => (Or.inr (Or.inr q0))))), (fun b h g => (g.elim (fun q10 => d4_5 b h q10) (fun q10 => d4_6 b h q10)))⟩, (fun b h => (Or.inl h)), (fun b h => (h.elim (fun q0 => (Or.inr (Or.inl q0))) (fun q0 => (q0.elim (fun q1 => (Or.inr (Or.inr (Or.inl q1)))) (fun q1 => (Or.inr (Or.inr (Or.inr q1)))))))), (fun b h g => (g.elim (fun q10 => d3_4 b h q10) (fun q10 => (q10.elim (fun q11 => d3_5 b h q11) (fun q11 => d3_6 b h q11)))))⟩, (fun b h => (False.elim h)), (fun b h => (h.elim (fun q0 => (Or.inl q0)) (fun q0 => (q0.elim (fun q1 => (Or.inr (Or.inl q1))) (fun q1 => (q1.elim (fun q2 => (Or.inr (Or.inr (Or.inl q2)))) (fun q2 => (Or.inr (Or.inr (Or.inr q2)))))))))), (fun b h g => (False.elim h))⟩, (fun b h => s0 b h), (fun b h => (h.elim (fun q0 => s3 b q0) (fun q0 => (q0.elim (fun q1 => s4 b q1) (fun q1 => (q1.elim (fun q2 => s5 b q2) (fun q2 => s6 b q2))))))), (fun b h g => (g.elim (fun q10 => d0_3 b h q10) (fun q10 => (q10.elim (fun q11 => d0_4 b h q11) (fun q11 => (q11.elim (fun q12 => d0_5 b h q12) (fun q12 => d0_6 b h q12)))))))⟩
set_option maxHeartbeats 8000000 in
set_option maxRecDepth 100000 in
theorem eqEngine_T (a1 a2 a7 : Int) (v0 v3 v4 v5 v6 : Value) (x0 : List (List (Int × List Int × Int × Int))) (x3 : List Int) (x4 : List ((Int × Int × List (Int × Int × Int) × List Int) × Int × List Int × Int × Int × Int × List (Int × List Int))) (x5 : List ((Int × Int × List (Int × Int × Int) × List Int) × Int × Int × List (Int × List Int))) (x6 : List (Int × Int × List Int × List Int × List Int)) (u0 u3 u4 u5 u6 : Value) (w : World) (h0 : SlR tVersionS w v0 x0) (h3 : SlR tInt w v3 x3) (h4 : SlR tActive w v4 x4) (h5 : SlR tFinished w v5 x5) (h6 : SlR tCharge w v6 x6) (g0 : SlR tVersionS w u0 x0) (g3 : SlR tInt w u3 x3) (g4 : SlR tActive w u4 x4) (g5 : SlR tFinished w u5 x5) (g6 : SlR tCharge w u6 x6) (s0 : zL tVersionS x0 ≤ 1048576) (s3 : zL tInt x3 ≤ 1048576) (s4 : zL tActive x4 ≤ 1048576) (s5 : zL tFinished x5 ≤ 1048576) (s6 : zL tCharge x6 ≤ 1048576) :
    Calls Try.prog 18 #[.agg #[v0, .int .i64 a1, .int .i64 a2, v3, v4, v5, v6, .int .i64 a7], .agg #[u0, .int .i64 a1, .int .i64 a2, u3, u4, u5, u6, .int .i64 a7]] w fun e w' => e = .returned (.bool true) ∧ Below w.heap.size w w' := by
  have H0 := Lib.hid h0; have G0 := Lib.hid g0; have S0 := Lib.hid s0
  have H3 := Lib.hid h3; have G3 := Lib.hid g3; have S3 := Lib.hid s3
  have H4 := Lib.hid h4; have G4 := Lib.hid g4; have S4 := Lib.hid s4
  have H5 := Lib.hid h5; have G5 := Lib.hid g5; have S5 := Lib.hid s5
  have H6 := Lib.hid h6; have G6 := Lib.hid g6; have S6 := Lib.hid s6
  clear h0 g0 s0 h3 g3 s3 h4 g4 s4 h5 g5 s5 h6 g6 s6
  have e1 : (a1 != a1) = false := by simp
  have e2 : (a2 != a2) = false := by simp
  have e7 : (a7 != a7) = false := by simp
  go_enter Try.func18, Try.ntmps18
  go_wp2_with fail
  have hb : Below w.heap.size w ((w.alloc (.cells #[v0, .int .i64 a1, .int .i64 a2, v3, v4, v5, v6, .int .i64 a7] 42)).alloc (.cells #[u0, .int .i64 a1, .int .i64 a2, u3, u4, u5, u6, .int .i64 a7] 42)) := ((Below.refl _ w).alloc (Nat.le_refl _) _).alloc (by simp) _
  have g1 : ((w.alloc (.cells #[v0, .int .i64 a1, .int .i64 a2, v3, v4, v5, v6, .int .i64 a7] 42)).alloc (.cells #[u0, .int .i64 a1, .int .i64 a2, u3, u4, u5, u6, .int .i64 a7] 42)).heap[w.heap.size + 1]? = some (.cells #[u0, .int .i64 a1, .int .i64 a2, u3, u4, u5, u6, .int .i64 a7] 42 (0, 0)) := by
    have := heap_alloc_new (w.alloc (.cells #[v0, .int .i64 a1, .int .i64 a2, v3, v4, v5, v6, .int .i64 a7] 42)) (.cells #[u0, .int .i64 a1, .int .i64 a2, u3, u4, u5, u6, .int .i64 a7] 42)
    simpa only [World.size_alloc] using this
  have g0 : ((w.alloc (.cells #[v0, .int .i64 a1, .int .i64 a2, v3, v4, v5, v6, .int .i64 a7] 42)).alloc (.cells #[u0, .int .i64 a1, .int .i64 a2, u3, u4, u5, u6, .int .i64 a7] 42)).heap[w.heap.size]? = some (.cells #[v0, .int .i64 a1, .int .i64 a2, v3, v4, v5, v6, .int .i64 a7] 42 (0, 0)) := by
    rw [Below.heap_alloc _ _ _ (by simp)]
    exact heap_alloc_new w _
  have hz : w.heap.size + 1 < ((w.alloc (.cells #[v0, .int .i64 a1, .int .i64 a2, v3, v4, v5, v6, .int .i64 a7] 42)).alloc (.cells #[u0, .int .i64 a1, .int .i64 a2, u3, u4, u5, u6, .int .i64 a7] 42)).heap.size := by simp [World.size_alloc]
  generalize ((w.alloc (.cells #[v0, .int .i64 a1, .int .i64 a2, v3, v4, v5, v6, .int .i64 a7] 42)).alloc (.cells #[u0, .int .i64 a1, .int .i64 a2, u3, u4, u5, u6, .int .i64 a7] 42)) = W at *
  refine (eqStore_T a1 v0 x0 u0 W (slR_below tVersionS_law H0.out hb) (slR_below tVersionS_law G0.out hb) S0.out).mono ?_
  rintro e w1 ⟨rfl, b1⟩
  replace g0 := (b1.block _ (by omega)).trans g0
  replace g1 := (b1.block _ (by omega)).trans g1
  have zz0 := b1.size
  replace hb := hb.trans (b1.mono (by omega))
  clear b1
  have p0_2 := (cell_of_row w1 _ 2 _ _ _ g0).trans (show _ = some (Value.int .i64 a2) from rfl)
  have p1_2 := (cell_of_row w1 _ 2 _ _ _ g1).trans (show _ = some (Value.int .i64 a2) from rfl)
  have p0_3 := (cell_of_row w1 _ 3 _ _ _ g0).trans (show _ = some (v3) from rfl)
  have p1_3 := (cell_of_row w1 _ 3 _ _ _ g1).trans (show _ = some (u3) from rfl)
  go_wp2_with fail
  clear p0_2 p1_2 p0_3 p1_3
  refine (eqIntS_S v3 u3 x3 w1 (slR_below tInt_law H3.out hb) (slR_below tInt_law G3.out hb) S3.out).mono ?_
  rintro e w2 ⟨rfl, b1⟩
  replace g0 := (b1.block _ (by omega)).trans g0
  replace g1 := (b1.block _ (by omega)).trans g1
  have zz1 := b1.size
  replace hb := hb.trans (b1.mono (by omega))
  clear b1
  have p0_4 := (cell_of_row w2 _ 4 _ _ _ g0).trans (show _ = some (v4) from rfl)
  have p1_4 := (cell_of_row w2 _ 4 _ _ _ g1).trans (show _ = some (u4) from rfl)
  go_wp2_with fail
  clear p0_4 p1_4
  refine (eqActiveS_S v4 u4 x4 w2 (slR_below tActive_law H4.out hb) (slR_below tActive_law G4.out hb) S4.out).mono ?_
  rintro e w3 ⟨rfl, b1⟩
  replace g0 := (b1.block _ (by omega)).trans g0
  replace g1 := (b1.block _ (by omega)).trans g1
  have zz2 := b1.size
  replace hb := hb.trans (b1.mono (by omega))
  clear b1
  have p0_5 := (cell_of_row w3 _ 5 _ _ _ g0).trans (show _ = some (v5) from rfl)
  have p1_5 := (cell_of_row w3 _ 5 _ _ _ g1).trans (show _ = some (u5) from rfl)
  go_wp2_with fail
  clear p0_5 p1_5
  refine (eqFinishedS_S v5 u5 x5 w3 (slR_below tFinished_law H5.out hb) (slR_below tFinished_law G5.out hb) S5.out).mono ?_
  rintro e w4 ⟨rfl, b1⟩
  replace g0 := (b1.block _ (by omega)).trans g0
  replace g1 := (b1.block _ (by omega)).trans g1
  have zz3 := b1.size
  replace hb := hb.trans (b1.mono (by omega))
  clear b1
  have p0_6 := (cell_of_row w4 _ 6 _ _ _ g0).trans (show _ = some (v6) from rfl)
  have p1_6 := (cell_of_row w4 _ 6 _ _ _ g1).trans (show _ = some (u6) from rfl)
  go_wp2_with fail
  clear p0_6 p1_6
  refine (eqChargeS_S v6 u6 x6 w4 (slR_below tCharge_law H6.out hb) (slR_below tCharge_law G6.out hb) S6.out).mono ?_
  rintro e w5 ⟨rfl, b1⟩
  replace g0 := (b1.block _ (by omega)).trans g0
  replace g1 := (b1.block _ (by omega)).trans g1
  have zz4 := b1.size
  replace hb := hb.trans (b1.mono (by omega))
  clear b1
  have p0_7 := (cell_of_row w5 _ 7 _ _ _ g0).trans (show _ = some (Value.int .i64 a7) from rfl)
  have p1_7 := (cell_of_row w5 _ 7 _ _ _ g1).trans (show _ = some (Value.int .i64 a7) from rfl)
  go_wp2
  clear p0_7 p1_7
  go_ret
  exact ⟨rfl, hb⟩
set_option maxHeartbeats 8000000 in
set_option maxRecDepth 100000 in
theorem markEngine_T (a1 a2 a7 : Int) (v0 v3 v4 v5 v6 : Value) (x0 : List (List (Int × List Int × Int × Int))) (x3 : List Int) (x4 : List ((Int × Int × List (Int × Int × Int) × List Int) × Int × List Int × Int × Int × Int × List (Int × List Int))) (x5 : List ((Int × Int × List (Int × Int × Int) × List Int) × Int × Int × List (Int × List Int))) (x6 : List (Int × Int × List Int × List Int × List Int)) (F F0 F3 F4 F5 F6 : Nat → Prop) (k : Int) (w : World) (h0 : SlO 61 tVersionS w F0 v0 x0) (h3 : SlO 3 tInt w F3 v3 x3) (h4 : SlO 92 tActive w F4 v4 x4) (h5 : SlO 101 tFinished w F5 v5 x5) (h6 : SlO 105 tCharge w F6 v6 x6) (q0 : ∀ b, F0 b → F b) (q3 : ∀ b, F3 b → F b) (q4 : ∀ b, F4 b → F b) (q5 : ∀ b, F5 b → F b) (q6 : ∀ b, F6 b → F b) (d0_3 : ∀ b, F0 b → ¬ F3 b) (d0_4 : ∀ b, F0 b → ¬ F4 b) (d0_5 : ∀ b, F0 b → ¬ F5 b) (d0_6 : ∀ b, F0 b → ¬ F6 b) (d3_4 : ∀ b, F3 b → ¬ F4 b) (d3_5 : ∀ b, F3 b → ¬ F5 b) (d3_6 : ∀ b, F3 b → ¬ F6 b) (d4_5 : ∀ b, F4 b → ¬ F5 b) (d4_6 : ∀ b, F4 b → ¬ F6 b) (d5_6 : ∀ b, F5 b → ¬ F6 b) (s0 : zL tVersionS x0 ≤ 1048576) (s3 : zL tInt x3 ≤ 1048576) (s4 : zL tActive x4 ≤ 1048576) (s5 : zL tFinished x5 ≤ 1048576) (s6 : zL tCharge x6 ≤ 1048576) (k0 : 0 ≤ k) (k1 : k ≤ 268435456) :
    Calls Try.prog 19 #[.agg #[v0, .int .i64 a1, .int .i64 a2, v3, v4, v5, v6, .int .i64 a7], .int .i64 k] w fun e w' => e = .returned (.int .i64 (k + (ndL tVersionS x0 : Int) + (ndL tInt x3 : Int) + (ndL tActive x4 : Int) + (ndL tFinished x5 : Int) + (ndL tCharge x6 : Int))) ∧ (SlO 61 tVersionS w' F0 v0 (mAll tVersionS x0 (k)) ∧ SlO 3 tInt w' F3 v3 (mAll tInt x3 (k + (ndL tVersionS x0 : Int))) ∧ SlO 92 tActive w' F4 v4 (mAll tActive x4 (k + (ndL tVersionS x0 : Int) + (ndL tInt x3 : Int))) ∧ SlO 101 tFinished w' F5 v5 (mAll tFinished x5 (k + (ndL tVersionS x0 : Int) + (ndL tInt x3 : Int) + (ndL tActive x4 : Int))) ∧ SlO 105 tCharge w' F6 v6 (mAll tCharge x6 (k + (ndL tVersionS x0 : Int) + (ndL tInt x3 : Int) + (ndL tActive x4 : Int) + (ndL tFinished x5 : Int)))) ∧ Turn F w w' := by
  have S0 := Lib.hid s0
  have N0 := ndL_le tVersionS_law (by decide) x0
  have S3 := Lib.hid s3
  have N3 := ndL_le tInt_law (by decide) x3
  have S4 := Lib.hid s4
  have N4 := ndL_le tActive_law (by decide) x4
  have S5 := Lib.hid s5
  have N5 := ndL_le tFinished_law (by decide) x5
  have S6 := Lib.hid s6
  have N6 := ndL_le tCharge_law (by decide) x6
  have R0 : Hid (0 ≤ k ∧ k ≤ 536870912) := Lib.hid (by omega)
  have R3 : Hid (0 ≤ k + (ndL tVersionS x0 : Int) ∧ k + (ndL tVersionS x0 : Int) ≤ 536870912) := Lib.hid (by omega)
  have R4 : Hid (0 ≤ k + (ndL tVersionS x0 : Int) + (ndL tInt x3 : Int) ∧ k + (ndL tVersionS x0 : Int) + (ndL tInt x3 : Int) ≤ 536870912) := Lib.hid (by omega)
  have R5 : Hid (0 ≤ k + (ndL tVersionS x0 : Int) + (ndL tInt x3 : Int) + (ndL tActive x4 : Int) ∧ k + (ndL tVersionS x0 : Int) + (ndL tInt x3 : Int) + (ndL tActive x4 : Int) ≤ 536870912) := Lib.hid (by omega)
  have R6 : Hid (0 ≤ k + (ndL tVersionS x0 : Int) + (ndL tInt x3 : Int) + (ndL tActive x4 : Int) + (ndL tFinished x5 : Int) ∧ k + (ndL tVersionS x0 : Int) + (ndL tInt x3 : Int) + (ndL tActive x4 : Int) + (ndL tFinished x5 : Int) ≤ 536870912) := Lib.hid (by omega)
  have RE : Hid (0 ≤ k + (ndL tVersionS x0 : Int) + (ndL tInt x3 : Int) + (ndL tActive x4 : Int) + (ndL tFinished x5 : Int) + (ndL tCharge x6 : Int)) := Lib.hid (by omega)
  clear N0 N3 N4 N5 N6
  have O0 := Lib.hid (slO_lt tVersionS_law h0)
  have O3 := Lib.hid (slO_lt tInt_law h3)
  have O4 := Lib.hid (slO_lt tActive_law h4)
  have O5 := Lib.hid (slO_lt tFinished_law h5)
  have O6 := Lib.hid (slO_lt tCharge_law h6)
  clear h0 s0 h3 s3 h4 s4 h5 s5 h6 s6
  go_enter Try.func19, Try.ntmps19
  go_wp2_with fail
  have hb : Below w.heap.size w (w.alloc (.cells #[v0, .int .i64 a1, .int .i64 a2, v3, v4, v5, v6, .int .i64 a7] 42)) := (Below.refl _ w).alloc (Nat.le_refl _) _
  have g0 : (w.alloc (.cells #[v0, .int .i64 a1, .int .i64 a2, v3, v4, v5, v6, .int .i64 a7] 42)).heap[w.heap.size]? = some (.cells #[v0, .int .i64 a1, .int .i64 a2, v3, v4, v5, v6, .int .i64 a7] 42 (0, 0)) := heap_alloc_new w _
  have hz : w.heap.size < (w.alloc (.cells #[v0, .int .i64 a1, .int .i64 a2, v3, v4, v5, v6, .int .i64 a7] 42)).heap.size := by simp [World.size_alloc]
  have ht : Turn F w (w.alloc (.cells #[v0, .int .i64 a1, .int .i64 a2, v3, v4, v5, v6, .int .i64 a7] 42)) := turn_below hb
  replace O0 := Lib.hid (slO_fresh tVersionS_law O0.out hb)
  replace O3 := Lib.hid (slO_fresh tInt_law O3.out hb)
  replace O4 := Lib.hid (slO_fresh tActive_law O4.out hb)
  replace O5 := Lib.hid (slO_fresh tFinished_law O5.out hb)
  replace O6 := Lib.hid (slO_fresh tCharge_law O6.out hb)
  generalize (w.alloc (.cells #[v0, .int .i64 a1, .int .i64 a2, v3, v4, v5, v6, .int .i64 a7] 42)) = W at *
  refine (markStore_T a1 v0 x0 (fun b => (F0 b) ∧ b < w.heap.size) _ (k) W O0.out (fun b h => ⟨h.1, h.2⟩)  S0.out R0.out.1 (by have := R0.out.2; omega)).mono ?_
  rintro e w1 ⟨rfl, m0, t1⟩
  replace g0 := (t1.block _ hz (fun h => absurd h.2 (Nat.lt_irrefl _))).trans g0
  have zz0 := t1.size
  replace hz := Nat.lt_of_lt_of_le hz t1.size
  replace ht := ht.trans (t1.mono (fun b h => q0 b h.1))
  replace O0 := Lib.hid m0
  replace O3 := Lib.hid (slO_turn tInt_law O3.out t1 (fun b h1 h2 => d0_3 b h2.1 h1.1))
  replace O4 := Lib.hid (slO_turn tActive_law O4.out t1 (fun b h1 h2 => d0_4 b h2.1 h1.1))
  replace O5 := Lib.hid (slO_turn tFinished_law O5.out t1 (fun b h1 h2 => d0_5 b h2.1 h1.1))
  replace O6 := Lib.hid (slO_turn tCharge_law O6.out t1 (fun b h1 h2 => d0_6 b h2.1 h1.1))
  clear m0 t1
  have p3 := (cell_of_row w1 _ 3 _ _ _ g0).trans (show _ = some (v3) from rfl)
  go_wp2_with fail
  clear p3
  refine (markIntS_S v3 x3 _ (k + (ndL tVersionS x0 : Int)) w1 O3.out S3.out R3.out.1 (by have := R3.out.2; omega)).mono ?_
  rintro e w2 ⟨rfl, m3, t1⟩
  replace g0 := (t1.block _ hz (fun h => absurd h.2 (Nat.lt_irrefl _))).trans g0
  have zz1 := t1.size
  replace hz := Nat.lt_of_lt_of_le hz t1.size
  replace ht := ht.trans (t1.mono (fun b h => q3 b h.1))
  replace O0 := Lib.hid (slO_turn tVersionS_law O0.out t1 (fun b h1 h2 => d0_3 b h1.1 h2.1))
  replace O3 := Lib.hid m3
  replace O4 := Lib.hid (slO_turn tActive_law O4.out t1 (fun b h1 h2 => d3_4 b h2.1 h1.1))
  replace O5 := Lib.hid (slO_turn tFinished_law O5.out t1 (fun b h1 h2 => d3_5 b h2.1 h1.1))
  replace O6 := Lib.hid (slO_turn tCharge_law O6.out t1 (fun b h1 h2 => d3_6 b h2.1 h1.1))
  clear m3 t1
  have p4 := (cell_of_row w2 _ 4 _ _ _ g0).trans (show _ = some (v4) from rfl)
  go_wp2_with fail
  clear p4
  refine (markActiveS_S v4 x4 _ (k + (ndL tVersionS x0 : Int) + (ndL tInt x3 : Int)) w2 O4.out S4.out R4.out.1 (by have := R4.out.2; omega)).mono ?_
  rintro e w3 ⟨rfl, m4, t1⟩
  replace g0 := (t1.block _ hz (fun h => absurd h.2 (Nat.lt_irrefl _))).trans g0
  have zz2 := t1.size
  replace hz := Nat.lt_of_lt_of_le hz t1.size
  replace ht := ht.trans (t1.mono (fun b h => q4 b h.1))
  replace O0 := Lib.hid (slO_turn tVersionS_law O0.out t1 (fun b h1 h2 => d0_4 b h1.1 h2.1))
  replace O3 := Lib.hid (slO_turn tInt_law O3.out t1 (fun b h1 h2 => d3_4 b h1.1 h2.1))
  replace O4 := Lib.hid m4
  replace O5 := Lib.hid (slO_turn tFinished_law O5.out t1 (fun b h1 h2 => d4_5 b h2.1 h1.1))
  replace O6 := Lib.hid (slO_turn tCharge_law O6.out t1 (fun b h1 h2 => d4_6 b h2.1 h1.1))
  clear m4 t1
  have p5 := (cell_of_row w3 _ 5 _ _ _ g0).trans (show _ = some (v5) from rfl)
  go_wp2_with fail
  clear p5
  refine (markFinishedS_S v5 x5 _ (k + (ndL tVersionS x0 : Int) + (ndL tInt x3 : Int) + (ndL tActive x4 : Int)) w3 O5.out S5.out R5.out.1 (by have := R5.out.2; omega)).mono ?_
  rintro e w4 ⟨rfl, m5, t1⟩
  replace g0 := (t1.block _ hz (fun h => absurd h.2 (Nat.lt_irrefl _))).trans g0
  have zz3 := t1.size
  replace hz := Nat.lt_of_lt_of_le hz t1.size
  replace ht := ht.trans (t1.mono (fun b h => q5 b h.1))
  replace O0 := Lib.hid (slO_turn tVersionS_law O0.out t1 (fun b h1 h2 => d0_5 b h1.1 h2.1))
  replace O3 := Lib.hid (slO_turn tInt_law O3.out t1 (fun b h1 h2 => d3_5 b h1.1 h2.1))
  replace O4 := Lib.hid (slO_turn tActive_law O4.out t1 (fun b h1 h2 => d4_5 b h1.1 h2.1))
  replace O5 := Lib.hid m5
  replace O6 := Lib.hid (slO_turn tCharge_law O6.out t1 (fun b h1 h2 => d5_6 b h2.1 h1.1))
  clear m5 t1
  have p6 := (cell_of_row w4 _ 6 _ _ _ g0).trans (show _ = some (v6) from rfl)
  go_wp2_with fail
  clear p6
  refine (markChargeS_S v6 x6 _ (k + (ndL tVersionS x0 : Int) + (ndL tInt x3 : Int) + (ndL tActive x4 : Int) + (ndL tFinished x5 : Int)) w4 O6.out S6.out R6.out.1 (by have := R6.out.2; omega)).mono ?_
  rintro e w5 ⟨rfl, m6, t1⟩
  replace g0 := (t1.block _ hz (fun h => absurd h.2 (Nat.lt_irrefl _))).trans g0
  have zz4 := t1.size
  replace hz := Nat.lt_of_lt_of_le hz t1.size
  replace ht := ht.trans (t1.mono (fun b h => q6 b h.1))
  replace O0 := Lib.hid (slO_turn tVersionS_law O0.out t1 (fun b h1 h2 => d0_6 b h1.1 h2.1))
  replace O3 := Lib.hid (slO_turn tInt_law O3.out t1 (fun b h1 h2 => d3_6 b h1.1 h2.1))
  replace O4 := Lib.hid (slO_turn tActive_law O4.out t1 (fun b h1 h2 => d4_6 b h1.1 h2.1))
  replace O5 := Lib.hid (slO_turn tFinished_law O5.out t1 (fun b h1 h2 => d5_6 b h1.1 h2.1))
  replace O6 := Lib.hid m6
  clear m6 t1
  go_wp2
  go_ret
  exact ⟨rfl, ⟨slO_mono O0.out (fun b h => h.1), slO_mono O3.out (fun b h => h.1), slO_mono O4.out (fun b h => h.1), slO_mono O5.out (fun b h => h.1), slO_mono O6.out (fun b h => h.1)⟩, ht⟩
set_option maxHeartbeats 8000000 in
set_option maxRecDepth 100000 in
theorem heldEngine_T (a1 a2 a7 : Int) (v0 v3 v4 v5 v6 : Value) (x0 : List (List (Int × List Int × Int × Int))) (x3 : List Int) (x4 : List ((Int × Int × List (Int × Int × Int) × List Int) × Int × List Int × Int × Int × Int × List (Int × List Int))) (x5 : List ((Int × Int × List (Int × Int × Int) × List Int) × Int × Int × List (Int × List Int))) (x6 : List (Int × Int × List Int × List Int × List Int)) (k : Int) (w : World) (h0 : SlR tVersionS w v0 (mAll tVersionS x0 (k))) (h3 : SlR tInt w v3 (mAll tInt x3 (k + (ndL tVersionS x0 : Int)))) (h4 : SlR tActive w v4 (mAll tActive x4 (k + (ndL tVersionS x0 : Int) + (ndL tInt x3 : Int)))) (h5 : SlR tFinished w v5 (mAll tFinished x5 (k + (ndL tVersionS x0 : Int) + (ndL tInt x3 : Int) + (ndL tActive x4 : Int)))) (h6 : SlR tCharge w v6 (mAll tCharge x6 (k + (ndL tVersionS x0 : Int) + (ndL tInt x3 : Int) + (ndL tActive x4 : Int) + (ndL tFinished x5 : Int)))) (s0 : zL tVersionS x0 ≤ 1048576) (s3 : zL tInt x3 ≤ 1048576) (s4 : zL tActive x4 ≤ 1048576) (s5 : zL tFinished x5 ≤ 1048576) (s6 : zL tCharge x6 ≤ 1048576) (k0 : 0 ≤ k) (k1 : k ≤ 268435456) :
    Calls Try.prog 20 #[.agg #[v0, .int .i64 a1, .int .i64 a2, v3, v4, v5, v6, .int .i64 a7], .int .i64 k] w fun e w' => e = .returned (.int .i64 (k + (ndL tVersionS x0 : Int) + (ndL tInt x3 : Int) + (ndL tActive x4 : Int) + (ndL tFinished x5 : Int) + (ndL tCharge x6 : Int))) ∧ Below w.heap.size w w' := by
  have S0 := Lib.hid s0
  have N0 := ndL_le tVersionS_law (by decide) x0
  have S3 := Lib.hid s3
  have N3 := ndL_le tInt_law (by decide) x3
  have S4 := Lib.hid s4
  have N4 := ndL_le tActive_law (by decide) x4
  have S5 := Lib.hid s5
  have N5 := ndL_le tFinished_law (by decide) x5
  have S6 := Lib.hid s6
  have N6 := ndL_le tCharge_law (by decide) x6
  have R0 : Hid (0 ≤ k ∧ k ≤ 536870912) := Lib.hid (by omega)
  have R3 : Hid (0 ≤ k + (ndL tVersionS x0 : Int) ∧ k + (ndL tVersionS x0 : Int) ≤ 536870912) := Lib.hid (by omega)
  have R4 : Hid (0 ≤ k + (ndL tVersionS x0 : Int) + (ndL tInt x3 : Int) ∧ k + (ndL tVersionS x0 : Int) + (ndL tInt x3 : Int) ≤ 536870912) := Lib.hid (by omega)
  have R5 : Hid (0 ≤ k + (ndL tVersionS x0 : Int) + (ndL tInt x3 : Int) + (ndL tActive x4 : Int) ∧ k + (ndL tVersionS x0 : Int) + (ndL tInt x3 : Int) + (ndL tActive x4 : Int) ≤ 536870912) := Lib.hid (by omega)
  have R6 : Hid (0 ≤ k + (ndL tVersionS x0 : Int) + (ndL tInt x3 : Int) + (ndL tActive x4 : Int) + (ndL tFinished x5 : Int) ∧ k + (ndL tVersionS x0 : Int) + (ndL tInt x3 : Int) + (ndL tActive x4 : Int) + (ndL tFinished x5 : Int) ≤ 536870912) := Lib.hid (by omega)
  have RE : Hid (0 ≤ k + (ndL tVersionS x0 : Int) + (ndL tInt x3 : Int) + (ndL tActive x4 : Int) + (ndL tFinished x5 : Int) + (ndL tCharge x6 : Int)) := Lib.hid (by omega)
  have ng0 : ¬ k + (ndL tVersionS x0 : Int) < 0 := by omega
  have ng1 : ¬ k + (ndL tVersionS x0 : Int) + (ndL tInt x3 : Int) < 0 := by omega
  have ng2 : ¬ k + (ndL tVersionS x0 : Int) + (ndL tInt x3 : Int) + (ndL tActive x4 : Int) < 0 := by omega
  have ng3 : ¬ k + (ndL tVersionS x0 : Int) + (ndL tInt x3 : Int) + (ndL tActive x4 : Int) + (ndL tFinished x5 : Int) < 0 := by omega
  have ng4 : ¬ k + (ndL tVersionS x0 : Int) + (ndL tInt x3 : Int) + (ndL tActive x4 : Int) + (ndL tFinished x5 : Int) + (ndL tCharge x6 : Int) < 0 := by omega
  clear N0 N3 N4 N5 N6
  have H0 := Lib.hid h0
  have H3 := Lib.hid h3
  have H4 := Lib.hid h4
  have H5 := Lib.hid h5
  have H6 := Lib.hid h6
  clear h0 s0 h3 s3 h4 s4 h5 s5 h6 s6
  go_enter Try.func20, Try.ntmps20
  go_wp2_with fail
  have hb : Below w.heap.size w (w.alloc (.cells #[v0, .int .i64 a1, .int .i64 a2, v3, v4, v5, v6, .int .i64 a7] 42)) := (Below.refl _ w).alloc (Nat.le_refl _) _
  have g0 : (w.alloc (.cells #[v0, .int .i64 a1, .int .i64 a2, v3, v4, v5, v6, .int .i64 a7] 42)).heap[w.heap.size]? = some (.cells #[v0, .int .i64 a1, .int .i64 a2, v3, v4, v5, v6, .int .i64 a7] 42 (0, 0)) := heap_alloc_new w _
  have hz : w.heap.size < (w.alloc (.cells #[v0, .int .i64 a1, .int .i64 a2, v3, v4, v5, v6, .int .i64 a7] 42)).heap.size := by simp [World.size_alloc]
  generalize (w.alloc (.cells #[v0, .int .i64 a1, .int .i64 a2, v3, v4, v5, v6, .int .i64 a7] 42)) = W at *
  refine (heldStore_T a1 v0 x0 (k) W (slR_below tVersionS_law H0.out hb) S0.out R0.out.1 (by have := R0.out.2; omega)).mono ?_
  rintro e w1 ⟨rfl, b1⟩
  replace g0 := (b1.block _ (by omega)).trans g0
  have zz0 := b1.size
  replace hb := hb.trans (b1.mono (by omega))
  clear b1
  have p3 := (cell_of_row w1 _ 3 _ _ _ g0).trans (show _ = some (v3) from rfl)
  go_wp2_with fail
  clear p3
  refine (heldIntS_S v3 x3 (k + (ndL tVersionS x0 : Int)) w1 (slR_below tInt_law H3.out hb) S3.out R3.out.1 (by have := R3.out.2; omega)).mono ?_
  rintro e _ ⟨rfl, rfl⟩
  have p4 := (cell_of_row w1 _ 4 _ _ _ g0).trans (show _ = some (v4) from rfl)
  go_wp2_with fail
  clear p4
  refine (heldActiveS_S v4 x4 (k + (ndL tVersionS x0 : Int) + (ndL tInt x3 : Int)) w1 (slR_below tActive_law H4.out hb) S4.out R4.out.1 (by have := R4.out.2; omega)).mono ?_
  rintro e _ ⟨rfl, rfl⟩
  have p5 := (cell_of_row w1 _ 5 _ _ _ g0).trans (show _ = some (v5) from rfl)
  go_wp2_with fail
  clear p5
  refine (heldFinishedS_S v5 x5 (k + (ndL tVersionS x0 : Int) + (ndL tInt x3 : Int) + (ndL tActive x4 : Int)) w1 (slR_below tFinished_law H5.out hb) S5.out R5.out.1 (by have := R5.out.2; omega)).mono ?_
  rintro e _ ⟨rfl, rfl⟩
  have p6 := (cell_of_row w1 _ 6 _ _ _ g0).trans (show _ = some (v6) from rfl)
  go_wp2_with fail
  clear p6
  refine (heldChargeS_S v6 x6 (k + (ndL tVersionS x0 : Int) + (ndL tInt x3 : Int) + (ndL tActive x4 : Int) + (ndL tFinished x5 : Int)) w1 (slR_below tCharge_law H6.out hb) S6.out R6.out.1 (by have := R6.out.2; omega)).mono ?_
  rintro e _ ⟨rfl, rfl⟩
  go_wp2
  go_ret
  exact ⟨rfl, hb⟩
end Go.Proofs.Ytdhglmoanpkeoaa
namespace Go.Proofs.Ytdhglmoanpkeoaa
open Go.RowKit
set_option linter.unusedVariables false
set_option linter.unusedSimpArgs false
/-- An engine of the call's own, and whether it is one. -/
def FreshEB (w : World) (r : EngD × Bool) (e : Ending) (w' : World) : Prop := ∃ (g0 : List Value) (G0 : Nat → Prop), e = .returned (.tuple #[.agg g0.toArray, .bool r.2]) ∧ tEngine.O w' G0 g0 r.1 ∧ (∀ b, G0 b → w.heap.size ≤ b) ∧ Below w.heap.size w w'
end Go.Proofs.Ytdhglmoanpkeoaa
namespace Go.Proofs.Ytdhglmoanpkeoaa
open Go.RowKit
set_option linter.unusedVariables false
set_option linter.unusedSimpArgs false
end Go.Proofs.Ytdhglmoanpkeoaa
namespace Go.Proofs.Ytdhglmoanpkeoaa
open Go.RowKit
set_option linter.unusedVariables false
set_option linter.unusedSimpArgs false
/-- What the table of types says of the element. -/
def ElemInfo {α : Type} (T : Ty α) (e : TypeId) (z : Value) : Prop := ∃ i, Try.prog.info? e = some i ∧ i.zero = some z ∧ i.size = T.n ∧ i.bytes ≤ 512
theorem elemInfo_of {α : Type} {T : Ty α} {e : TypeId} {z : Value} (h : (Try.prog.info? e).map (fun i => (i.zero, i.size, decide (i.bytes ≤ 512))) = some (some z, T.n, true)) : ElemInfo T e z := by
  cases q : Try.prog.info? e with
  | none => rw [q] at h; simp at h
  | some i => rw [q] at h; simp only [Option.map_some, Option.some.injEq, Prod.mk.injEq, decide_eq_true_eq] at h; exact ⟨i, q, h.1, h.2.1, h.2.2⟩
theorem addr_add0 (b j : Nat) : (⟨b, 0, none⟩ : Addr).add j = ⟨b, j, none⟩ := by unfold Addr.add; split <;> simp_all
theorem addr_add (b o j : Nat) : (⟨b, o, none⟩ : Addr).add j = ⟨b, o + j, none⟩ := by unfold Addr.add; split <;> simp_all
/-- The blocks of what was there, as the append leaves them. -/
theorem grown_alloc {w w' : World} {o : Obj} {row : Option Nat} (h : (w.alloc o).grownBy w' row) : w.grownBy w' row := by
  have hg := World.grownBy_alloc w o row
  exact ⟨h.os.trans hg.os, h.tape.trans hg.tape, h.output.trans hg.output, Nat.le_trans hg.size h.size, fun k hk hne => (h.block k (Nat.lt_of_lt_of_le hk hg.size) hne).trans (hg.block k hk hne)⟩
theorem run_append_T {α : Type} {T : Ty α} (A : T.Law) {e t : TypeId} {z : Value} (I : ElemInfo T e z) (ht : Try.prog.underlying t = some (.slice e)) (hz : z.cells.size = T.n)
    {w : World} (ty : TypeId) (F : Nat → Prop) (D : Nat) (v : Value) (xs : List α) (hown : SlO e T w (fun b => F b ∧ b < D) v xs) (hD : D ≤ w.heap.size) (hf : ∀ b, D ≤ b → F b) (hn : xs.length ≤ 1048576)
    (cs : List Value) (x0 : α) (hnew : T.O w (fun b => D ≤ b) cs x0) (h1 : ∀ u ∈ cs, u.oneCell' = true) (c : Nat) :
    ∃ v' w', (Builtin.append_ #[t, t] ty #[v, .slice (some ⟨w.heap.size, 0, none⟩) 1 c]).run Try.prog (w.alloc (.cells cs.toArray e)) = .ok v' w' ∧ SlO e T w' F v' (xs ++ [x0]) ∧ Turn (fun b => F b ∧ b < D) w w' := by
  obtain ⟨i0, hi, hz0, hz1, hz2⟩ := I
  obtain ⟨L, us, Fs, g1, g2, g3, g4⟩ := slO_lt A hown
  have hcl : cs.length = T.n := A.len (A.reads hnew)
  have hpos := A.pos
  have hb : (xs.length + 1) * i0.bytes ≤ 1048577 * 512 := Nat.mul_le_mul (by omega) hz2
  obtain ⟨v', w', hr, k1, k2, _, k4⟩ := run_append_own_at (P := Try.prog) (w.alloc (.cells cs.toArray e)) 0 t ty e i0 z T.n i0.bytes ht hi hz0 hz1 rfl hz hpos v xs.length _ (g1.alloc _) ⟨w.heap.size, 0, none⟩ 1 c cs (by omega) (fun j u hj => by
    rw [addr_add0, cell_of_row _ w.heap.size j cs.toArray e (0, 0) (heap_alloc_new w _)]
    simpa using hj) h1 (by unfold maxLen; omega) (by omega) (Nat.zero_le _)
  have k5 := grown_alloc k2
  have hv : ∀ b, v.ownBlock = some b → F b ∧ b < D := fun b hb => (g2 b hb).1
  have hsz : (w.alloc (.cells cs.toArray e)).heap.size = w.heap.size + 1 := by simp [World.size_alloc]
  refine ⟨v', w', hr, ?_, turn_grown k5 hv⟩
  refine slO_app (F := F) (Fn := fun b => D ≤ b ∧ b < w.heap.size) A (fun b hb => (hv b hb).1) (fun j hj => ⟨(g3 j hj).1, (g3 j hj).2.1, fun b hb => ⟨⟨((g3 j hj).2.2 b hb).1.1.1, ((g3 j hj).2.2 b hb).1.2⟩, ((g3 j hj).2.2 b hb).2⟩⟩) g4 g1.1 k1 k5 (fun b hb => ?_) (A.lt hnew) hcl (fun b hb => ⟨hf b hb.1, hb.2, fun q => ?_, fun j hj q => ?_⟩)
  · rcases k4 with q | q
    · exact Or.inl (q ▸ hb)
    · rw [q, hsz] at hb
      have := Option.some.inj hb
      exact Or.inr ⟨by omega, hf b (by omega)⟩
  · have := (hv b q).2; omega
  · have := ((g3 j hj).2.2 b q).1.1.2; omega
theorem append_T {α : Type} {T : Ty α} (A : T.Law) {e t : TypeId} {z : Value} (I : ElemInfo T e z) (ht : Try.prog.underlying t = some (.slice e)) (hz : z.cells.size = T.n)
    {w : World} {ops : Array Oper} {rest : List Oper} {o : Oper} {a : Act} {Q : Exit → Act → World → Prop} (hgd : o.guard = none) (s x : Operand)
    (ho : o.op = .call { callee := .builtin .append, args := #[s, x], argTypes := #[t, t] })
    (F : Nat → Prop) (D : Nat) (v : Value) (xs : List α) (hs : a.eval s = v) (hown : SlO e T w (fun b => F b ∧ b < D) v xs) (hD : D ≤ w.heap.size) (hf : ∀ b, D ≤ b → F b) (hn : xs.length ≤ 1048576)
    (cs : List Value) (x0 : α) (hnew : T.O w (fun b => D ≤ b) cs x0) (h1 : ∀ u ∈ cs, u.oneCell' = true) (c g0 : Nat) (hx : a.eval x = .slice (some ⟨g0, 0, none⟩) 1 c) (hg0 : g0 = w.heap.size)
    (h : ∀ v' w', SlO e T w' F v' (xs ++ [x0]) → Turn (fun b => F b ∧ b < D) w w' → wpList Try.prog ops Q rest (a.put o.dst v') w') : wpList Try.prog ops Q (o :: rest) a (w.alloc (.cells cs.toArray e)) := by
  subst hg0
  refine wpList_plain hgd fun K hK => ?_
  obtain ⟨v', w', hr, h2, h3⟩ := run_append_T A I ht hz o.type F D v xs hown hD hf hn cs x0 hnew h1 c
  unfold Oper.wp execOp
  simp only [ho, resolve, invoke, builtin, Sem.run_bind, Sem.run_pure, Result.andThen_ok, List.map_toArray, List.map_cons, List.map_nil, hs, hx, hr]
  exact hK _ _ (h v' w' h2 h3)
theorem step_append_T {α : Type} {T : Ty α} (A : T.Law) {e t : TypeId} {z : Value} (I : ElemInfo T e z) (ht : Try.prog.underlying t = some (.slice e)) (hz : z.cells.size = T.n)
    {w : World} {ops : Array Oper} {o : Oper} {a : Act} {K : Act → World → Prop} {Q : Exit → Act → World → Prop} {E : Prop} (hwa : Region.wanted o (yielded ops a.tmps) = true) (s x : Operand)
    (ho : o.op = .call { callee := .builtin .append, args := #[s, x], argTypes := #[t, t] })
    (F : Nat → Prop) (D : Nat) (v : Value) (xs : List α) (hs : a.eval s = v) (hown : SlO e T w (fun b => F b ∧ b < D) v xs) (hD : D ≤ w.heap.size) (hf : ∀ b, D ≤ b → F b) (hn : xs.length ≤ 1048576)
    (cs : List Value) (x0 : α) (hnew : T.O w (fun b => D ≤ b) cs x0) (h1 : ∀ u ∈ cs, u.oneCell' = true) (c g0 : Nat) (hx : a.eval x = .slice (some ⟨g0, 0, none⟩) 1 c) (hg0 : g0 = w.heap.size)
    (h : ∀ v' w', SlO e T w' F v' (xs ++ [x0]) → Turn (fun b => F b ∧ b < D) w w' → K (a.put o.dst v') w') : if Region.wanted o (yielded ops a.tmps) = true then Oper.wp Try.prog o a (w.alloc (.cells cs.toArray e)) K Q else E := by
  subst hg0
  rw [if_pos hwa]
  obtain ⟨v', w', hr, h2, h3⟩ := run_append_T A I ht hz o.type F D v xs hown hD hf hn cs x0 hnew h1 c
  unfold Oper.wp execOp
  simp only [ho, resolve, invoke, builtin, Sem.run_bind, Sem.run_pure, Result.andThen_ok, List.map_toArray, List.map_cons, List.map_nil, hs, hx, hr]
  exact h v' w' h2 h3
/-- The cells of a slice that is read, in a row. -/
theorem slR_cells {α : Type} {T : Ty α} {w : World} {b off cap m : Nat} {xs : List α} (A : T.Law) (h : SlR T w (.slice (some ⟨b, off, none⟩) m cap) xs) (hp : 0 < xs.length) :
    m = xs.length ∧ b < w.heap.size ∧ ∃ L : List Value, L.length = xs.length * T.n ∧ (∀ j u, L[j]? = some u → w.cell? ⟨b, off + j, none⟩ = some u) ∧ ∀ j, j < xs.length → ∃ cs, T.R w cs (xs.getD j T.d) ∧ ∀ i, i < T.n → L[j * T.n + i]? = cs[i]? := by
  rcases h with ⟨rfl, _⟩ | ⟨b', off', cap', us, hv, h2, h3, h4⟩
  · simp at hp
  · simp only [Value.slice.injEq, Option.some.injEq, Addr.mk.injEq] at hv
    obtain ⟨⟨rfl, rfl, _⟩, rfl, rfl⟩ := hv
    have hpos := A.pos
    have hlen : ∀ j, j < xs.length → (us j).length = T.n := fun j hj => A.len (h4 j hj).2
    refine ⟨rfl, h3, (List.range (xs.length * T.n)).map (fun k => (us (k / T.n)).getD (k % T.n) undef), by simp, fun j u hj => ?_, fun j hj => ⟨us j, (h4 j hj).2, fun i hi => ?_⟩⟩
    · have hjl : j < xs.length * T.n := by
        have := (List.getElem?_eq_some_iff.1 hj).1
        simpa using this
      rw [List.getElem?_map, List.getElem?_range hjl] at hj
      simp only [Option.map_some, Option.some.injEq] at hj
      have hq : j / T.n < xs.length := (Nat.div_lt_iff_lt_mul hpos).2 hjl
      have hm : j % T.n < T.n := Nat.mod_lt _ hpos
      have e : off + j / T.n * T.n + j % T.n = off + j := by
        have := Nat.div_add_mod j T.n
        rw [Nat.mul_comm] at this; omega
      have hc := (h4 _ hq).1 _ hm
      rw [e, List.getElem?_eq_getElem (by rw [hlen _ hq]; exact hm)] at hc
      rw [hc, ← hj]
      simp [List.getD, hlen _ hq, hm]
    · have hlt : j * T.n + i < xs.length * T.n := by
        have : (j + 1) * T.n ≤ xs.length * T.n := Nat.mul_le_mul_right _ hj
        rw [Nat.add_mul, Nat.one_mul] at this; omega
      have e1 : (j * T.n + i) / T.n = j := by rw [Nat.mul_comm, Nat.mul_add_div hpos, Nat.div_eq_of_lt hi]; omega
      have e2 : (j * T.n + i) % T.n = i := by rw [Nat.mul_comm, Nat.mul_add_mod, Nat.mod_eq_of_lt hi]
      rw [List.getElem?_map, List.getElem?_range hlt]
      simp only [Option.map_some, e1, e2]
      rw [List.getElem?_eq_getElem (by rw [hlen j hj]; exact hi)]
      simp [List.getD, hlen j hj, hi]
/-- Plain data: what is read may be owned. -/
def Flat {α : Type} (T : Ty α) : Prop := (∀ {w w' : World} {F : Nat → Prop} {cs : List Value} {x : α}, T.R w cs x → T.O w' F cs x) ∧ ∀ {w : World} {cs : List Value} {x : α}, T.R w cs x → ∀ u ∈ cs, u.oneCell' = true
theorem flat_int : Flat tInt := ⟨fun h => h, fun h u hu => by rw [show _ = [Value.int .i64 _] from h] at hu; simp at hu; rw [hu]; rfl⟩
/-- What lies in slices of plain data that the call made, element by element. -/
theorem slO_flat {α : Type} {T : Ty α} (A : T.Law) (hfl : Flat T) {e : TypeId} {w : World} {F : Nat → Prop} {v : Value} {xs : List α} {L : List Value} {B : Nat} (h : w.ownsRow B e T.n v xs.length L) (hF : ∀ b, v.ownBlock = some b → F b)
    (hL : ∀ j, j < xs.length → ∃ cs, T.R w cs (xs.getD j T.d) ∧ ∀ i, i < T.n → L[j * T.n + i]? = cs[i]?) : SlO e T w F v xs := by
  haveI : Inhabited (List Value) := ⟨[]⟩
  obtain ⟨f, hf⟩ := Go.Deep.choose_lt (α := List Value) (n := xs.length) (p := fun j cs => T.R w cs (xs.getD j T.d) ∧ ∀ i, i < T.n → L[j * T.n + i]? = cs[i]?) hL
  exact ⟨L, f, fun _ _ => False, row_low h (Nat.zero_le _), hF, fun j hj => ⟨(hf j hj).2, hfl.1 (hf j hj).1, fun b hb => False.elim hb⟩, fun i j _ _ _ b hb => False.elim hb⟩
theorem run_append_flat {α : Type} {T : Ty α} (A : T.Law) (hfl : Flat T) {e t : TypeId} {z : Value} (I : ElemInfo T e z) (ht : Try.prog.underlying t = some (.slice e)) (hz : z.cells.size = T.n)
    {w : World} {F0 F : Nat → Prop} {v u : Value} {xs ys : List α} (ty : TypeId) (hown : SlO e T w F0 v xs) (hu : SlR T w u ys) (h0 : ∀ b, F0 b → F b) (hf : F w.heap.size) (h63 : xs.length + ys.length ≤ 2097152) :
    ∃ v' w', (Builtin.append_ #[t, t] ty #[v, u]).run Try.prog w = .ok v' w' ∧ SlO e T w' F v' (xs ++ ys) ∧ w.grownBy w' v.ownBlock := by
  obtain ⟨i0, hi, hz0, hz1, hz2⟩ := I
  have hpos := A.pos
  by_cases hp : 0 < ys.length
  · obtain ⟨a', cap', rfl⟩ := slR_len hu
    rcases hu with ⟨rfl, _⟩ | hu'
    · simp at hp
    · have hu : SlR T w (.slice a' ys.length cap') ys := Or.inr hu'
      obtain ⟨b, off, cap2, us, hv, _⟩ := hu'
      simp only [Value.slice.injEq] at hv
      obtain ⟨rfl, _, rfl⟩ := hv
      obtain ⟨_, hbl, N, hN, hNc, hNr⟩ := slR_cells A hu hp
      obtain ⟨L, us2, Fs, g1, g2, g3, g4⟩ := hown
      have hb : (xs.length + ys.length) * i0.bytes ≤ 2097152 * 512 := Nat.mul_le_mul h63 hz2
      obtain ⟨v', w', hr, k1, k2, _, k4⟩ := run_append_own_at (P := Try.prog) w 0 t ty e i0 z T.n i0.bytes ht hi hz0 hz1 rfl hz hpos v xs.length _ g1 ⟨b, off, none⟩ ys.length cap' N hN (fun j q hj => by rw [addr_add]; exact hNc j q hj) (fun q hq => by
        obtain ⟨k, hk, rfl⟩ := List.getElem_of_mem hq
        have hkl : k < ys.length * T.n := by omega
        have hq : k / T.n < ys.length := (Nat.div_lt_iff_lt_mul hpos).2 hkl
        have hm : k % T.n < T.n := Nat.mod_lt _ hpos
        obtain ⟨cs, hR, hc⟩ := hNr _ hq
        have e1 : k / T.n * T.n + k % T.n = k := by
          have := Nat.div_add_mod k T.n
          rw [Nat.mul_comm] at this; exact this
        have h5 := hc _ hm
        rw [e1, List.getElem?_eq_getElem hk, List.getElem?_eq_getElem (by rw [A.len hR]; exact hm)] at h5
        rw [Option.some.inj h5]
        exact hfl.2 hR _ (List.getElem_mem _)) (by unfold maxLen; omega) (by omega) (Nat.zero_le _)
      refine ⟨v', w', hr, ?_, k2⟩
      have hLl : L.length = xs.length * T.n := g1.1
      refine slO_flat A hfl (by rw [List.length_append]; exact k1) (fun c hc => ?_) (fun j hj => ?_)
      · rcases k4 with q | q
        · exact h0 c (g2 c (q ▸ hc))
        · rw [q] at hc; rw [← Option.some.inj hc]; exact hf
      · rw [List.length_append] at hj
        by_cases hlt : j < xs.length
        · have er : (xs ++ ys).getD j T.d = xs.getD j T.d := by simp [List.getD, List.getElem?_append_left hlt]
          obtain ⟨c1, c2, _⟩ := g3 j hlt
          refine ⟨us2 j, by rw [er]; exact A.reads (hfl.1 (w' := w') (F := F) (A.reads c2)), fun i hi => ?_⟩
          have hl2 : j * T.n + i < L.length := by
            have : (j + 1) * T.n ≤ xs.length * T.n := Nat.mul_le_mul_right _ hlt
            rw [Nat.add_mul, Nat.one_mul] at this; omega
          rw [List.getElem?_append_left hl2]
          exact c1 i hi
        · obtain ⟨m, rfl⟩ : ∃ m, j = xs.length + m := ⟨j - xs.length, by omega⟩
          have hm : m < ys.length := by omega
          have er : (xs ++ ys).getD (xs.length + m) T.d = ys.getD m T.d := by simp [List.getD, List.getElem?_append_right]
          obtain ⟨cs, hR, hc⟩ := hNr m hm
          refine ⟨cs, by rw [er]; exact A.reads (hfl.1 (w' := w') (F := F) hR), fun i hi => ?_⟩
          have e1 : (xs.length + m) * T.n + i = L.length + (m * T.n + i) := by rw [hLl, Nat.add_mul]; omega
          rw [e1, List.getElem?_append_right (by omega), Nat.add_sub_cancel_left]
          exact hc i hi
  · have hy : ys = [] := List.eq_nil_of_length_eq_zero (by omega)
    subst hy
    obtain ⟨a', cap', rfl⟩ := slR_len hu
    have hs : Src Try.prog i0.size t (.slice a' 0 cap') 0 [] w := by
      cases a' with
      | none => exact Src.ofNil w ht cap'
      | some ad => exact Src.ofSlice w ht ad 0 cap' [] (by simp) (by simp) (by simp)
    obtain ⟨a, cap, hv, hle⟩ : ∃ a cap, v = .slice a xs.length cap ∧ xs.length ≤ cap := by
      obtain ⟨L, us2, Fs, g1, _⟩ := hown
      rcases g1.2 with ⟨rfl, q⟩ | ⟨g, cap, cur, rfl, _, _, hn, _⟩
      · exact ⟨none, 0, by rw [q], by omega⟩
      · exact ⟨_, cap, rfl, hn⟩
    subst hv
    exact ⟨_, _, run_append_nothing w t t ty e i0 ht hi a xs.length cap hle _ hs, by rw [List.append_nil]; exact slO_mono hown h0, World.grownBy.refl _ _⟩
theorem append_flat {α : Type} {T : Ty α} (A : T.Law) (hfl : Flat T) {e t : TypeId} {z : Value} (I : ElemInfo T e z) (ht : Try.prog.underlying t = some (.slice e)) (hz : z.cells.size = T.n)
    {w : World} {ops : Array Oper} {rest : List Oper} {o : Oper} {a : Act} {Q : Exit → Act → World → Prop} (hgd : o.guard = none) (s x : Operand)
    (ho : o.op = .call { callee := .builtin .append, args := #[s, x], argTypes := #[t, t] })
    (F0 F : Nat → Prop) (v u : Value) (xs ys : List α) (hs : a.eval s = v) (hx : a.eval x = u) (hown : SlO e T w F0 v xs) (hu : SlR T w u ys) (h0 : ∀ b, F0 b → F b) (hf : F w.heap.size) (h63 : xs.length + ys.length ≤ 2097152)
    (h : ∀ v' w', SlO e T w' F v' (xs ++ ys) → Turn F0 w w' → wpList Try.prog ops Q rest (a.put o.dst v') w') : wpList Try.prog ops Q (o :: rest) a w := by
  refine wpList_plain hgd fun K hK => ?_
  have hblk : ∀ b, v.ownBlock = some b → F0 b := by obtain ⟨L, us2, Fs, g1, g2, _⟩ := hown; exact g2
  obtain ⟨v', w', hr, h2, h3⟩ := run_append_flat A hfl I ht hz o.type hown hu h0 hf h63
  unfold Oper.wp execOp
  simp only [ho, resolve, invoke, builtin, Sem.run_bind, Sem.run_pure, Result.andThen_ok, List.map_toArray, List.map_cons, List.map_nil, hs, hx, hr]
  exact hK _ _ (h v' w' h2 (turn_grown h3 hblk))
/-- 'T{}' as a slice: no element yet. -/
theorem slO_empty {α : Type} {T : Ty α} (w : World) (e : TypeId) (F : Nat → Prop) (h : F w.heap.size) : SlO e T (w.alloc (.cells #[] e)) F (.slice (some ⟨w.heap.size, 0, none⟩) 0 0) [] := by
  refine ⟨[], fun _ => [], fun _ _ => False, ?_, fun b hb => ?_, fun j hj => by simp at hj, fun i j hi => by simp at hi⟩
  · have := World.ownsRow_made (base := 0) (e := e) (size := T.n) w #[] 0 (Nat.zero_le _) (by unfold maxLen; omega) (by simp)
    exact this
  · simp [Value.ownBlock] at hb; rw [← hb]; exact h
end Go.Proofs.Ytdhglmoanpkeoaa
namespace Go.Proofs.Ytdhglmoanpkeoaa
open Go.RowKit
set_option linter.unusedVariables false
set_option linter.unusedSimpArgs false
/-- Cells as they are: n of them. -/
def tRaw (n : Nat) : Ty (List Value) := { n := n, d := [], R := fun _ cs x => cs = x ∧ cs.length = n ∧ ∀ u ∈ cs, u.oneCell' = true, O := fun _ _ cs x => cs = x ∧ cs.length = n ∧ ∀ u ∈ cs, u.oneCell' = true, sz := fun _ => 0, nd := fun _ => 0, nv := fun _ => 0, md := fun x _ => x, mv := fun x _ => x, ok := fun _ => True, s := 0 }
theorem tRaw_law {n : Nat} (h : 0 < n) : (tRaw n).Law := ⟨h, fun h => h.2.1, fun h _ => h, fun h => h, fun h _ _ => h, fun h _ => h, fun h => h, fun x => Nat.le_refl _, fun x => Nat.le_refl _⟩
theorem flat_raw (n : Nat) : Flat (tRaw n) := ⟨fun h => h, fun h => h.2.2⟩
/-- Each cell of an element holds one value. -/
def OneC {α : Type} (T : Ty α) : Prop := ∀ {w : World} {cs : List Value} {x : α}, T.R w cs x → ∀ u ∈ cs, u.oneCell' = true
/-- What the cells read as. -/
def Sh {α : Type} (T : Ty α) (w : World) (L : List (List Value)) (xs : List α) : Prop := L.length = xs.length ∧ ∀ j, j < xs.length → T.R w (L.getD j []) (xs.getD j T.d)
section
variable {α : Type} {T : Ty α}
theorem sh_nil (w : World) : Sh T w [] [] := ⟨rfl, fun j hj => by simp at hj⟩
theorem sh_len {w : World} {L : List (List Value)} {xs : List α} (h : Sh T w L xs) : L.length = xs.length := h.1
theorem sh_below (A : T.Law) {W w : World} {L : List (List Value)} {xs : List α} (h : Sh T W L xs) (hb : Below W.heap.size W w) : Sh T w L xs := ⟨h.1, fun j hj => A.below (h.2 j hj) hb⟩
theorem sh_app {w : World} {L M : List (List Value)} {xs ys : List α} (h : Sh T w L xs) (g : Sh T w M ys) : Sh T w (L ++ M) (xs ++ ys) := by
  refine ⟨by rw [List.length_append, List.length_append, h.1, g.1], fun j hj => ?_⟩
  rw [List.length_append] at hj
  by_cases hlt : j < xs.length
  · have e1 : (xs ++ ys).getD j T.d = xs.getD j T.d := by simp [List.getD, List.getElem?_append_left hlt]
    have e2 : (L ++ M).getD j [] = L.getD j [] := by simp only [List.getD]; rw [List.getElem?_append_left (by rw [h.1]; exact hlt)]
    rw [e1, e2]; exact h.2 j hlt
  · have e1 : (xs ++ ys).getD j T.d = ys.getD (j - xs.length) T.d := by simp [List.getD, List.getElem?_append_right (show xs.length ≤ j by omega)]
    have e2 : (L ++ M).getD j [] = M.getD (j - xs.length) [] := by simp only [List.getD]; rw [List.getElem?_append_right (by rw [h.1]; omega), h.1]
    rw [e1, e2]; exact g.2 _ (by omega)
theorem sh_one {w : World} {cs : List Value} {x : α} (h : T.R w cs x) : Sh T w [cs] [x] := ⟨rfl, fun j hj => by
  obtain rfl : j = 0 := by simpa using hj
  exact h⟩
/-- A slice that is read, as cells. -/
theorem slR_raw (A : T.Law) (O : OneC T) {w : World} {v : Value} {xs : List α} (h : SlR T w v xs) : ∃ L, SlR (tRaw T.n) w v L ∧ Sh T w L xs := by
  rcases h with ⟨rfl, a, cap, rfl⟩ | ⟨b, off, cap, us, rfl, h2, h3, h4⟩
  · exact ⟨[], Or.inl ⟨rfl, a, cap, rfl⟩, sh_nil w⟩
  · have hl : ((List.range xs.length).map us).length = xs.length := by simp
    have hg : ∀ j, j < xs.length → ((List.range xs.length).map us).getD j [] = us j := fun j hj => by simp [List.getD, hj]
    refine ⟨(List.range xs.length).map us, Or.inr ⟨b, off, cap, us, by rw [hl], by rw [hl]; exact h2, h3, fun j hj => ?_⟩, hl, fun j hj => by rw [hg j hj]; exact (h4 j hj).2⟩
    rw [hl] at hj
    refine ⟨(h4 j hj).1, ?_⟩
    show us j = ((List.range xs.length).map us).getD j [] ∧ _
    rw [hg j hj]
    exact ⟨rfl, A.len (h4 j hj).2, O (h4 j hj).2⟩
theorem raw_slR {w : World} {v : Value} {L : List (List Value)} {xs : List α} (h : SlR (tRaw T.n) w v L) (g : Sh T w L xs) : SlR T w v xs := by
  rcases h with ⟨rfl, a, cap, rfl⟩ | ⟨b, off, cap, us, rfl, h2, h3, h4⟩
  · have : xs = [] := List.eq_nil_of_length_eq_zero (by rw [← g.1]; rfl)
    subst this
    exact Or.inl ⟨rfl, a, cap, rfl⟩
  · rw [g.1] at h2 h4
    refine Or.inr ⟨b, off, cap, us, by rw [g.1], h2, h3, fun j hj => ⟨(h4 j hj).1, ?_⟩⟩
    have e : us j = L.getD j [] := (h4 j hj).2.1
    rw [e]
    exact g.2 j hj
/-- What is owned raw and read as elements that were there, stays while the rest of the memory stays. -/
theorem raw_reads (hn : 0 < T.n) {e : TypeId} {w : World} {F : Nat → Prop} {v : Value} {L : List (List Value)} {xs : List α} (h : SlO e (tRaw T.n) w F v L) (g : Sh T w L xs) : SlR T w v xs := raw_slR (slO_reads (tRaw_law hn) h) g
end
end Go.Proofs.Ytdhglmoanpkeoaa
namespace Go.Proofs.Ytdhglmoanpkeoaa
open Go.RowKit
set_option linter.unusedVariables false
set_option linter.unusedSimpArgs false
theorem verR_at {w : World} {v : Value} {l : List VerD} (h : SlR tVersion w v l) {k : Nat} (hk : k < l.length) :
    ∃ (b off cap : Nat) (a : Option Addr) (c : Nat), v = .slice (some ⟨b, off, none⟩) l.length cap ∧ b < w.heap.size ∧
      w.cell? ⟨b, off + k * 4, none⟩ = some (.int .i64 (l.getD k v0D).1) ∧ w.cell? ⟨b, off + k * 4 + 1, none⟩ = some (.slice a (l.getD k v0D).2.1.length c) ∧
      w.cell? ⟨b, off + k * 4 + 2, none⟩ = some (.int .i64 (l.getD k v0D).2.2.1) ∧ w.cell? ⟨b, off + k * 4 + 3, none⟩ = some (.int .i64 (l.getD k v0D).2.2.2) ∧
      Ints w (.slice a (l.getD k v0D).2.1.length c) (l.getD k v0D).2.1 := by
  obtain ⟨b, off, cap, cs, hv, hb, hc, hR⟩ := slR_at h hk
  change tVersion.R w cs (l.getD k v0D) at hR
  generalize l.getD k v0D = r at *
  obtain ⟨i, xs, bo, di⟩ := r
  obtain ⟨v1, rfl, h1⟩ := tVersion_R hR
  obtain ⟨a, c, rfl⟩ := slR_len h1
  exact ⟨b, off, cap, a, c, hv, hb, hc 0 (by decide), hc 1 (by decide), hc 2 (by decide), hc 3 (by decide), slR_ints h1⟩
theorem one_Version : OneC tVersion := fun {w cs x} h u hu => by
  obtain ⟨i, xs, bo, di⟩ := x
  obtain ⟨v1, rfl, h1⟩ := tVersion_R h
  obtain ⟨a, c, rfl⟩ := slR_len h1
  simp at hu
  rcases hu with rfl | rfl | rfl | rfl <;> rfl
theorem info_T_Version : ElemInfo tVersion 115 (.agg #[.int .i64 0, .slice none 0 0, .int .i64 0, .int .i64 0]) := elemInfo_of (by kernel_rfl)
theorem info_R_Version : ElemInfo (tRaw 4) 115 (.agg #[.int .i64 0, .slice none 0 0, .int .i64 0, .int .i64 0]) := elemInfo_of (by kernel_rfl)
theorem zL_sum {α : Type} (T : Ty α) (xs : List α) : zL T xs = xs.length + (xs.map T.sz).sum := by unfold zL zTo sumN; rw [List.take_length]
theorem ver_sz (v : VerD) : tVersion.sz v = v.2.1.length := by
  obtain ⟨i, xs, bo, di⟩ := v
  rw [tVersion_sz, zL_ints]
theorem zL_all (ss : List (List VerD)) : ss.length + zL tVersion ss.flatten = zL tVersionS ss := by
  rw [zL_sum tVersionS, zL_sum tVersion]
  congr 1
  induction ss with
  | nil => rfl
  | cons s ss ih =>
    rw [List.flatten_cons, List.length_append, List.map_append, List.sum_append, List.map_cons, List.sum_cons, ← ih]
    have e : tVersionS.sz s = s.length + (s.map tVersion.sz).sum := zL_sum tVersion s
    rw [e]; omega
theorem zL_seg {ss : List (List VerD)} {k : Nat} (hk : k < ss.length) : zL tVersion (ss.getD k []) ≤ zL tVersionS ss := zL_at (T := tVersionS) (Nat.le_refl _) hk
theorem ver_len {l : List VerD} (hs : zL tVersion l ≤ 1048576) {k : Nat} (hk : k < l.length) : (l.getD k v0D).2.1.length ≤ 1048576 := by
  have := zL_at (T := tVersion) hs hk
  rw [ver_sz] at this
  exact this
end Go.Proofs.Ytdhglmoanpkeoaa
namespace Go.Proofs.Ytdhglmoanpkeoaa
open Go.RowKit
set_option linter.unusedVariables false
set_option linter.unusedSimpArgs false
set_option maxHeartbeats 8000000 in
set_option maxRecDepth 100000 in
theorem specVersion (id born died now : Int) (vv : Value) (xs : List Int) (w : World) (h : Ints w vv xs) (hn : xs.length ≤ 1048576) (hw : now ≤ 100000) :
    Calls Try.prog 80 #[.agg #[.int .i64 id, vv, .int .i64 born, .int .i64 died], .int .i64 now] w fun e w' => e = .returned (.bool (verB (id, xs, born, died) now)) ∧ Below w.heap.size w w' := by
  have HR := Lib.hid (fun W g => specIsRow id vv xs W g hn)
  have H := Lib.hid h
  clear hn
  obtain ⟨va, vc, rfl⟩ := ints_len h
  have d0 := Lib.hid (show Below w.heap.size w (w.alloc (.cells #[.int .i64 id, .slice va xs.length vc, .int .i64 born, .int .i64 died] 115)) from (Below.refl _ _).alloc (Nat.le_refl _) _)
  have B0 : Hid ((w.alloc (.cells #[.int .i64 id, .slice va xs.length vc, .int .i64 born, .int .i64 died] 115)).heap[w.heap.size]? = some (.cells #[.int .i64 id, .slice va xs.length vc, .int .i64 born, .int .i64 died] 115 (0, 0))) := Lib.hid (heap_alloc_new w _)
  have Y0 : Hid (w.heap.size < (w.alloc (.cells #[.int .i64 id, .slice va xs.length vc, .int .i64 born, .int .i64 died] 115)).heap.size) := Lib.hid (by simp [World.size_alloc])
  have HV : Hid (∀ r l, rowB (id, xs) = r → decide (lifeP born died now) = l → verB (id, xs, born, died) now = (r && l)) := Lib.hid (fun r l h1 h2 => by unfold verB; rw [h1]; show (r && decide (lifeP born died now)) = _; rw [h2])
  clear h
  cases hr : rowB (id, xs) with
  | false =>
    rw [hr] at HR
    rw [HV.out _ _ hr rfl, Bool.false_and]
    clear hr HV
    go_enter Try.func80, Try.ntmps80
    go_wp2_with fail
    generalize w.alloc (.cells #[.int .i64 id, .slice va xs.length vc, .int .i64 born, .int .i64 died] 115) = W at *
    refine (HR.out W (ints_below H.out d0.out)).mono ?_
    rintro e w1 ⟨rfl, b1⟩
    have k0 := (b1.block w.heap.size Y0.out).trans B0.out
    have b2 := d0.out.trans (b1.mono d0.out.size)
    go_wp2
    go_ret
    exact ⟨rfl, b2⟩
  | true =>
    rw [hr] at HR
    have HV2 := Lib.hid (fun l => HV.out _ l hr)
    clear hr HV
    by_cases h1 : 0 ≤ born ∧ born ≤ now
    · obtain ⟨h1a, h1b⟩ := h1
      by_cases h2 : died = -1
      · have hl : decide (lifeP born died now) = true := decide_eq_true ⟨h1a, h1b, Or.inl h2⟩
        rw [HV2.out _ hl]
        have e2 : (died == -1) = true := by simp [h2]
        clear hl h2
        go_enter Try.func80, Try.ntmps80
        go_wp2_with fail
        generalize w.alloc (.cells #[.int .i64 id, .slice va xs.length vc, .int .i64 born, .int .i64 died] 115) = W at *
        refine (HR.out W (ints_below H.out d0.out)).mono ?_
        rintro e w1 ⟨rfl, b1⟩
        have k0 := (b1.block w.heap.size Y0.out).trans B0.out
        have b2 := d0.out.trans (b1.mono d0.out.size)
        have p0 := (cell_of_row w1 _ 0 _ _ _ k0).trans (show _ = some (Value.int .i64 id) from rfl)
        have p1 := (cell_of_row w1 _ 1 _ _ _ k0).trans (show _ = some (Value.slice va xs.length vc) from rfl)
        have p2 := (cell_of_row w1 _ 2 _ _ _ k0).trans (show _ = some (Value.int .i64 born) from rfl)
        have p3 := (cell_of_row w1 _ 3 _ _ _ k0).trans (show _ = some (Value.int .i64 died) from rfl)
        clear k0
        go_wp2_with fail
        refine (in_yes born 0 now _ h1a h1b).mono ?_
        rintro e wx ⟨rfl, rfl⟩
        go_wp2
        go_ret
        exact ⟨rfl, b2⟩
      · have e2 : (died == -1) = false := by simp [h2]
        by_cases h3 : born + 1 ≤ died ∧ died ≤ now
        · have hl : decide (lifeP born died now) = true := decide_eq_true ⟨h1a, h1b, Or.inr ⟨by omega, h3.2⟩⟩
          rw [HV2.out _ hl]
          have H3 := Lib.hid h3
          clear hl h2 h3
          go_enter Try.func80, Try.ntmps80
          go_wp2_with fail
          generalize w.alloc (.cells #[.int .i64 id, .slice va xs.length vc, .int .i64 born, .int .i64 died] 115) = W at *
          refine (HR.out W (ints_below H.out d0.out)).mono ?_
          rintro e w1 ⟨rfl, b1⟩
          have k0 := (b1.block w.heap.size Y0.out).trans B0.out
          have b2 := d0.out.trans (b1.mono d0.out.size)
          have p0 := (cell_of_row w1 _ 0 _ _ _ k0).trans (show _ = some (Value.int .i64 id) from rfl)
          have p1 := (cell_of_row w1 _ 1 _ _ _ k0).trans (show _ = some (Value.slice va xs.length vc) from rfl)
          have p2 := (cell_of_row w1 _ 2 _ _ _ k0).trans (show _ = some (Value.int .i64 born) from rfl)
          have p3 := (cell_of_row w1 _ 3 _ _ _ k0).trans (show _ = some (Value.int .i64 died) from rfl)
          clear k0
          go_wp2_with fail
          refine (in_yes born 0 now _ h1a h1b).mono ?_
          rintro e wx ⟨rfl, rfl⟩
          go_wp2_with fail
          refine (in_yes died (born + 1) now _ H3.out.1 H3.out.2).mono ?_
          rintro e wx ⟨rfl, rfl⟩
          go_wp2
          go_ret
          exact ⟨rfl, b2⟩
        · have hl : decide (lifeP born died now) = false := decide_eq_false (fun g => by unfold lifeP at g; omega)
          rw [HV2.out _ hl]
          have H3 := Lib.hid h3
          clear hl h2 h3
          go_enter Try.func80, Try.ntmps80
          go_wp2_with fail
          generalize w.alloc (.cells #[.int .i64 id, .slice va xs.length vc, .int .i64 born, .int .i64 died] 115) = W at *
          refine (HR.out W (ints_below H.out d0.out)).mono ?_
          rintro e w1 ⟨rfl, b1⟩
          have k0 := (b1.block w.heap.size Y0.out).trans B0.out
          have b2 := d0.out.trans (b1.mono d0.out.size)
          have p0 := (cell_of_row w1 _ 0 _ _ _ k0).trans (show _ = some (Value.int .i64 id) from rfl)
          have p1 := (cell_of_row w1 _ 1 _ _ _ k0).trans (show _ = some (Value.slice va xs.length vc) from rfl)
          have p2 := (cell_of_row w1 _ 2 _ _ _ k0).trans (show _ = some (Value.int .i64 born) from rfl)
          have p3 := (cell_of_row w1 _ 3 _ _ _ k0).trans (show _ = some (Value.int .i64 died) from rfl)
          clear k0
          go_wp2_with fail
          refine (in_yes born 0 now _ h1a h1b).mono ?_
          rintro e wx ⟨rfl, rfl⟩
          go_wp2_with fail
          refine (in_no died (born + 1) now _ H3.out).mono ?_
          rintro e wx ⟨rfl, rfl⟩
          go_wp2
          go_ret
          exact ⟨rfl, b2⟩
    · have hl : decide (lifeP born died now) = false := decide_eq_false (fun g => h1 ⟨g.1, g.2.1⟩)
      rw [HV2.out _ hl]
      have H1 := Lib.hid h1
      clear hl h1
      go_enter Try.func80, Try.ntmps80
      go_wp2_with fail
      generalize w.alloc (.cells #[.int .i64 id, .slice va xs.length vc, .int .i64 born, .int .i64 died] 115) = W at *
      refine (HR.out W (ints_below H.out d0.out)).mono ?_
      rintro e w1 ⟨rfl, b1⟩
      have k0 := (b1.block w.heap.size Y0.out).trans B0.out
      have b2 := d0.out.trans (b1.mono d0.out.size)
      have p0 := (cell_of_row w1 _ 0 _ _ _ k0).trans (show _ = some (Value.int .i64 id) from rfl)
      have p1 := (cell_of_row w1 _ 1 _ _ _ k0).trans (show _ = some (Value.slice va xs.length vc) from rfl)
      have p2 := (cell_of_row w1 _ 2 _ _ _ k0).trans (show _ = some (Value.int .i64 born) from rfl)
      have p3 := (cell_of_row w1 _ 3 _ _ _ k0).trans (show _ = some (Value.int .i64 died) from rfl)
      clear k0
      go_wp2_with fail
      refine (in_no born 0 now _ H1.out).mono ?_
      rintro e wx ⟨rfl, rfl⟩
      go_wp2
      go_ret
      exact ⟨rfl, b2⟩
set_option maxHeartbeats 8000000 in
set_option maxRecDepth 100000 in
theorem specApart (i1 b1 d1 i2 b2 d2 : Int) (v1 v2 : Value) (w : World) :
    Calls Try.prog 81 #[.agg #[.int .i64 i1, v1, .int .i64 b1, .int .i64 d1], .agg #[.int .i64 i2, v2, .int .i64 b2, .int .i64 d2]] w fun e w' => e = .returned (.bool (decide (apartP i1 b1 d1 i2 b2 d2))) ∧ Below w.heap.size w w' := by
  have hb : Below w.heap.size w ((w.alloc (.cells #[.int .i64 i1, v1, .int .i64 b1, .int .i64 d1] 115)).alloc (.cells #[.int .i64 i2, v2, .int .i64 b2, .int .i64 d2] 115)) := ((Below.refl _ w).alloc (Nat.le_refl _) _).alloc (by simp) _
  by_cases q1 : i1 = i2
  · have e1 : (i1 != i2) = false := by simp [q1]
    have Q1 := Lib.hid q1
    clear q1
    by_cases q2 : d1 = -1
    · have e2 : (d1 != -1) = false := by simp [q2]
      have Q2 := Lib.hid q2
      clear q2
      by_cases q4 : d2 = -1
      · have e4 : (d2 != -1) = false := by simp [q4]
        have HD : Hid (decide (apartP i1 b1 d1 i2 b2 d2) = false) := Lib.hid (by have h1 := Q1.out; have h2 := Q2.out; exact decide_eq_false (fun g => by unfold apartP at g; omega))
        rw [HD.out]
        clear q4
        go_enter Try.func81, Try.ntmps81
        go_wp2
        go_ret
        exact ⟨ret_b (by first | rfl | simp [*]), hb⟩
      · have e4 : (d2 != -1) = true := by simp [q4]
        by_cases q5 : d2 ≤ b1
        · have q6 : d2 ≤ b1 := q5
          have HD : Hid (decide (apartP i1 b1 d1 i2 b2 d2) = true) := Lib.hid (decide_eq_true (Or.inr (Or.inr ⟨q4, q5⟩)))
          rw [HD.out]
          clear q4
          go_enter Try.func81, Try.ntmps81
          go_wp2
          go_ret
          exact ⟨ret_b (by first | rfl | simp [*]), hb⟩
        · have e5 : decide (d2 ≤ b1) = false := decide_eq_false q5
          have HD : Hid (decide (apartP i1 b1 d1 i2 b2 d2) = false) := Lib.hid (by have h1 := Q1.out; have h2 := Q2.out; exact decide_eq_false (fun g => by unfold apartP at g; omega))
          rw [HD.out]
          clear q4
          go_enter Try.func81, Try.ntmps81
          go_wp2
          go_ret
          exact ⟨ret_b (by first | rfl | simp [*]), hb⟩
    · have e2 : (d1 != -1) = true := by simp [q2]
      have Q2 := Lib.hid q2
      clear q2
      by_cases q3 : d1 ≤ b2
      · have q6 : d1 ≤ b2 := q3
        have HD : Hid (decide (apartP i1 b1 d1 i2 b2 d2) = true) := Lib.hid (decide_eq_true (Or.inr (Or.inl ⟨Q2.out, q3⟩)))
        rw [HD.out]
        go_enter Try.func81, Try.ntmps81
        go_wp2
        go_ret
        exact ⟨ret_b (by first | rfl | simp [*]), hb⟩
      · have e3 : decide (d1 ≤ b2) = false := decide_eq_false q3
        have Q3 := Lib.hid q3
        by_cases q4 : d2 = -1
        · have e4 : (d2 != -1) = false := by simp [q4]
          have HD : Hid (decide (apartP i1 b1 d1 i2 b2 d2) = false) := Lib.hid (by have h1 := Q1.out; have h2 := Q2.out; have h3 := Q3.out; exact decide_eq_false (fun g => by unfold apartP at g; omega))
          rw [HD.out]
          clear q4
          go_enter Try.func81, Try.ntmps81
          go_wp2
          go_ret
          exact ⟨ret_b (by first | rfl | simp [*]), hb⟩
        · have e4 : (d2 != -1) = true := by simp [q4]
          by_cases q5 : d2 ≤ b1
          · have q6 : d2 ≤ b1 := q5
            have HD : Hid (decide (apartP i1 b1 d1 i2 b2 d2) = true) := Lib.hid (decide_eq_true (Or.inr (Or.inr ⟨q4, q5⟩)))
            rw [HD.out]
            clear q4
            go_enter Try.func81, Try.ntmps81
            go_wp2
            go_ret
            exact ⟨ret_b (by first | rfl | simp [*]), hb⟩
          · have e5 : decide (d2 ≤ b1) = false := decide_eq_false q5
            have HD : Hid (decide (apartP i1 b1 d1 i2 b2 d2) = false) := Lib.hid (by have h1 := Q1.out; have h2 := Q2.out; have h3 := Q3.out; exact decide_eq_false (fun g => by unfold apartP at g; omega))
            rw [HD.out]
            clear q4
            go_enter Try.func81, Try.ntmps81
            go_wp2
            go_ret
            exact ⟨ret_b (by first | rfl | simp [*]), hb⟩
  · have e1 : (i1 != i2) = true := by simp [q1]
    have HD : Hid (decide (apartP i1 b1 d1 i2 b2 d2) = true) := Lib.hid (decide_eq_true (Or.inl q1))
    rw [HD.out]
    clear q1
    go_enter Try.func81, Try.ntmps81
    go_wp2
    go_ret
    exact ⟨ret_b (by first | rfl | simp [*]), hb⟩
/-- The answer: a slice of the call's own whose cells read as these versions. -/
def AllV (w : World) (l : List VerD) (e : Ending) (w' : World) : Prop := ∃ (v : Value) (L : List (List Value)), e = .returned v ∧ SlO 115 (tRaw 4) w' (since w) v L ∧ Sh tVersion w L l ∧ Below w.heap.size w w'
set_option maxHeartbeats 8000000 in
set_option maxRecDepth 100000 in
theorem specL7All (sv : Value) (ss : List (List VerD)) (now : Int) (w : World) (h : SlR tVersionS w sv ss) (hs : zL tVersionS ss ≤ 1048576) :
    Calls Try.prog 79 #[.agg #[sv, .int .i64 now]] w (AllV w ss.flatten) := by
  have H := Lib.hid h
  have HS := Lib.hid hs
  have hlen := zL_len hs
  have HF : Hid (ss.flatten.length ≤ 1048576) := Lib.hid (by have h1 := zL_all ss; have h2 := zL_len (T := tVersion) (xs := ss.flatten) (M := 1048576) (by omega); omega)
  obtain ⟨a, cap, rfl⟩ := slR_len h
  clear h hs
  have d0 := Lib.hid (show Below w.heap.size w ((w.alloc (.cells #[.slice a ss.length cap, .int .i64 now] 30)).alloc (.cells #[] 115)) from ((Below.refl _ _).alloc (Nat.le_refl _) _).alloc (by simp) _)
  have B0 : Hid (((w.alloc (.cells #[.slice a ss.length cap, .int .i64 now] 30)).alloc (.cells #[] 115)).heap[w.heap.size]? = some (.cells #[.slice a ss.length cap, .int .i64 now] 30 (0, 0))) := Lib.hid (by rw [Below.heap_alloc _ _ _ (by simp)]; exact heap_alloc_new w _)
  have Y0 : Hid (w.heap.size < ((w.alloc (.cells #[.slice a ss.length cap, .int .i64 now] 30)).alloc (.cells #[] 115)).heap.size) := Lib.hid (by simp [World.size_alloc]; omega)
  have P0 : Hid (SlO 115 (tRaw 4) ((w.alloc (.cells #[.slice a ss.length cap, .int .i64 now] 30)).alloc (.cells #[] 115)) (fun b => w.heap.size < b) (.slice (some ⟨w.heap.size + 1, 0, none⟩) 0 0) []) := Lib.hid (by have := slO_empty (T := tRaw 4) (w.alloc (.cells #[.slice a ss.length cap, .int .i64 now] 30)) 115 (fun b => w.heap.size < b) (by simp [World.size_alloc]); simpa only [World.size_alloc] using this)
  go_enter Try.func79, Try.ntmps79
  go_wp2
  go_loopw [3, 4] (fun o i wr => ∃ (k : Nat) (L : List (List Value)), k ≤ ss.length ∧ i = .int .i64 k ∧ SlO 115 (tRaw 4) wr (fun b => w.heap.size < b) o L ∧ Hid (Sh tVersion w L (cat ss k)) ∧ wr.heap[w.heap.size]? = some (.cells #[.slice a ss.length cap, .int .i64 now] 30 (0, 0)) ∧ Below w.heap.size w wr ∧ w.heap.size < wr.heap.size) (fun _ i _ => ss.length - (intOf i).toNat)
  case atStart => exact ⟨0, [], Nat.zero_le _, rfl, P0.out, Lib.hid (by rw [cat_zero]; exact sh_nil w), B0.out, d0.out, Y0.out⟩
  case round =>
    obtain ⟨k, L, hk, rfl, hown, hsh, hbox, hbel, hy⟩ := hrel
    clear d0 B0 Y0 P0
    obtain ⟨oa, oc, rfl⟩ := slO_len hown
    have c0 := (cell_of_row wr _ 0 _ _ _ hbox).trans (show _ = some (Value.slice a ss.length cap) from rfl)
    by_cases hlt : k < ss.length
    · obtain ⟨b, off, cap2, cs, hv, hbl, hcs, hR⟩ := slR_at H.out hlt
      simp only [Value.slice.injEq] at hv
      obtain ⟨rfl, _, rfl⟩ := hv
      obtain ⟨u, rfl, hU⟩ := hR
      have p0 : w.cell? ⟨b, off + k, none⟩ = some u := by have := hcs 0 Nat.one_pos; rw [show tVersionS.n = 1 from rfl, Nat.mul_one, Nat.add_zero] at this; exact this
      have hel := (hbel.cell (p := ⟨b, off + k, none⟩) hbl).trans p0
      obtain ⟨M, hM, hSh⟩ := slR_raw tVersion_law one_Version hU
      have HM := Lib.hid (slR_below (tRaw_law (by decide)) hM hbel)
      have HC : Hid (Sh tVersion w (L ++ M) (cat ss (k + 1))) := Lib.hid (by rw [← cat_step hlt]; exact sh_app hsh.out hSh)
      have HL : Hid (L.length + M.length ≤ 2097152) := Lib.hid (by have h1 := sh_len HC.out; have h2 := cat_le ss (k + 1); have h3 := HF.out; rw [List.length_append] at h1; omega)
      have i1 : (0 : Int) ≤ (k : Int) := by omega
      have i2 : (k : Int) < (ss.length : Int) := by omega
      obtain ⟨ua, uc, hu⟩ := slR_len hU
      have HOWN := Lib.hid hown
      have HB := Lib.hid hbox
      have HY := Lib.hid hy
      have HD := Lib.hid hbel
      have HUV : Hid (∃ m, u = .slice ua m uc) := Lib.hid ⟨_, hu⟩
      clear hcs p0 hU hM hSh hsh hown hbox hu hbel hy
      obtain ⟨m, rfl⟩ := HUV.out
      clear HUV
      go_wp2_with (at_builtin; refine append_flat (tRaw_law (by decide)) (flat_raw 4) info_R_Version Try.underlying61 rfl rfl (.tmp 13) (.tmp 18) rfl (fun b => w.heap.size < b) (fun b => w.heap.size < b) _ _ L M rfl rfl HOWN.out HM.out (fun b h => h) HY.out HL.out ?_)
      intro v' w4 ho4 t4
      have hb4 := (t4.block w.heap.size HY.out (fun h => Nat.lt_irrefl _ h)).trans HB.out
      have hy4 := Nat.lt_of_lt_of_le HY.out t4.size
      have hd4 := below_turn HD.out t4 (fun b h => Nat.le_of_lt h) (Nat.le_of_lt HY.out)
      clear HOWN HM HL HB HY HD t4 c0 hel
      go_wp2
      go_roundw
      case rel => exact ⟨k + 1, _, by omega, by go_num, ho4, HC, hb4, hd4, hy4⟩
      case measure => simp [intOf]; omega
    · obtain rfl : k = ss.length := by omega
      have HC : Hid (Sh tVersion w L ss.flatten) := Lib.hid (by rw [← cat_all]; exact hsh.out)
      clear hsh
      go_wp2
      go_ret
      exact ⟨_, L, rfl, slO_mono hown (fun b h => Nat.le_of_lt h), HC.out, hbel⟩
end Go.Proofs.Ytdhglmoanpkeoaa
namespace Go.Proofs.Ytdhglmoanpkeoaa
open Go.RowKit
set_option linter.unusedVariables false
set_option linter.unusedSimpArgs false
set_option maxHeartbeats 8000000 in
set_option maxRecDepth 100000 in
theorem specIsStore (sv : Value) (ss : List (List VerD)) (now : Int) (w : World) (h : SlR tVersionS w sv ss) (hs : zL tVersionS ss ≤ 1048576) :
    Calls Try.prog 28 #[.agg #[sv, .int .i64 now]] w (fun e w' => e = .returned (.bool (storeB ss now)) ∧ Below w.heap.size w w') := by
  have hlen := zL_len hs
  obtain ⟨a, cap, rfl⟩ := slR_len h
  have HC := Lib.hid (fun W g => specL7All (.slice a ss.length cap) ss now W g hs)
  have HZF : Hid (zL tVersion ss.flatten ≤ 1048576) := Lib.hid (by have := zL_all ss; omega)
  have H := Lib.hid h
  have HS := Lib.hid hs
  have d0 := Lib.hid (show Below w.heap.size w (w.alloc (.cells #[.slice a ss.length cap, .int .i64 now] 30)) from (Below.refl _ _).alloc (Nat.le_refl _) _)
  have B0 : Hid ((w.alloc (.cells #[.slice a ss.length cap, .int .i64 now] 30)).heap[w.heap.size]? = some (.cells #[.slice a ss.length cap, .int .i64 now] 30 (0, 0))) := Lib.hid (heap_alloc_new w _)
  have Y0 : Hid (w.heap.size < (w.alloc (.cells #[.slice a ss.length cap, .int .i64 now] 30)).heap.size) := Lib.hid (by simp [World.size_alloc])
  clear h hs
  by_cases hc : 1 ≤ ss.length ∧ ss.length ≤ 8
  rotate_left
  · have HF := Lib.hid (store_no_count (now := now) hc)
    have HI := Lib.hid (fun W => in_no (ss.length : Int) 1 8 W (by omega))
    clear hc
    rw [HF.out]
    go_enter Try.func28, Try.ntmps28
    go_wp2_with fail
    refine (HI.out _).mono ?_
    rintro e wx ⟨rfl, rfl⟩
    go_wp2
    go_ret
    exact ⟨rfl, d0.out⟩
  have HI1 := Lib.hid (fun W => in_yes (ss.length : Int) 1 8 W (by omega) (by omega))
  have HCN := Lib.hid hc
  by_cases hn : 0 ≤ now ∧ now ≤ 100000
  rotate_left
  · have HF := Lib.hid (store_no_now (ss := ss) hn)
    have HI := Lib.hid (fun W => in_no now 0 100000 W hn)
    clear hn
    rw [HF.out]
    go_enter Try.func28, Try.ntmps28
    go_wp2_with fail
    refine (HI1.out _).mono ?_
    rintro e wx ⟨rfl, rfl⟩
    go_wp2_with fail
    refine (HI.out _).mono ?_
    rintro e wx ⟨rfl, rfl⟩
    go_wp2
    go_ret
    exact ⟨rfl, d0.out⟩
  have HI2 := Lib.hid (fun W => in_yes now 0 100000 W hn.1 hn.2)
  have HNN := Lib.hid hn
  clear hc hn
  go_enter Try.func28, Try.ntmps28
  go_wp2_with fail
  refine (HI1.out _).mono ?_
  rintro e wx ⟨rfl, rfl⟩
  go_wp2_with fail
  refine (HI2.out _).mono ?_
  rintro e wx ⟨rfl, rfl⟩
  go_wp2
  generalize w.alloc (.cells #[.slice a ss.length cap, .int .i64 now] 30) = W at *
  have q0 := (cell_of_row W _ 0 _ _ _ B0.out).trans (show _ = some (Value.slice a ss.length cap) from rfl)
  have q1 := (cell_of_row W _ 1 _ _ _ B0.out).trans (show _ = some (Value.int .i64 now) from rfl)
  have G0 := Lib.hid q0
  have G1 := Lib.hid q1
  have HW := Lib.hid (slR_below tVersionS_law H.out d0.out)
  clear q0 q1 B0
  go_loopw [3] (fun i wr => ∃ k : Nat, k ≤ ss.length ∧ i = .int .i64 k ∧ Hid (ShortP ss k) ∧ Below W.heap.size W wr) (fun i _ => ss.length - (intOf i).toNat)
  case atStart => exact ⟨0, Nat.zero_le _, rfl, Lib.hid (fun j hj => by omega), Below.refl _ _⟩
  case round =>
    obtain ⟨k, hk, rfl, hsh, hbel⟩ := hrel
    have p0 := (hbel.cell (p := ⟨w.heap.size, 0, none⟩) Y0.out).trans G0.out
    have p1 := (hbel.cell (p := ⟨w.heap.size, 1, none⟩) Y0.out).trans G1.out
    by_cases hlt : k < ss.length
    · have i1 : (0 : Int) ≤ (k : Int) := by omega
      have i2 : (k : Int) < (ss.length : Int) := by omega
      obtain ⟨b, off, cap', cs, hv, hbl, hcs, hR⟩ := slR_at HW.out hlt
      simp only [Value.slice.injEq] at hv
      obtain ⟨rfl, _, rfl⟩ := hv
      obtain ⟨u, rfl, hU⟩ := hR
      change SlR tVersion W u (ss.getD k []) at hU
      have pe : W.cell? ⟨b, off + k, none⟩ = some u := by have := hcs 0 Nat.one_pos; rw [show tVersionS.n = 1 from rfl, Nat.mul_one, Nat.add_zero] at this; exact this
      have he := (hbel.cell (p := ⟨b, off + k, none⟩) hbl).trans pe
      have HNO := Lib.hid (fun g => store_no_short (ss := ss) (now := now) hlt g)
      have HYS : Hid ((ss.getD k []).length ≤ 4 → ShortP ss (k + 1)) := Lib.hid (fun g j hj => by
        by_cases e : j = k
        · rw [e]; exact g
        · exact hsh.out j (by omega))
      have HML := Lib.hid (zL_len (show zL tVersion (ss.getD k []) ≤ 1048576 from Nat.le_trans (zL_seg hlt) HS.out))
      obtain ⟨ua, uc, rfl⟩ := slR_len hU
      have HB := Lib.hid hbel
      clear hcs pe hU hsh hbel
      generalize (ss.getD k []).length = m at *
      by_cases hm : m ≤ 4
      · have HY := Lib.hid (HYS.out hm)
        have hmi : ¬ (4 : Int) < (m : Int) := by omega
        clear HYS HNO
        go_wp2
        go_roundw
        case rel => exact ⟨k + 1, by omega, by go_num, HY, HB.out⟩
        case measure => simp [intOf]; omega
      · have HF := Lib.hid (HNO.out hm)
        have hmi : (4 : Int) < (m : Int) := by omega
        clear HYS HNO
        go_wp2
        go_ret
        exact ⟨ret_b HF.out.symm, d0.out.trans (HB.out.mono d0.out.size)⟩
    · obtain rfl : k = ss.length := by omega
      have HSH := Lib.hid hsh.out
      clear hsh
      have HB := Lib.hid hbel
      clear hbel
      go_wp2_with fail
      refine (HC.out wr (slR_below tVersionS_law HW.out HB.out)).mono ?_
      rintro e w1 ⟨v, L, rfl, hown, hshv, b1⟩
      have hVR := raw_reads (T := tVersion) (by decide) hown (sh_below tVersion_law hshv b1)
      obtain ⟨va, vc, rfl⟩ := slO_len hown
      rw [sh_len hshv] at *
      have V := Lib.hid hVR
      have b2 := HB.out.trans (b1.mono HB.out.size)
      have D1 := Lib.hid (d0.out.trans (b2.mono d0.out.size))
      have CN := Lib.hid ((b2.cell (p := ⟨w.heap.size, 1, none⟩) Y0.out).trans G1.out)
      have YN := Lib.hid (Nat.lt_of_lt_of_le Y0.out b2.size)
      have HFL := Lib.hid (zL_len HZF.out)
      clear hVR hown hshv b1 b2 HB p0 p1 HW G0 G1
      have hfl := HFL.out
      obtain ⟨l, hl⟩ : ∃ l, l = ss.flatten := ⟨_, rfl⟩
      have HLL := Lib.hid hl
      rw [← hl] at V HFL hfl ⊢
      clear hl
      go_wp2
      go_loopw [5] (fun i wr => ∃ k : Nat, k ≤ l.length ∧ i = .int .i64 k ∧ Hid (VersP l now k) ∧ Below w1.heap.size w1 wr) (fun i _ => l.length - (intOf i).toNat)
      case atStart => exact ⟨0, Nat.zero_le _, rfl, Lib.hid (fun j hj => by omega), Below.refl _ _⟩
      case round =>
        obtain ⟨k, hk, rfl, hvs, hbel⟩ := hrel
        by_cases hlt : k < l.length
        · have i1 : (0 : Int) ≤ (k : Int) := by omega
          have i2 : (k : Int) < (l.length : Int) := by omega
          obtain ⟨b, off, cap', xa, xc, hv, hbl, c0, c1, c2, c3, hx⟩ := verR_at V.out hlt
          simp only [Value.slice.injEq] at hv
          obtain ⟨rfl, _, rfl⟩ := hv
          have HXL := Lib.hid (ver_len (by rw [HLL.out]; exact HZF.out) hlt)
          have HNV : Hid (verB (l.getD k v0D) now = false → storeB ss now = false) := Lib.hid (fun g => store_no_ver (i := k) (by rw [← HLL.out]; exact hlt) (by rw [← HLL.out]; exact g))
          have HNA : Hid (∀ j, j < k → apartB (l.getD k v0D) (l.getD j v0D) = false → storeB ss now = false) := Lib.hid (fun j hj g => store_no_apart (i := k) (k := j) (by rw [← HLL.out]; exact hlt) hj (by rw [← HLL.out]; exact g))
          have HST : Hid (verB (l.getD k v0D) now = true → (∀ j, j < k → apartB (l.getD k v0D) (l.getD j v0D) = true) → VersP l now (k + 1)) := Lib.hid (fun g1 g2 => vers_step hvs.out g1 g2)
          have HRX : Hid (Ints w1 (.slice xa (l.getD k v0D).2.1.length xc) (l.getD k v0D).2.1) := Lib.hid hx
          obtain ⟨x, hxe⟩ : ∃ x, x = l.getD k v0D := ⟨_, rfl⟩
          rw [← hxe] at HXL HNV HNA HST HRX c0 c1 c2 c3
          obtain ⟨id, xs, born, died⟩ := x
          simp only at c0 c1 c2 c3
          have C0 := Lib.hid c0
          have C1 := Lib.hid c1
          have C2 := Lib.hid c2
          have C3 := Lib.hid c3
          have HBL := Lib.hid hbl
          have d := Lib.hid hbel
          clear hx hxe c0 c1 c2 c3 hbl hbel hvs
          cases hver : verB (id, xs, born, died) now with
          | false =>
            have HF := Lib.hid (HNV.out hver)
            have HCV := Lib.hid (fun W g => hver ▸ specVersion id born died now (.slice xa xs.length xc) xs W g HXL.out HNN.out.2)
            clear hver HNV HNA HST
            go_wp2
            have p_C0 := (d.out.cell (p := ⟨b, off + k * 4, none⟩) HBL.out).trans C0.out
            have p_C1 := (d.out.cell (p := ⟨b, off + k * 4 + 1, none⟩) HBL.out).trans C1.out
            have p_C2 := (d.out.cell (p := ⟨b, off + k * 4 + 2, none⟩) HBL.out).trans C2.out
            have p_C3 := (d.out.cell (p := ⟨b, off + k * 4 + 3, none⟩) HBL.out).trans C3.out
            have p_CN := (d.out.cell (p := ⟨w.heap.size, 1, none⟩) YN.out).trans CN.out
            refine wp_region_held_drew (S := fun w' => w'.cell? ⟨b, off + k * 4, none⟩ = some (Value.int .i64 id) ∧ w'.cell? ⟨b, off + k * 4 + 1, none⟩ = some (Value.slice xa xs.length xc) ∧ w'.cell? ⟨b, off + k * 4 + 2, none⟩ = some (Value.int .i64 born) ∧ w'.cell? ⟨b, off + k * 4 + 3, none⟩ = some (Value.int .i64 died) ∧ w'.cell? ⟨w.heap.size, 1, none⟩ = some (.int .i64 now)) (by kernel_rfl) ⟨p_C0, p_C1, p_C2, p_C3, p_CN⟩ (fun hHeld => ?_)
            clear p_C0 p_C1 p_C2 p_C3 p_CN
            have cdr : Below wr.heap.size wr wr.drew := below_drew (Below.refl _ _)
            replace d := Lib.hid (d.out.trans (cdr.mono d.out.size))
            clear cdr
            refine take_runs (i := 0) (v := ?_) (by simp only [List.getElem?_toArray, List.getElem?_cons_succ, List.getElem?_cons_zero]; rfl) (by kernel_rfl) (by kernel_rfl) (by kernel_rfl) rfl (by exact fun _ _ _ h => h) (by rfl) ?_ (by assumption) ?_
            rotate_left
            · intro w hSw; (try dsimp only at hSw); go_simp; try (with_reducible rfl)
            try simp only [Act.put, List.setIfInBounds_toArray, List.set_cons_zero, List.set_cons_succ]
            refine take_runs (i := 1) (v := ?_) (by simp only [List.getElem?_toArray, List.getElem?_cons_succ, List.getElem?_cons_zero]; rfl) (by kernel_rfl) (by kernel_rfl) (by kernel_rfl) rfl (by exact fun _ _ _ h => h) (by rfl) ?_ (by assumption) ?_
            rotate_left
            · intro w hSw; (try dsimp only at hSw); go_simp; try (with_reducible rfl)
            try simp only [Act.put, List.setIfInBounds_toArray, List.set_cons_zero, List.set_cons_succ]
            refine take_runs (i := 2) (v := ?_) (by simp only [List.getElem?_toArray, List.getElem?_cons_succ, List.getElem?_cons_zero]; rfl) (by kernel_rfl) (by kernel_rfl) (by kernel_rfl) rfl (by exact fun _ _ _ h => h) (by rfl) ?_ (by assumption) ?_
            rotate_left
            · intro w hSw; (try dsimp only at hSw); go_simp; try (with_reducible rfl)
            try simp only [Act.put, List.setIfInBounds_toArray, List.set_cons_zero, List.set_cons_succ]
            refine take_runs (i := 3) (v := ?_) (by simp only [List.getElem?_toArray, List.getElem?_cons_succ, List.getElem?_cons_zero]; rfl) (by kernel_rfl) (by kernel_rfl) (by kernel_rfl) rfl (by exact fun _ _ _ h => h) (by rfl) ?_ (by assumption) ?_
            rotate_left
            · intro w hSw; (try dsimp only at hSw); go_simp; try (with_reducible rfl)
            try simp only [Act.put, List.setIfInBounds_toArray, List.set_cons_zero, List.set_cons_succ]
            refine take_runs (i := 4) (v := ?_) (by simp only [List.getElem?_toArray, List.getElem?_cons_succ, List.getElem?_cons_zero]; rfl) (by kernel_rfl) (by kernel_rfl) (by kernel_rfl) rfl (by exact fun _ _ _ h => h) (by rfl) ?_ (by assumption) ?_
            rotate_left
            · intro w hSw; (try dsimp only at hSw); go_simp; try (with_reducible rfl)
            try simp only [Act.put, List.setIfInBounds_toArray, List.set_cons_zero, List.set_cons_succ]
            refine take_runs (i := 5) (v := ?_) (by simp only [List.getElem?_toArray, List.getElem?_cons_succ, List.getElem?_cons_zero]; rfl) (by kernel_rfl) (by kernel_rfl) (by kernel_rfl) rfl (by exact fun _ _ _ h => h) (by rfl) ?_ (by assumption) ?_
            rotate_left
            · intro w hSw; (try dsimp only at hSw); go_simp; try (with_reducible rfl)
            try simp only [Act.put, List.setIfInBounds_toArray, List.set_cons_zero, List.set_cons_succ]
            refine wpAnyH_ready (rs := [6]) (by kernel_rfl) (by simp) ?_
            refine (AllReadyH.cons (o := _) (by simp only [List.getElem?_toArray, List.getElem?_cons_succ, List.getElem?_cons_zero]; rfl) (fun K hK => ?_) AllReadyH.nil)
            go_simp
            refine (HCV.out (wr.drew) (ints_below HRX.out d.out)).mono ?_
            rintro e w5 ⟨rfl, c5⟩
            replace d := Lib.hid (d.out.trans (c5.mono d.out.size))
            have Z_w5 := Lib.hid (show wr.heap.size ≤ w5.heap.size from c5.size)
            clear c5
            have p_C0 := (d.out.cell (p := ⟨b, off + k * 4, none⟩) HBL.out).trans C0.out
            have p_C1 := (d.out.cell (p := ⟨b, off + k * 4 + 1, none⟩) HBL.out).trans C1.out
            have p_C2 := (d.out.cell (p := ⟨b, off + k * 4 + 2, none⟩) HBL.out).trans C2.out
            have p_C3 := (d.out.cell (p := ⟨b, off + k * 4 + 3, none⟩) HBL.out).trans C3.out
            have p_CN := (d.out.cell (p := ⟨w.heap.size, 1, none⟩) YN.out).trans CN.out
            refine hK.out _ _ ⟨p_C0, p_C1, p_C2, p_C3, p_CN⟩ (fun hHeld => ?_)
            clear p_C0 p_C1 p_C2 p_C3 p_CN
            clear hK K
            try simp only [Act.put, List.setIfInBounds_toArray, List.set_cons_zero, List.set_cons_succ]
            refine take_runs (i := 7) (v := ?_) (by simp only [List.getElem?_toArray, List.getElem?_cons_succ, List.getElem?_cons_zero]; rfl) (by kernel_rfl) (by kernel_rfl) (by kernel_rfl) rfl (by exact fun _ _ _ h => h) (by rfl) ?_ (by assumption) ?_
            rotate_left
            · intro w hSw; (try dsimp only at hSw); go_simp; try (with_reducible rfl)
            try simp only [Act.put, List.setIfInBounds_toArray, List.set_cons_zero, List.set_cons_succ]
            refine wpAnyH_done (by kernel_rfl) ?_ _
            clear hHeld
            go_wp2
            go_ret
            exact ⟨ret_b HF.out.symm, D1.out.trans (d.out.mono D1.out.size)⟩
          | true =>
            have HCV := Lib.hid (fun W g => hver ▸ specVersion id born died now (.slice xa xs.length xc) xs W g HXL.out HNN.out.2)
            have HST2 := Lib.hid (HST.out hver)
            clear hver HNV HST
            go_wp2
            have p_C0 := (d.out.cell (p := ⟨b, off + k * 4, none⟩) HBL.out).trans C0.out
            have p_C1 := (d.out.cell (p := ⟨b, off + k * 4 + 1, none⟩) HBL.out).trans C1.out
            have p_C2 := (d.out.cell (p := ⟨b, off + k * 4 + 2, none⟩) HBL.out).trans C2.out
            have p_C3 := (d.out.cell (p := ⟨b, off + k * 4 + 3, none⟩) HBL.out).trans C3.out
            have p_CN := (d.out.cell (p := ⟨w.heap.size, 1, none⟩) YN.out).trans CN.out
            refine wp_region_held_drew (S := fun w' => w'.cell? ⟨b, off + k * 4, none⟩ = some (Value.int .i64 id) ∧ w'.cell? ⟨b, off + k * 4 + 1, none⟩ = some (Value.slice xa xs.length xc) ∧ w'.cell? ⟨b, off + k * 4 + 2, none⟩ = some (Value.int .i64 born) ∧ w'.cell? ⟨b, off + k * 4 + 3, none⟩ = some (Value.int .i64 died) ∧ w'.cell? ⟨w.heap.size, 1, none⟩ = some (.int .i64 now)) (by kernel_rfl) ⟨p_C0, p_C1, p_C2, p_C3, p_CN⟩ (fun hHeld => ?_)
            clear p_C0 p_C1 p_C2 p_C3 p_CN
            have cdr : Below wr.heap.size wr wr.drew := below_drew (Below.refl _ _)
            replace d := Lib.hid (d.out.trans (cdr.mono d.out.size))
            clear cdr
            refine take_runs (i := 0) (v := ?_) (by simp only [List.getElem?_toArray, List.getElem?_cons_succ, List.getElem?_cons_zero]; rfl) (by kernel_rfl) (by kernel_rfl) (by kernel_rfl) rfl (by exact fun _ _ _ h => h) (by rfl) ?_ (by assumption) ?_
            rotate_left
            · intro w hSw; (try dsimp only at hSw); go_simp; try (with_reducible rfl)
            try simp only [Act.put, List.setIfInBounds_toArray, List.set_cons_zero, List.set_cons_succ]
            refine take_runs (i := 1) (v := ?_) (by simp only [List.getElem?_toArray, List.getElem?_cons_succ, List.getElem?_cons_zero]; rfl) (by kernel_rfl) (by kernel_rfl) (by kernel_rfl) rfl (by exact fun _ _ _ h => h) (by rfl) ?_ (by assumption) ?_
            rotate_left
            · intro w hSw; (try dsimp only at hSw); go_simp; try (with_reducible rfl)
            try simp only [Act.put, List.setIfInBounds_toArray, List.set_cons_zero, List.set_cons_succ]
            refine take_runs (i := 2) (v := ?_) (by simp only [List.getElem?_toArray, List.getElem?_cons_succ, List.getElem?_cons_zero]; rfl) (by kernel_rfl) (by kernel_rfl) (by kernel_rfl) rfl (by exact fun _ _ _ h => h) (by rfl) ?_ (by assumption) ?_
            rotate_left
            · intro w hSw; (try dsimp only at hSw); go_simp; try (with_reducible rfl)
            try simp only [Act.put, List.setIfInBounds_toArray, List.set_cons_zero, List.set_cons_succ]
            refine take_runs (i := 3) (v := ?_) (by simp only [List.getElem?_toArray, List.getElem?_cons_succ, List.getElem?_cons_zero]; rfl) (by kernel_rfl) (by kernel_rfl) (by kernel_rfl) rfl (by exact fun _ _ _ h => h) (by rfl) ?_ (by assumption) ?_
            rotate_left
            · intro w hSw; (try dsimp only at hSw); go_simp; try (with_reducible rfl)
            try simp only [Act.put, List.setIfInBounds_toArray, List.set_cons_zero, List.set_cons_succ]
            refine take_runs (i := 4) (v := ?_) (by simp only [List.getElem?_toArray, List.getElem?_cons_succ, List.getElem?_cons_zero]; rfl) (by kernel_rfl) (by kernel_rfl) (by kernel_rfl) rfl (by exact fun _ _ _ h => h) (by rfl) ?_ (by assumption) ?_
            rotate_left
            · intro w hSw; (try dsimp only at hSw); go_simp; try (with_reducible rfl)
            try simp only [Act.put, List.setIfInBounds_toArray, List.set_cons_zero, List.set_cons_succ]
            refine take_runs (i := 5) (v := ?_) (by simp only [List.getElem?_toArray, List.getElem?_cons_succ, List.getElem?_cons_zero]; rfl) (by kernel_rfl) (by kernel_rfl) (by kernel_rfl) rfl (by exact fun _ _ _ h => h) (by rfl) ?_ (by assumption) ?_
            rotate_left
            · intro w hSw; (try dsimp only at hSw); go_simp; try (with_reducible rfl)
            try simp only [Act.put, List.setIfInBounds_toArray, List.set_cons_zero, List.set_cons_succ]
            refine wpAnyH_ready (rs := [6]) (by kernel_rfl) (by simp) ?_
            refine (AllReadyH.cons (o := _) (by simp only [List.getElem?_toArray, List.getElem?_cons_succ, List.getElem?_cons_zero]; rfl) (fun K hK => ?_) AllReadyH.nil)
            go_simp
            refine (HCV.out (wr.drew) (ints_below HRX.out d.out)).mono ?_
            rintro e w5 ⟨rfl, c5⟩
            replace d := Lib.hid (d.out.trans (c5.mono d.out.size))
            have Z_w5 := Lib.hid (show wr.heap.size ≤ w5.heap.size from c5.size)
            clear c5
            have p_C0 := (d.out.cell (p := ⟨b, off + k * 4, none⟩) HBL.out).trans C0.out
            have p_C1 := (d.out.cell (p := ⟨b, off + k * 4 + 1, none⟩) HBL.out).trans C1.out
            have p_C2 := (d.out.cell (p := ⟨b, off + k * 4 + 2, none⟩) HBL.out).trans C2.out
            have p_C3 := (d.out.cell (p := ⟨b, off + k * 4 + 3, none⟩) HBL.out).trans C3.out
            have p_CN := (d.out.cell (p := ⟨w.heap.size, 1, none⟩) YN.out).trans CN.out
            refine hK.out _ _ ⟨p_C0, p_C1, p_C2, p_C3, p_CN⟩ (fun hHeld => ?_)
            clear p_C0 p_C1 p_C2 p_C3 p_CN
            clear hK K
            try simp only [Act.put, List.setIfInBounds_toArray, List.set_cons_zero, List.set_cons_succ]
            refine take_runs (i := 7) (v := ?_) (by simp only [List.getElem?_toArray, List.getElem?_cons_succ, List.getElem?_cons_zero]; rfl) (by kernel_rfl) (by kernel_rfl) (by kernel_rfl) rfl (by exact fun _ _ _ h => h) (by rfl) ?_ (by assumption) ?_
            rotate_left
            · intro w hSw; (try dsimp only at hSw); go_simp; try (with_reducible rfl)
            try simp only [Act.put, List.setIfInBounds_toArray, List.set_cons_zero, List.set_cons_succ]
            refine wpAnyH_done (by kernel_rfl) ?_ _
            clear hHeld
            go_wp2
            go_loopw [6] (fun i wr => ∃ m : Nat, m ≤ k ∧ i = .int .i64 m ∧ Hid (∀ j, j < m → apartB (id, xs, born, died) (l.getD j v0D) = true) ∧ Below w1.heap.size w1 wr) (fun i _ => k - (intOf i).toNat)
            case atStart => exact ⟨0, Nat.zero_le _, rfl, Lib.hid (fun j hj => by omega), d.out⟩
            case round =>
              obtain ⟨m, hm, rfl, hap, hbel⟩ := hrel
              clear d
              by_cases hml : m < k
              · have j1 : (0 : Int) ≤ (m : Int) := by omega
                have j2 : (m : Int) < (l.length : Int) := by omega
                have j3 : (m : Int) < (k : Int) := by omega
                obtain ⟨b2, off2, cap2, ya, yc, hv, hbl2, y0, y1, y2, y3, hy⟩ := verR_at V.out (k := m) (by omega)
                simp only [Value.slice.injEq, Option.some.injEq, Addr.mk.injEq] at hv
                obtain ⟨⟨rfl, rfl, _⟩, _, rfl⟩ := hv
                have HNX := Lib.hid (HNA.out m hml)
                have HYX : Hid (apartB (id, xs, born, died) (l.getD m v0D) = true → ∀ j, j < m + 1 → apartB (id, xs, born, died) (l.getD j v0D) = true) := Lib.hid (fun g j hj => by
                  by_cases e : j = m
                  · rw [e]; exact g
                  · exact hap.out j (by omega))
                generalize l.getD m v0D = y at *
                obtain ⟨id2, ys, born2, died2⟩ := y
                simp only at y0 y1 y2 y3
                have E0 := Lib.hid y0
                have E1 := Lib.hid y1
                have E2 := Lib.hid y2
                have E3 := Lib.hid y3
                have d := Lib.hid hbel
                clear y0 y1 y2 y3 hy hap hbel
                have HCA := Lib.hid (specApart id born died id2 born2 died2 (.slice xa xs.length xc) (.slice ya ys.length yc))
                cases hapt : decide (apartP id born died id2 born2 died2) with
                | false =>
                  have HF := Lib.hid (HNX.out hapt)
                  rw [hapt] at HCA
                  clear hapt HNX HYX
                  go_wp2
                  have p_C0 := (d.out.cell (p := ⟨b, off + k * 4, none⟩) HBL.out).trans C0.out
                  have p_C1 := (d.out.cell (p := ⟨b, off + k * 4 + 1, none⟩) HBL.out).trans C1.out
                  have p_C2 := (d.out.cell (p := ⟨b, off + k * 4 + 2, none⟩) HBL.out).trans C2.out
                  have p_C3 := (d.out.cell (p := ⟨b, off + k * 4 + 3, none⟩) HBL.out).trans C3.out
                  have p_E0 := (d.out.cell (p := ⟨b, off + m * 4, none⟩) HBL.out).trans E0.out
                  have p_E1 := (d.out.cell (p := ⟨b, off + m * 4 + 1, none⟩) HBL.out).trans E1.out
                  have p_E2 := (d.out.cell (p := ⟨b, off + m * 4 + 2, none⟩) HBL.out).trans E2.out
                  have p_E3 := (d.out.cell (p := ⟨b, off + m * 4 + 3, none⟩) HBL.out).trans E3.out
                  refine wp_region_held_drew (S := fun w' => w'.cell? ⟨b, off + k * 4, none⟩ = some (Value.int .i64 id) ∧ w'.cell? ⟨b, off + k * 4 + 1, none⟩ = some (Value.slice xa xs.length xc) ∧ w'.cell? ⟨b, off + k * 4 + 2, none⟩ = some (Value.int .i64 born) ∧ w'.cell? ⟨b, off + k * 4 + 3, none⟩ = some (Value.int .i64 died) ∧ w'.cell? ⟨b, off + m * 4, none⟩ = some (Value.int .i64 id2) ∧ w'.cell? ⟨b, off + m * 4 + 1, none⟩ = some (Value.slice ya ys.length yc) ∧ w'.cell? ⟨b, off + m * 4 + 2, none⟩ = some (Value.int .i64 born2) ∧ w'.cell? ⟨b, off + m * 4 + 3, none⟩ = some (Value.int .i64 died2)) (by kernel_rfl) ⟨p_C0, p_C1, p_C2, p_C3, p_E0, p_E1, p_E2, p_E3⟩ (fun hHeld => ?_)
                  clear p_C0 p_C1 p_C2 p_C3 p_E0 p_E1 p_E2 p_E3
                  have cdr : Below wr.heap.size wr wr.drew := below_drew (Below.refl _ _)
                  replace d := Lib.hid (d.out.trans (cdr.mono d.out.size))
                  clear cdr
                  refine take_runs (i := 0) (v := ?_) (by simp only [List.getElem?_toArray, List.getElem?_cons_succ, List.getElem?_cons_zero]; rfl) (by kernel_rfl) (by kernel_rfl) (by kernel_rfl) rfl (by exact fun _ _ _ h => h) (by rfl) ?_ (by assumption) ?_
                  rotate_left
                  · intro w hSw; (try dsimp only at hSw); go_simp; try (with_reducible rfl)
                  try simp only [Act.put, List.setIfInBounds_toArray, List.set_cons_zero, List.set_cons_succ]
                  refine take_runs (i := 1) (v := ?_) (by simp only [List.getElem?_toArray, List.getElem?_cons_succ, List.getElem?_cons_zero]; rfl) (by kernel_rfl) (by kernel_rfl) (by kernel_rfl) rfl (by exact fun _ _ _ h => h) (by rfl) ?_ (by assumption) ?_
                  rotate_left
                  · intro w hSw; (try dsimp only at hSw); go_simp; try (with_reducible rfl)
                  try simp only [Act.put, List.setIfInBounds_toArray, List.set_cons_zero, List.set_cons_succ]
                  refine take_runs (i := 2) (v := ?_) (by simp only [List.getElem?_toArray, List.getElem?_cons_succ, List.getElem?_cons_zero]; rfl) (by kernel_rfl) (by kernel_rfl) (by kernel_rfl) rfl (by exact fun _ _ _ h => h) (by rfl) ?_ (by assumption) ?_
                  rotate_left
                  · intro w hSw; (try dsimp only at hSw); go_simp; try (with_reducible rfl)
                  try simp only [Act.put, List.setIfInBounds_toArray, List.set_cons_zero, List.set_cons_succ]
                  refine take_runs (i := 3) (v := ?_) (by simp only [List.getElem?_toArray, List.getElem?_cons_succ, List.getElem?_cons_zero]; rfl) (by kernel_rfl) (by kernel_rfl) (by kernel_rfl) rfl (by exact fun _ _ _ h => h) (by rfl) ?_ (by assumption) ?_
                  rotate_left
                  · intro w hSw; (try dsimp only at hSw); go_simp; try (with_reducible rfl)
                  try simp only [Act.put, List.setIfInBounds_toArray, List.set_cons_zero, List.set_cons_succ]
                  refine take_runs (i := 4) (v := ?_) (by simp only [List.getElem?_toArray, List.getElem?_cons_succ, List.getElem?_cons_zero]; rfl) (by kernel_rfl) (by kernel_rfl) (by kernel_rfl) rfl (by exact fun _ _ _ h => h) (by rfl) ?_ (by assumption) ?_
                  rotate_left
                  · intro w hSw; (try dsimp only at hSw); go_simp; try (with_reducible rfl)
                  try simp only [Act.put, List.setIfInBounds_toArray, List.set_cons_zero, List.set_cons_succ]
                  refine take_runs (i := 5) (v := ?_) (by simp only [List.getElem?_toArray, List.getElem?_cons_succ, List.getElem?_cons_zero]; rfl) (by kernel_rfl) (by kernel_rfl) (by kernel_rfl) rfl (by exact fun _ _ _ h => h) (by rfl) ?_ (by assumption) ?_
                  rotate_left
                  · intro w hSw; (try dsimp only at hSw); go_simp; try (with_reducible rfl)
                  try simp only [Act.put, List.setIfInBounds_toArray, List.set_cons_zero, List.set_cons_succ]
                  refine take_runs (i := 6) (v := ?_) (by simp only [List.getElem?_toArray, List.getElem?_cons_succ, List.getElem?_cons_zero]; rfl) (by kernel_rfl) (by kernel_rfl) (by kernel_rfl) rfl (by exact fun _ _ _ h => h) (by rfl) ?_ (by assumption) ?_
                  rotate_left
                  · intro w hSw; (try dsimp only at hSw); go_simp; try (with_reducible rfl)
                  try simp only [Act.put, List.setIfInBounds_toArray, List.set_cons_zero, List.set_cons_succ]
                  refine take_runs (i := 7) (v := ?_) (by simp only [List.getElem?_toArray, List.getElem?_cons_succ, List.getElem?_cons_zero]; rfl) (by kernel_rfl) (by kernel_rfl) (by kernel_rfl) rfl (by exact fun _ _ _ h => h) (by rfl) ?_ (by assumption) ?_
                  rotate_left
                  · intro w hSw; (try dsimp only at hSw); go_simp; try (with_reducible rfl)
                  try simp only [Act.put, List.setIfInBounds_toArray, List.set_cons_zero, List.set_cons_succ]
                  refine wpAnyH_ready (rs := [8]) (by kernel_rfl) (by simp) ?_
                  refine (AllReadyH.cons (o := _) (by simp only [List.getElem?_toArray, List.getElem?_cons_succ, List.getElem?_cons_zero]; rfl) (fun K hK => ?_) AllReadyH.nil)
                  go_simp
                  refine (HCA.out (wr.drew)).mono ?_
                  rintro e w6 ⟨rfl, c6⟩
                  replace d := Lib.hid (d.out.trans (c6.mono d.out.size))
                  have Z_w6 := Lib.hid (show wr.heap.size ≤ w6.heap.size from c6.size)
                  clear c6
                  have p_C0 := (d.out.cell (p := ⟨b, off + k * 4, none⟩) HBL.out).trans C0.out
                  have p_C1 := (d.out.cell (p := ⟨b, off + k * 4 + 1, none⟩) HBL.out).trans C1.out
                  have p_C2 := (d.out.cell (p := ⟨b, off + k * 4 + 2, none⟩) HBL.out).trans C2.out
                  have p_C3 := (d.out.cell (p := ⟨b, off + k * 4 + 3, none⟩) HBL.out).trans C3.out
                  have p_E0 := (d.out.cell (p := ⟨b, off + m * 4, none⟩) HBL.out).trans E0.out
                  have p_E1 := (d.out.cell (p := ⟨b, off + m * 4 + 1, none⟩) HBL.out).trans E1.out
                  have p_E2 := (d.out.cell (p := ⟨b, off + m * 4 + 2, none⟩) HBL.out).trans E2.out
                  have p_E3 := (d.out.cell (p := ⟨b, off + m * 4 + 3, none⟩) HBL.out).trans E3.out
                  refine hK.out _ _ ⟨p_C0, p_C1, p_C2, p_C3, p_E0, p_E1, p_E2, p_E3⟩ (fun hHeld => ?_)
                  clear p_C0 p_C1 p_C2 p_C3 p_E0 p_E1 p_E2 p_E3
                  clear hK K
                  try simp only [Act.put, List.setIfInBounds_toArray, List.set_cons_zero, List.set_cons_succ]
                  refine take_runs (i := 9) (v := ?_) (by simp only [List.getElem?_toArray, List.getElem?_cons_succ, List.getElem?_cons_zero]; rfl) (by kernel_rfl) (by kernel_rfl) (by kernel_rfl) rfl (by exact fun _ _ _ h => h) (by rfl) ?_ (by assumption) ?_
                  rotate_left
                  · intro w hSw; (try dsimp only at hSw); go_simp; try (with_reducible rfl)
                  try simp only [Act.put, List.setIfInBounds_toArray, List.set_cons_zero, List.set_cons_succ]
                  refine wpAnyH_done (by kernel_rfl) ?_ _
                  clear hHeld
                  go_wp2
                  go_ret
                  exact ⟨ret_b HF.out.symm, D1.out.trans (d.out.mono D1.out.size)⟩
                | true =>
                  have HA2 := Lib.hid (HYX.out hapt)
                  rw [hapt] at HCA
                  clear hapt HNX HYX
                  go_wp2
                  have p_C0 := (d.out.cell (p := ⟨b, off + k * 4, none⟩) HBL.out).trans C0.out
                  have p_C1 := (d.out.cell (p := ⟨b, off + k * 4 + 1, none⟩) HBL.out).trans C1.out
                  have p_C2 := (d.out.cell (p := ⟨b, off + k * 4 + 2, none⟩) HBL.out).trans C2.out
                  have p_C3 := (d.out.cell (p := ⟨b, off + k * 4 + 3, none⟩) HBL.out).trans C3.out
                  have p_E0 := (d.out.cell (p := ⟨b, off + m * 4, none⟩) HBL.out).trans E0.out
                  have p_E1 := (d.out.cell (p := ⟨b, off + m * 4 + 1, none⟩) HBL.out).trans E1.out
                  have p_E2 := (d.out.cell (p := ⟨b, off + m * 4 + 2, none⟩) HBL.out).trans E2.out
                  have p_E3 := (d.out.cell (p := ⟨b, off + m * 4 + 3, none⟩) HBL.out).trans E3.out
                  refine wp_region_held_drew (S := fun w' => w'.cell? ⟨b, off + k * 4, none⟩ = some (Value.int .i64 id) ∧ w'.cell? ⟨b, off + k * 4 + 1, none⟩ = some (Value.slice xa xs.length xc) ∧ w'.cell? ⟨b, off + k * 4 + 2, none⟩ = some (Value.int .i64 born) ∧ w'.cell? ⟨b, off + k * 4 + 3, none⟩ = some (Value.int .i64 died) ∧ w'.cell? ⟨b, off + m * 4, none⟩ = some (Value.int .i64 id2) ∧ w'.cell? ⟨b, off + m * 4 + 1, none⟩ = some (Value.slice ya ys.length yc) ∧ w'.cell? ⟨b, off + m * 4 + 2, none⟩ = some (Value.int .i64 born2) ∧ w'.cell? ⟨b, off + m * 4 + 3, none⟩ = some (Value.int .i64 died2)) (by kernel_rfl) ⟨p_C0, p_C1, p_C2, p_C3, p_E0, p_E1, p_E2, p_E3⟩ (fun hHeld => ?_)
                  clear p_C0 p_C1 p_C2 p_C3 p_E0 p_E1 p_E2 p_E3
                  have cdr : Below wr.heap.size wr wr.drew := below_drew (Below.refl _ _)
                  replace d := Lib.hid (d.out.trans (cdr.mono d.out.size))
                  clear cdr
                  refine take_runs (i := 0) (v := ?_) (by simp only [List.getElem?_toArray, List.getElem?_cons_succ, List.getElem?_cons_zero]; rfl) (by kernel_rfl) (by kernel_rfl) (by kernel_rfl) rfl (by exact fun _ _ _ h => h) (by rfl) ?_ (by assumption) ?_
                  rotate_left
                  · intro w hSw; (try dsimp only at hSw); go_simp; try (with_reducible rfl)
                  try simp only [Act.put, List.setIfInBounds_toArray, List.set_cons_zero, List.set_cons_succ]
                  refine take_runs (i := 1) (v := ?_) (by simp only [List.getElem?_toArray, List.getElem?_cons_succ, List.getElem?_cons_zero]; rfl) (by kernel_rfl) (by kernel_rfl) (by kernel_rfl) rfl (by exact fun _ _ _ h => h) (by rfl) ?_ (by assumption) ?_
                  rotate_left
                  · intro w hSw; (try dsimp only at hSw); go_simp; try (with_reducible rfl)
                  try simp only [Act.put, List.setIfInBounds_toArray, List.set_cons_zero, List.set_cons_succ]
                  refine take_runs (i := 2) (v := ?_) (by simp only [List.getElem?_toArray, List.getElem?_cons_succ, List.getElem?_cons_zero]; rfl) (by kernel_rfl) (by kernel_rfl) (by kernel_rfl) rfl (by exact fun _ _ _ h => h) (by rfl) ?_ (by assumption) ?_
                  rotate_left
                  · intro w hSw; (try dsimp only at hSw); go_simp; try (with_reducible rfl)
                  try simp only [Act.put, List.setIfInBounds_toArray, List.set_cons_zero, List.set_cons_succ]
                  refine take_runs (i := 3) (v := ?_) (by simp only [List.getElem?_toArray, List.getElem?_cons_succ, List.getElem?_cons_zero]; rfl) (by kernel_rfl) (by kernel_rfl) (by kernel_rfl) rfl (by exact fun _ _ _ h => h) (by rfl) ?_ (by assumption) ?_
                  rotate_left
                  · intro w hSw; (try dsimp only at hSw); go_simp; try (with_reducible rfl)
                  try simp only [Act.put, List.setIfInBounds_toArray, List.set_cons_zero, List.set_cons_succ]
                  refine take_runs (i := 4) (v := ?_) (by simp only [List.getElem?_toArray, List.getElem?_cons_succ, List.getElem?_cons_zero]; rfl) (by kernel_rfl) (by kernel_rfl) (by kernel_rfl) rfl (by exact fun _ _ _ h => h) (by rfl) ?_ (by assumption) ?_
                  rotate_left
                  · intro w hSw; (try dsimp only at hSw); go_simp; try (with_reducible rfl)
                  try simp only [Act.put, List.setIfInBounds_toArray, List.set_cons_zero, List.set_cons_succ]
                  refine take_runs (i := 5) (v := ?_) (by simp only [List.getElem?_toArray, List.getElem?_cons_succ, List.getElem?_cons_zero]; rfl) (by kernel_rfl) (by kernel_rfl) (by kernel_rfl) rfl (by exact fun _ _ _ h => h) (by rfl) ?_ (by assumption) ?_
                  rotate_left
                  · intro w hSw; (try dsimp only at hSw); go_simp; try (with_reducible rfl)
                  try simp only [Act.put, List.setIfInBounds_toArray, List.set_cons_zero, List.set_cons_succ]
                  refine take_runs (i := 6) (v := ?_) (by simp only [List.getElem?_toArray, List.getElem?_cons_succ, List.getElem?_cons_zero]; rfl) (by kernel_rfl) (by kernel_rfl) (by kernel_rfl) rfl (by exact fun _ _ _ h => h) (by rfl) ?_ (by assumption) ?_
                  rotate_left
                  · intro w hSw; (try dsimp only at hSw); go_simp; try (with_reducible rfl)
                  try simp only [Act.put, List.setIfInBounds_toArray, List.set_cons_zero, List.set_cons_succ]
                  refine take_runs (i := 7) (v := ?_) (by simp only [List.getElem?_toArray, List.getElem?_cons_succ, List.getElem?_cons_zero]; rfl) (by kernel_rfl) (by kernel_rfl) (by kernel_rfl) rfl (by exact fun _ _ _ h => h) (by rfl) ?_ (by assumption) ?_
                  rotate_left
                  · intro w hSw; (try dsimp only at hSw); go_simp; try (with_reducible rfl)
                  try simp only [Act.put, List.setIfInBounds_toArray, List.set_cons_zero, List.set_cons_succ]
                  refine wpAnyH_ready (rs := [8]) (by kernel_rfl) (by simp) ?_
                  refine (AllReadyH.cons (o := _) (by simp only [List.getElem?_toArray, List.getElem?_cons_succ, List.getElem?_cons_zero]; rfl) (fun K hK => ?_) AllReadyH.nil)
                  go_simp
                  refine (HCA.out (wr.drew)).mono ?_
                  rintro e w6 ⟨rfl, c6⟩
                  replace d := Lib.hid (d.out.trans (c6.mono d.out.size))
                  have Z_w6 := Lib.hid (show wr.heap.size ≤ w6.heap.size from c6.size)
                  clear c6
                  have p_C0 := (d.out.cell (p := ⟨b, off + k * 4, none⟩) HBL.out).trans C0.out
                  have p_C1 := (d.out.cell (p := ⟨b, off + k * 4 + 1, none⟩) HBL.out).trans C1.out
                  have p_C2 := (d.out.cell (p := ⟨b, off + k * 4 + 2, none⟩) HBL.out).trans C2.out
                  have p_C3 := (d.out.cell (p := ⟨b, off + k * 4 + 3, none⟩) HBL.out).trans C3.out
                  have p_E0 := (d.out.cell (p := ⟨b, off + m * 4, none⟩) HBL.out).trans E0.out
                  have p_E1 := (d.out.cell (p := ⟨b, off + m * 4 + 1, none⟩) HBL.out).trans E1.out
                  have p_E2 := (d.out.cell (p := ⟨b, off + m * 4 + 2, none⟩) HBL.out).trans E2.out
                  have p_E3 := (d.out.cell (p := ⟨b, off + m * 4 + 3, none⟩) HBL.out).trans E3.out
                  refine hK.out _ _ ⟨p_C0, p_C1, p_C2, p_C3, p_E0, p_E1, p_E2, p_E3⟩ (fun hHeld => ?_)
                  clear p_C0 p_C1 p_C2 p_C3 p_E0 p_E1 p_E2 p_E3
                  clear hK K
                  try simp only [Act.put, List.setIfInBounds_toArray, List.set_cons_zero, List.set_cons_succ]
                  refine take_runs (i := 9) (v := ?_) (by simp only [List.getElem?_toArray, List.getElem?_cons_succ, List.getElem?_cons_zero]; rfl) (by kernel_rfl) (by kernel_rfl) (by kernel_rfl) rfl (by exact fun _ _ _ h => h) (by rfl) ?_ (by assumption) ?_
                  rotate_left
                  · intro w hSw; (try dsimp only at hSw); go_simp; try (with_reducible rfl)
                  try simp only [Act.put, List.setIfInBounds_toArray, List.set_cons_zero, List.set_cons_succ]
                  refine wpAnyH_done (by kernel_rfl) ?_ _
                  clear hHeld
                  go_wp2
                  go_roundw
                  case rel => exact ⟨m + 1, by omega, by go_num, HA2, d.out⟩
                  case measure => simp [intOf]; omega
              · obtain rfl : m = k := by omega
                have HVK := Lib.hid (HST2.out hap.out)
                have HB := Lib.hid hbel
                clear hap hbel
                go_wp2
                go_roundw
                case rel => exact ⟨m + 1, by omega, by go_num, HVK, HB.out⟩
                case measure => simp [intOf]; omega
        · obtain rfl : k = l.length := by omega
          have HT : Hid (storeB ss now = true) := Lib.hid (store_yes HCN.out HNN.out HSH.out (by rw [← HLL.out]; exact hvs.out))
          have HB := Lib.hid (D1.out.trans (hbel.mono D1.out.size))
          clear hvs hbel
          go_wp2
          go_ret
          exact ⟨ret_b HT.out.symm, HB.out⟩
end Go.Proofs.Ytdhglmoanpkeoaa
namespace Go.Proofs.Ytdhglmoanpkeoaa
open Go.RowKit
set_option linter.unusedVariables false
theorem info_T_int : ElemInfo tInt 3 (.int .i64 0) := elemInfo_of (by kernel_rfl)
end Go.Proofs.Ytdhglmoanpkeoaa
namespace Go.Proofs.Ytdhglmoanpkeoaa
open Go.RowKit
set_option linter.unusedVariables false
set_option linter.unusedSimpArgs false
end Go.Proofs.Ytdhglmoanpkeoaa
namespace Go.Proofs.Ytdhglmoanpkeoaa
open Go.RowKit
set_option linter.unusedVariables false
set_option linter.unusedSimpArgs false
end Go.Proofs.Ytdhglmoanpkeoaa
namespace Go.Proofs.Ytdhglmoanpkeoaa
open Go.RowKit
set_option linter.unusedVariables false
end Go.Proofs.Ytdhglmoanpkeoaa
namespace Go.Proofs.Ytdhglmoanpkeoaa
open Go.RowKit
set_option linter.unusedVariables false
set_option linter.unusedSimpArgs false
end Go.Proofs.Ytdhglmoanpkeoaa
namespace Go.Proofs.Ytdhglmoanpkeoaa
open Go.RowKit
set_option linter.unusedVariables false
set_option linter.unusedSimpArgs false
end Go.Proofs.Ytdhglmoanpkeoaa
namespace Go.Proofs.Ytdhglmoanpkeoaa
open Go.RowKit
set_option linter.unusedVariables false
set_option linter.unusedSimpArgs false
def newP (rs : List RowD) (g : Int) : Prop := areB rs = true ∧ (1 ≤ g ∧ g ≤ 8) ∧ (rs.length : Int) ≤ 4 * g
instance (rs : List RowD) (g : Int) : Decidable (newP rs g) := by unfold newP; infer_instance
end Go.Proofs.Ytdhglmoanpkeoaa
namespace Go.Proofs.Ytdhglmoanpkeoaa
open Go.RowKit
set_option linter.unusedVariables false
set_option linter.unusedSimpArgs false
end Go.Proofs.Ytdhglmoanpkeoaa
namespace Go.Proofs.Ytdhglmoanpkeoaa
open Go.RowKit
set_option linter.unusedVariables false
set_option linter.unusedSimpArgs false
theorem info_T_VersionS : ElemInfo tVersionS 61 (.slice none 0 0) := elemInfo_of (by kernel_rfl)
end Go.Proofs.Ytdhglmoanpkeoaa
namespace Go.Proofs.Ytdhglmoanpkeoaa
open Go.RowKit
set_option linter.unusedVariables false
set_option linter.unusedSimpArgs false
set_option maxHeartbeats 8000000 in
set_option maxRecDepth 100000 in
theorem specOne (id bo di : Int) (v : Value) (xs : List Int) (w : World) (h : SlR tInt w v xs) (hn : xs.length ≤ 1048576) :
    Calls Try.prog 122 #[.int .i64 id, v, .int .i64 bo, .int .i64 di] w (FreshT tVersion (fun cs => .agg cs.toArray) w (id, xs, bo, di)) := by
  obtain ⟨a, c, rfl⟩ := slR_len h
  have H := Lib.hid h
  have HN := Lib.hid hn
  clear h hn
  have Y0 : Hid (w.heap.size < (w.alloc (.cells #[.int .i64 0, .slice none 0 0, .int .i64 0, .int .i64 0] 115)).heap.size) := Lib.hid (by simp)
  have B0 : Hid ((w.alloc (.cells #[.int .i64 0, .slice none 0 0, .int .i64 0, .int .i64 0] 115)).heap[w.heap.size]? = some (.cells #[.int .i64 0, .slice none 0 0, .int .i64 0, .int .i64 0] 115 (0, 0))) := Lib.hid (heap_alloc_new w _)
  have d := Lib.hid ((Below.refl w.heap.size w).alloc (Nat.le_refl _) (.cells #[.int .i64 0, .slice none 0 0, .int .i64 0, .int .i64 0] 115))
  have E0 : Hid (SlO 3 tInt ((w.alloc (.cells #[.int .i64 0, .slice none 0 0, .int .i64 0, .int .i64 0] 115)).alloc (.cells #[] 3)) (fun b => w.heap.size + 1 ≤ b) (.slice (some ⟨w.heap.size + 1, 0, none⟩) 0 0) []) := Lib.hid (by
    have := slO_empty (T := tInt) (w.alloc (.cells #[.int .i64 0, .slice none 0 0, .int .i64 0, .int .i64 0] 115)) 3 (fun b => w.heap.size + 1 ≤ b) (by simp)
    simpa only [World.size_alloc] using this)
  go_enter Try.func122, Try.ntmps122
  go_wp2_with (at_builtin; refine append_flat tInt_law flat_int info_T_int Try.underlying37 rfl rfl (.tmp 10) (.tmp 11) rfl (fun b => w.heap.size + 1 ≤ b) (fun b => w.heap.size + 1 ≤ b) _ _ [] xs rfl rfl E0.out (slR_below tInt_law H.out (d.out.alloc d.out.size _)) (fun b h => h) (by first | (simp [World.size_alloc]; done) | (simp [World.size_alloc]; omega)) (by have := HN.out; simp; omega) ?_)
  intro v' w1 o1 t1
  obtain ⟨ua, uc, rfl⟩ := slO_len o1
  have k0 : w1.heap[w.heap.size]? = some (.cells #[.int .i64 0, .slice none 0 0, .int .i64 0, .int .i64 0] 115 (0, 0)) := (t1.block _ (by first | (simp [World.size_alloc]; done) | (simp [World.size_alloc]; omega)) (fun h => by have := Y0.out; omega)).trans ((((Below.refl _ _).alloc (Nat.le_refl _) _).block w.heap.size Y0.out).trans B0.out)
  have hd : Below w.heap.size w w1 := below_turn (d.out.alloc d.out.size _) t1 (fun b h => by have h3 : w.heap.size + 1 ≤ b := h; omega) (by first | (simp [World.size_alloc]; done) | (simp [World.size_alloc]; omega))
  have z0 := (cell_of_row w1 _ 0 _ _ _ k0).trans (show _ = some (Value.int .i64 0) from rfl)
  have g0 := frozen_of_row w1 _ 0 _ _ k0
  have z1 := (cell_of_row w1 _ 1 _ _ _ k0).trans (show _ = some (Value.slice none 0 0) from rfl)
  have g1 := frozen_of_row w1 _ 1 _ _ k0
  have z2 := (cell_of_row w1 _ 2 _ _ _ k0).trans (show _ = some (Value.int .i64 0) from rfl)
  have g2 := frozen_of_row w1 _ 2 _ _ k0
  have z3 := (cell_of_row w1 _ 3 _ _ _ k0).trans (show _ = some (Value.int .i64 0) from rfl)
  have g3 := frozen_of_row w1 _ 3 _ _ k0
  have DF := Lib.hid ((((hd.setCell (p := ⟨w.heap.size, 0, none⟩) (by simp) (.int .i64 id)).setCell (p := ⟨w.heap.size, 1, none⟩) (by simp) (.slice ua xs.length uc)).setCell (p := ⟨w.heap.size, 2, none⟩) (by simp) (.int .i64 bo)).setCell (p := ⟨w.heap.size, 3, none⟩) (by simp) (.int .i64 di))
  have r := (heap_setCell_same _ w.heap.size 3 _ _ (.int .i64 di) (heap_setCell_same _ w.heap.size 2 _ _ (.int .i64 bo) (heap_setCell_same _ w.heap.size 1 _ _ (.slice ua xs.length uc) (heap_setCell_same _ w.heap.size 0 _ _ (.int .i64 id) k0))))
  simp at r
  have e0 := (cell_of_row _ w.heap.size 0 _ _ _ r).trans (show _ = some (Value.int .i64 id) from rfl)
  have e1 := (cell_of_row _ w.heap.size 1 _ _ _ r).trans (show _ = some (Value.slice ua xs.length uc) from rfl)
  have e2 := (cell_of_row _ w.heap.size 2 _ _ _ r).trans (show _ = some (Value.int .i64 bo) from rfl)
  have e3 := (cell_of_row _ w.heap.size 3 _ _ _ r).trans (show _ = some (Value.int .i64 di) from rfl)
  have tt : Turn (fun b => b = w.heap.size) w1 ((((w1.setCell ⟨w.heap.size, 0, none⟩ (.int .i64 id)).setCell ⟨w.heap.size, 1, none⟩ (.slice ua xs.length uc)).setCell ⟨w.heap.size, 2, none⟩ (.int .i64 bo)).setCell ⟨w.heap.size, 3, none⟩ (.int .i64 di)) := (((((Turn.refl (fun b => b = w.heap.size) w1).trans (turn_set (G := fun b => b = w.heap.size) (g := w.heap.size) (j := 0) (u := .int .i64 id) rfl)).trans (turn_set (G := fun b => b = w.heap.size) (g := w.heap.size) (j := 1) (u := .slice ua xs.length uc) rfl)).trans (turn_set (G := fun b => b = w.heap.size) (g := w.heap.size) (j := 2) (u := .int .i64 bo) rfl)).trans (turn_set (G := fun b => b = w.heap.size) (g := w.heap.size) (j := 3) (u := .int .i64 di) rfl))
  have PF := Lib.hid (slO_turn tInt_law o1 tt (fun b h1 h2 => by have h3 : w.heap.size + 1 ≤ b := h1; have := Y0.out; omega))
  clear r tt k0 hd t1 o1
  go_wp2
  refine bodyPost_ret (v := .agg #[.int .i64 id, .slice ua xs.length uc, .int .i64 bo, .int .i64 di]) ?_ rfl ⟨[.int .i64 id, .slice ua xs.length uc, .int .i64 bo, .int .i64 di], rfl, tVersion_mkO PF.out (fun b h => by have h3 : w.heap.size + 1 ≤ b := h; have := Y0.out; show w.heap.size ≤ b; omega), DF.out⟩
  simp [results, Try.f122, go_sem, e0, e1, e2, e3]
end Go.Proofs.Ytdhglmoanpkeoaa
namespace Go.Proofs.Ytdhglmoanpkeoaa
open Go.RowKit
set_option linter.unusedVariables false
set_option linter.unusedSimpArgs false
set_option maxHeartbeats 16000000 in
set_option maxRecDepth 100000 in
theorem specPart (v : Value) (l : List VerD) (w : World) (h : SlR tVersion w v l) (hs : zL tVersion l ≤ 1048576) :
    Calls Try.prog 91 #[v] w (FreshS 115 tVersion w l) := by
  have H := Lib.hid h
  have hlen := zL_len hs
  have HS := Lib.hid hs
  obtain ⟨a, cap, rfl⟩ := slR_len h
  clear h hs
  go_enter Try.func91, Try.ntmps91
  go_wp2
  go_loopw [3, 4] (fun u i wr => ∃ k : Nat, k ≤ l.length ∧ i = .int .i64 k ∧ SlO 115 tVersion wr (since w) u (l.take k) ∧ Below w.heap.size w wr) (fun _ i _ => l.length - (intOf i).toNat)
  case atStart => exact ⟨0, Nat.zero_le _, rfl, slO_empty w 115 (since w) (Nat.le_refl _), (Below.refl _ _).alloc (Nat.le_refl _) _⟩
  case round =>
    obtain ⟨k, hk, rfl, hown, hbel⟩ := hrel
    by_cases hlt : k < l.length
    · have i1 : (0 : Int) ≤ (k : Int) := by omega
      have i2 : (k : Int) < (l.length : Int) := by omega
      obtain ⟨b, off, cap', xa, xc, hv, hbl, c0, c1, c2, c3, hx⟩ := verR_at H.out hlt
      simp only [Value.slice.injEq] at hv
      obtain ⟨rfl, _, rfl⟩ := hv
      have HXL := Lib.hid (ver_len HS.out hlt)
      have HTK := Lib.hid (take_getD hlt).symm
      have HYL : Hid ((l.take k).length ≤ 1048576) := Lib.hid (by rw [List.length_take]; omega)
      have HX := Lib.hid (ints_slR hx)
      generalize l.getD k v0D = x at *
      obtain ⟨id, xs, bo, di⟩ := x
      simp only at c0 c1 c2 c3 HXL
      change Hid (SlR tInt w (.slice xa xs.length xc) xs) at HX
      have C0 := Lib.hid c0
      have C1 := Lib.hid c1
      have C2 := Lib.hid c2
      have C3 := Lib.hid c3
      have HBL := Lib.hid hbl
      have PP := Lib.hid (slO_lt tVersion_law hown)
      have d := Lib.hid hbel
      have ZR := Lib.hid hbel.size
      obtain ⟨oa, oc, rfl⟩ := slO_len hown
      clear c0 c1 c2 c3 hbl hx hown hbel
      have QP := Lib.hid (fun q (h : since w q ∧ q < wr.heap.size) => h)
      generalize l.take k = ys at *
      go_wp2
      have p_C0 := (d.out.cell (p := ⟨b, off + k * 4, none⟩) HBL.out).trans C0.out
      have p_C1 := (d.out.cell (p := ⟨b, off + k * 4 + 1, none⟩) HBL.out).trans C1.out
      have p_C2 := (d.out.cell (p := ⟨b, off + k * 4 + 2, none⟩) HBL.out).trans C2.out
      have p_C3 := (d.out.cell (p := ⟨b, off + k * 4 + 3, none⟩) HBL.out).trans C3.out
      refine wp_region_held_drew (S := fun w' => w'.cell? ⟨b, off + k * 4, none⟩ = some (Value.int .i64 id) ∧ w'.cell? ⟨b, off + k * 4 + 1, none⟩ = some (Value.slice xa xs.length xc) ∧ w'.cell? ⟨b, off + k * 4 + 2, none⟩ = some (Value.int .i64 bo) ∧ w'.cell? ⟨b, off + k * 4 + 3, none⟩ = some (Value.int .i64 di)) (by kernel_rfl) ⟨p_C0, p_C1, p_C2, p_C3⟩ (fun hHeld => ?_)
      clear p_C0 p_C1 p_C2 p_C3
      have cdr : Below wr.heap.size wr wr.drew := below_drew (Below.refl _ _)
      replace PP := Lib.hid (slO_fresh tVersion_law PP.out cdr)
      replace d := Lib.hid (d.out.trans (cdr.mono d.out.size))
      clear cdr
      have Z_dr := Lib.hid (show wr.heap.size ≤ wr.drew.heap.size from Nat.le_refl _)
      generalize wr.drew = Wd at *
      refine take_runs (i := 0) (v := ?_) (by simp only [List.getElem?_toArray, List.getElem?_cons_succ, List.getElem?_cons_zero]; rfl) (by kernel_rfl) (by kernel_rfl) (by kernel_rfl) rfl (by exact fun _ _ _ h => h) (by rfl) ?_ (by assumption) ?_
      rotate_left
      · intro w hSw; (try dsimp only at hSw); go_simp; try (with_reducible rfl)
      try simp only [Act.put, List.setIfInBounds_toArray, List.set_cons_zero, List.set_cons_succ]
      refine take_runs (i := 1) (v := ?_) (by simp only [List.getElem?_toArray, List.getElem?_cons_succ, List.getElem?_cons_zero]; rfl) (by kernel_rfl) (by kernel_rfl) (by kernel_rfl) rfl (by exact fun _ _ _ h => h) (by rfl) ?_ (by assumption) ?_
      rotate_left
      · intro w hSw; (try dsimp only at hSw); go_simp; try (with_reducible rfl)
      try simp only [Act.put, List.setIfInBounds_toArray, List.set_cons_zero, List.set_cons_succ]
      refine take_runs (i := 2) (v := ?_) (by simp only [List.getElem?_toArray, List.getElem?_cons_succ, List.getElem?_cons_zero]; rfl) (by kernel_rfl) (by kernel_rfl) (by kernel_rfl) rfl (by exact fun _ _ _ h => h) (by rfl) ?_ (by assumption) ?_
      rotate_left
      · intro w hSw; (try dsimp only at hSw); go_simp; try (with_reducible rfl)
      try simp only [Act.put, List.setIfInBounds_toArray, List.set_cons_zero, List.set_cons_succ]
      refine take_runs (i := 3) (v := ?_) (by simp only [List.getElem?_toArray, List.getElem?_cons_succ, List.getElem?_cons_zero]; rfl) (by kernel_rfl) (by kernel_rfl) (by kernel_rfl) rfl (by exact fun _ _ _ h => h) (by rfl) ?_ (by assumption) ?_
      rotate_left
      · intro w hSw; (try dsimp only at hSw); go_simp; try (with_reducible rfl)
      try simp only [Act.put, List.setIfInBounds_toArray, List.set_cons_zero, List.set_cons_succ]
      refine take_runs (i := 4) (v := ?_) (by simp only [List.getElem?_toArray, List.getElem?_cons_succ, List.getElem?_cons_zero]; rfl) (by kernel_rfl) (by kernel_rfl) (by kernel_rfl) rfl (by exact fun _ _ _ h => h) (by rfl) ?_ (by assumption) ?_
      rotate_left
      · intro w hSw; (try dsimp only at hSw); go_simp; try (with_reducible rfl)
      try simp only [Act.put, List.setIfInBounds_toArray, List.set_cons_zero, List.set_cons_succ]
      refine take_runs (i := 5) (v := ?_) (by simp only [List.getElem?_toArray, List.getElem?_cons_succ, List.getElem?_cons_zero]; rfl) (by kernel_rfl) (by kernel_rfl) (by kernel_rfl) rfl (by exact fun _ _ _ h => h) (by rfl) ?_ (by assumption) ?_
      rotate_left
      · intro w hSw; (try dsimp only at hSw); go_simp; try (with_reducible rfl)
      try simp only [Act.put, List.setIfInBounds_toArray, List.set_cons_zero, List.set_cons_succ]
      refine take_runs (i := 6) (v := ?_) (by simp only [List.getElem?_toArray, List.getElem?_cons_succ, List.getElem?_cons_zero]; rfl) (by kernel_rfl) (by kernel_rfl) (by kernel_rfl) rfl (by exact fun _ _ _ h => h) (by rfl) ?_ (by assumption) ?_
      rotate_left
      · intro w hSw; (try dsimp only at hSw); go_simp; try (with_reducible rfl)
      try simp only [Act.put, List.setIfInBounds_toArray, List.set_cons_zero, List.set_cons_succ]
      refine take_runs (i := 7) (v := ?_) (by simp only [List.getElem?_toArray, List.getElem?_cons_succ, List.getElem?_cons_zero]; rfl) (by kernel_rfl) (by kernel_rfl) (by kernel_rfl) rfl (by exact fun _ _ _ h => h) (by rfl) ?_ (by assumption) ?_
      rotate_left
      · intro w hSw; (try dsimp only at hSw); go_simp; try (with_reducible rfl)
      try simp only [Act.put, List.setIfInBounds_toArray, List.set_cons_zero, List.set_cons_succ]
      refine take_runs (i := 8) (v := ?_) (by simp only [List.getElem?_toArray, List.getElem?_cons_succ, List.getElem?_cons_zero]; rfl) (by kernel_rfl) (by kernel_rfl) (by kernel_rfl) rfl (by exact fun _ _ _ h => h) (by rfl) ?_ (by assumption) ?_
      rotate_left
      · intro w hSw; (try dsimp only at hSw); go_simp; try (with_reducible rfl)
      try simp only [Act.put, List.setIfInBounds_toArray, List.set_cons_zero, List.set_cons_succ]
      refine take_runs (i := 9) (v := ?_) (by simp only [List.getElem?_toArray, List.getElem?_cons_succ, List.getElem?_cons_zero]; rfl) (by kernel_rfl) (by kernel_rfl) (by kernel_rfl) rfl (by exact fun _ _ _ h => h) (by rfl) ?_ (by assumption) ?_
      rotate_left
      · intro w hSw; (try dsimp only at hSw); go_simp; try (with_reducible rfl)
      try simp only [Act.put, List.setIfInBounds_toArray, List.set_cons_zero, List.set_cons_succ]
      refine take_runs (i := 10) (v := ?_) (by simp only [List.getElem?_toArray, List.getElem?_cons_succ, List.getElem?_cons_zero]; rfl) (by kernel_rfl) (by kernel_rfl) (by kernel_rfl) rfl (by exact fun _ _ _ h => h) (by rfl) ?_ (by assumption) ?_
      rotate_left
      · intro w hSw; (try dsimp only at hSw); go_simp; try (with_reducible rfl)
      try simp only [Act.put, List.setIfInBounds_toArray, List.set_cons_zero, List.set_cons_succ]
      refine take_runs (i := 11) (v := ?_) (by simp only [List.getElem?_toArray, List.getElem?_cons_succ, List.getElem?_cons_zero]; rfl) (by kernel_rfl) (by kernel_rfl) (by kernel_rfl) rfl (by exact fun _ _ _ h => h) (by rfl) ?_ (by assumption) ?_
      rotate_left
      · intro w hSw; (try dsimp only at hSw); go_simp; try (with_reducible rfl)
      try simp only [Act.put, List.setIfInBounds_toArray, List.set_cons_zero, List.set_cons_succ]
      refine take_runs (i := 12) (v := ?_) (by simp only [List.getElem?_toArray, List.getElem?_cons_succ, List.getElem?_cons_zero]; rfl) (by kernel_rfl) (by kernel_rfl) (by kernel_rfl) rfl (by exact fun _ _ _ h => h) (by rfl) ?_ (by assumption) ?_
      rotate_left
      · intro w hSw; (try dsimp only at hSw); go_simp; try (with_reducible rfl)
      try simp only [Act.put, List.setIfInBounds_toArray, List.set_cons_zero, List.set_cons_succ]
      refine take_runs (i := 13) (v := ?_) (by simp only [List.getElem?_toArray, List.getElem?_cons_succ, List.getElem?_cons_zero]; rfl) (by kernel_rfl) (by kernel_rfl) (by kernel_rfl) rfl (by exact fun _ _ _ h => h) (by rfl) ?_ (by assumption) ?_
      rotate_left
      · intro w hSw; (try dsimp only at hSw); go_simp; try (with_reducible rfl)
      try simp only [Act.put, List.setIfInBounds_toArray, List.set_cons_zero, List.set_cons_succ]
      refine take_runs (i := 14) (v := ?_) (by simp only [List.getElem?_toArray, List.getElem?_cons_succ, List.getElem?_cons_zero]; rfl) (by kernel_rfl) (by kernel_rfl) (by kernel_rfl) rfl (by exact fun _ _ _ h => h) (by rfl) ?_ (by assumption) ?_
      rotate_left
      · intro w hSw; (try dsimp only at hSw); go_simp; try (with_reducible rfl)
      try simp only [Act.put, List.setIfInBounds_toArray, List.set_cons_zero, List.set_cons_succ]
      refine take_runs (i := 15) (v := ?_) (by simp only [List.getElem?_toArray, List.getElem?_cons_succ, List.getElem?_cons_zero]; rfl) (by kernel_rfl) (by kernel_rfl) (by kernel_rfl) rfl (by exact fun _ _ _ h => h) (by rfl) ?_ (by assumption) ?_
      rotate_left
      · intro w hSw; (try dsimp only at hSw); go_simp; try (with_reducible rfl)
      try simp only [Act.put, List.setIfInBounds_toArray, List.set_cons_zero, List.set_cons_succ]
      refine take_runs (i := 16) (v := ?_) (by simp only [List.getElem?_toArray, List.getElem?_cons_succ, List.getElem?_cons_zero]; rfl) (by kernel_rfl) (by kernel_rfl) (by kernel_rfl) rfl (by exact fun _ _ _ h => h) (by rfl) ?_ (by assumption) ?_
      rotate_left
      · intro w hSw; (try dsimp only at hSw); go_simp; try (with_reducible rfl)
      try simp only [Act.put, List.setIfInBounds_toArray, List.set_cons_zero, List.set_cons_succ]
      refine take_runs (i := 17) (v := ?_) (by simp only [List.getElem?_toArray, List.getElem?_cons_succ, List.getElem?_cons_zero]; rfl) (by kernel_rfl) (by kernel_rfl) (by kernel_rfl) rfl (by exact fun _ _ _ h => h) (by rfl) ?_ (by assumption) ?_
      rotate_left
      · intro w hSw; (try dsimp only at hSw); go_simp; try (with_reducible rfl)
      try simp only [Act.put, List.setIfInBounds_toArray, List.set_cons_zero, List.set_cons_succ]
      refine take_runs (i := 18) (v := ?_) (by simp only [List.getElem?_toArray, List.getElem?_cons_succ, List.getElem?_cons_zero]; rfl) (by kernel_rfl) (by kernel_rfl) (by kernel_rfl) rfl (by exact fun _ _ _ h => h) (by rfl) ?_ (by assumption) ?_
      rotate_left
      · intro w hSw; (try dsimp only at hSw); go_simp; try (with_reducible rfl)
      try simp only [Act.put, List.setIfInBounds_toArray, List.set_cons_zero, List.set_cons_succ]
      refine take_runs (i := 19) (v := ?_) (by simp only [List.getElem?_toArray, List.getElem?_cons_succ, List.getElem?_cons_zero]; rfl) (by kernel_rfl) (by kernel_rfl) (by kernel_rfl) rfl (by exact fun _ _ _ h => h) (by rfl) ?_ (by assumption) ?_
      rotate_left
      · intro w hSw; (try dsimp only at hSw); go_simp; try (with_reducible rfl)
      try simp only [Act.put, List.setIfInBounds_toArray, List.set_cons_zero, List.set_cons_succ]
      refine take_runs (i := 20) (v := ?_) (by simp only [List.getElem?_toArray, List.getElem?_cons_succ, List.getElem?_cons_zero]; rfl) (by kernel_rfl) (by kernel_rfl) (by kernel_rfl) rfl (by exact fun _ _ _ h => h) (by rfl) ?_ (by assumption) ?_
      rotate_left
      · intro w hSw; (try dsimp only at hSw); go_simp; try (with_reducible rfl)
      try simp only [Act.put, List.setIfInBounds_toArray, List.set_cons_zero, List.set_cons_succ]
      refine wpAnyH_ready (rs := [21]) (by kernel_rfl) (by simp) ?_
      refine (AllReadyH.cons (o := _) (by simp only [List.getElem?_toArray, List.getElem?_cons_succ, List.getElem?_cons_zero]; rfl) (fun K hK => ?_) AllReadyH.nil)
      go_simp
      refine (specOne id bo di (.slice xa xs.length xc) xs Wd (slR_below tInt_law HX.out d.out) HXL.out).mono ?_
      rintro e w5 ⟨cs, rfl, ow, c5⟩
      have ox : tVersion.O w5 (fun q => wr.heap.size ≤ q) cs (id, xs, bo, di) := tVersion_law.mono ow (fun q hq => Nat.le_trans Z_dr.out hq)
      obtain ⟨u1, K1, rfl, o1, q1⟩ := tVersion_O ox
      obtain ⟨ua, uc, rfl⟩ := slO_len o1
      have PX := Lib.hid (slO_mono o1 q1)
      replace PP := Lib.hid (slO_fresh tVersion_law PP.out c5)
      replace d := Lib.hid (d.out.trans (c5.mono d.out.size))
      have Z_w5 := Lib.hid (show Wd.heap.size ≤ w5.heap.size from c5.size)
      clear c5 ow ox o1 q1
      have p_C0 := (d.out.cell (p := ⟨b, off + k * 4, none⟩) HBL.out).trans C0.out
      have p_C1 := (d.out.cell (p := ⟨b, off + k * 4 + 1, none⟩) HBL.out).trans C1.out
      have p_C2 := (d.out.cell (p := ⟨b, off + k * 4 + 2, none⟩) HBL.out).trans C2.out
      have p_C3 := (d.out.cell (p := ⟨b, off + k * 4 + 3, none⟩) HBL.out).trans C3.out
      refine hK.out _ _ ⟨p_C0, p_C1, p_C2, p_C3⟩ (fun hHeld => ?_)
      clear p_C0 p_C1 p_C2 p_C3
      clear hK K
      try simp only [Act.put, List.setIfInBounds_toArray, List.set_cons_zero, List.set_cons_succ]
      refine wpAnyH_ready (rs := [22]) (by kernel_rfl) (by simp) ?_
      refine (AllReadyH.cons (o := _) (by simp only [List.getElem?_toArray, List.getElem?_cons_succ, List.getElem?_cons_zero]; rfl) (fun K hK => ?_) AllReadyH.nil)
      go_simp
      have hal : Below w5.heap.size w5 (w5.alloc (.cells #[.int .i64 id, .slice ua xs.length uc, .int .i64 bo, .int .i64 di] 115)) := (Below.refl _ _).alloc (Nat.le_refl _) _
      have Kd := d
      replace d := Lib.hid (d.out.trans (hal.mono d.out.size))
      clear hal
      have p_C0 := (d.out.cell (p := ⟨b, off + k * 4, none⟩) HBL.out).trans C0.out
      have p_C1 := (d.out.cell (p := ⟨b, off + k * 4 + 1, none⟩) HBL.out).trans C1.out
      have p_C2 := (d.out.cell (p := ⟨b, off + k * 4 + 2, none⟩) HBL.out).trans C2.out
      have p_C3 := (d.out.cell (p := ⟨b, off + k * 4 + 3, none⟩) HBL.out).trans C3.out
      refine hK.out _ _ ⟨p_C0, p_C1, p_C2, p_C3⟩ (fun hHeld => ?_)
      clear p_C0 p_C1 p_C2 p_C3
      clear hK K
      try simp only [Act.put, List.setIfInBounds_toArray, List.set_cons_zero, List.set_cons_succ]
      refine wpAnyH_ready (rs := [23]) (by kernel_rfl) (by simp) ?_
      refine (AllReadyH.cons (o := _) (by simp only [List.getElem?_toArray, List.getElem?_cons_succ, List.getElem?_cons_zero]; rfl) (fun K hK => ?_) AllReadyH.nil)
      have y0 := ZR.out
      have y1 := Z_dr.out
      have y2 := Z_w5.out
      have yd := Kd.out.size
      have hD : wr.heap.size ≤ w5.heap.size := by omega
      have hnew : tVersion.O w5 (fun q => wr.heap.size ≤ q) [.int .i64 id, .slice ua xs.length uc, .int .i64 bo, .int .i64 di] (id, xs, bo, di) := tVersion_mkO PX.out (fun q hq => hq)
      refine step_append_T tVersion_law info_T_Version Try.underlying61 rfl rfl (.tmp 12) (.tmp 34) rfl (since w) wr.heap.size _ (ys) rfl PP.out hD (fun q hq => Nat.le_trans ZR.out hq) HYL.out [.int .i64 id, .slice ua xs.length uc, .int .i64 bo, .int .i64 di] (id, xs, bo, di) hnew (by simp [Value.oneCell']) 1 _ rfl rfl ?_
      intro v' w7 oN tN
      rw [HTK.out] at oN
      have PN := Lib.hid oN
      have DN := Lib.hid (below_turn Kd.out tN (fun q hq => hq.1) yd)
      clear hnew hD oN tN yd PX Kd d PP y0 y1 y2
      have p_C0 := (DN.out.cell (p := ⟨b, off + k * 4, none⟩) HBL.out).trans C0.out
      have p_C1 := (DN.out.cell (p := ⟨b, off + k * 4 + 1, none⟩) HBL.out).trans C1.out
      have p_C2 := (DN.out.cell (p := ⟨b, off + k * 4 + 2, none⟩) HBL.out).trans C2.out
      have p_C3 := (DN.out.cell (p := ⟨b, off + k * 4 + 3, none⟩) HBL.out).trans C3.out
      refine hK.out _ _ ⟨p_C0, p_C1, p_C2, p_C3⟩ (fun hHeld => ?_)
      clear p_C0 p_C1 p_C2 p_C3
      clear hK K
      try simp only [Act.put, List.setIfInBounds_toArray, List.set_cons_zero, List.set_cons_succ]
      refine take_runs (i := 24) (v := ?_) (by simp only [List.getElem?_toArray, List.getElem?_cons_succ, List.getElem?_cons_zero]; rfl) (by kernel_rfl) (by kernel_rfl) (by kernel_rfl) rfl (by exact fun _ _ _ h => h) (by rfl) ?_ (by assumption) ?_
      rotate_left
      · intro w hSw; (try dsimp only at hSw); go_simp; try (with_reducible rfl)
      try simp only [Act.put, List.setIfInBounds_toArray, List.set_cons_zero, List.set_cons_succ]
      refine wpAnyH_done (by kernel_rfl) ?_ _
      clear hHeld
      go_wp2
      go_roundw
      case rel => exact ⟨k + 1, by omega, by go_num, PN.out, DN.out⟩
      case measure => simp [intOf]; omega
    · obtain rfl : k = l.length := by omega
      rw [List.take_length] at hown
      obtain ⟨oa, oc, rfl⟩ := slO_len hown
      go_wp2
      go_ret
      exact ⟨_, rfl, hown, hbel⟩
end Go.Proofs.Ytdhglmoanpkeoaa
