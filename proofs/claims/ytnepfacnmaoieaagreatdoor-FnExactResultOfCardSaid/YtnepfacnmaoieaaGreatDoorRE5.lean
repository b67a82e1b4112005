/-
 Texts of the proof, merged: TChargeS, TEngine.
-/
import Derived.Test.YtnepfacnmaoieaaGreatDoorRE1
import Derived.BigQuiet
import Derived.Deep.QuietTactic
import Derived.Deep.RegionHeld3
namespace Go.Proofs.YtnepfacnmaoieaaGreatDoor
open Go.RowKit
set_option maxRecDepth 100000
set_option linter.unusedVariables false
set_option linter.unusedSimpArgs false
abbrev tChargeS : Ty (List (Int × Int × List Int × List Int × List Int)) := tSl 162 tCharge
theorem tChargeS_law : tChargeS.Law := tSl_law tCharge_law (by decide)
theorem tCharge_zero (w : World) : tCharge.O w (fun _ => False) #[.int .i64 0, .int .i64 0, .slice none 0 0, .slice none 0 0, .slice none 0 0].toList tCharge.d := tCharge_mkO (slO_nil _ _ _ (fun _ => False)) (slO_nil _ _ _ (fun _ => False)) (slO_nil _ _ _ (fun _ => False)) (fun b h => h) (fun b h => h) (fun b h => h) (fun b h _ => h) (fun b h _ => h) (fun b h _ => h)
set_option maxHeartbeats 8000000 in
theorem markChargeS_S (v : Value) (xs : List (Int × Int × List Int × List Int × List Int)) (F : Nat → Prop) (k : Int) (w : World) (h : SlO 162 tCharge w F v xs) (hs : zL tCharge xs ≤ 1048576) (k0 : 0 ≤ k) (k1 : k ≤ 1006632960) :
  Calls Tryz.prog 87 #[v, .int .i64 k] w fun e w' => e = .returned (.int .i64 (k + (ndL tCharge xs : Int))) ∧ SlO 162 tCharge w' F v (mAll tCharge xs k) ∧ Turn F w w' := by
 rw [← kAt_all]
 have HS := zh hs
 have hlen := zL_len hs
 rcases slO_form h with ⟨rfl, rfl⟩ | ⟨g, cap, rfl, hFg, hgw⟩
 ·
  have H := zh h
  clear h hs
  go_enter Tryz.func87, Tryz.ntmps87
  go_wp2
  go_loop [1, 5] (fun m i => i = .int .i64 0 ∧ m = .int .i64 k) (fun _ _ => 0)
  case atStart => exact ⟨rfl, rfl⟩
  case round =>
   obtain ⟨rfl, rfl⟩ := hrel
   go_wp2
   go_ret
   exact ⟨by simp [kAt, sumN], by rw [show mAll tCharge [] k = [] from rfl]; exact H.out, Turn.refl _ _⟩
 ·
  have H := zh h
  clear h hs
  go_enter Tryz.func87, Tryz.ntmps87
  go_wp2
  go_loopw [1, 5] (fun m i wr => ∃ j : Nat, j ≤ xs.length ∧ i = .int .i64 j ∧ m = .int .i64 (kAt tCharge xs k j) ∧ SlO 162 tCharge wr (fun b => F b ∧ b < w.heap.size) (.slice (some ⟨g, 0, none⟩) xs.length cap) (mTo tCharge xs k j) ∧ Turn F w wr) (fun _ i _ => xs.length - (intOf i).toNat)
  case atStart => exact ⟨0, Nat.zero_le _, rfl, by rw [kAt_zero], by rw [mTo_zero]; exact slO_lt tCharge_law H.out, Turn.refl _ _⟩
  case round =>
   obtain ⟨j, hj, rfl, rfl, hown, hon⟩ := hrel
   by_cases hlt : j < xs.length
   ·
    have i1 : (0 : Int) ≤ (j : Int) := by omega
    have i2 : (j : Int) < (xs.length : Int) := by omega
    have hjl : j < (mTo tCharge xs k j).length := by rw [mTo_len hj]; exact hlt
    have HLL := zh (mTo_len (T := tCharge) (k := k) hj)
    obtain ⟨r1, r2⟩ := kAt_range tCharge_law (by decide) (k := k) HS.out hj
    obtain ⟨r3, r4⟩ := kAt_range tCharge_law (by decide) (k := k) (j := j + 1) HS.out (by omega)
    have hzx := zL_at HS.out hlt
    have hstep := kAt_step (T := tCharge) (k := k) hlt
    have hset := mTo_step (T := tCharge) (k := k) hlt
    have hsz := hon.size
    obtain ⟨hme, hFg2, hgl, cj, Fj, Lc, hrow, hLc, hO, hFj, hput⟩ := slO_open tCharge_law hown hjl
    clear hme hFg2
    rw [mTo_at hlt] at hO
    have HM : Hid (∃ m', kAt tCharge xs k (j + 1) = m') := zh ⟨_, rfl⟩
    obtain ⟨m', hm'⟩ := HM.out
    rw [hm'] at hstep r3 r4
    have HM' := zh hm'
    clear hm' HM H hown hjl
    generalize kAt tCharge xs k j = m at *
    generalize xs.getD j tCharge.d = x at *
    rw [HLL.out] at hrow hput
    obtain ⟨a0, a1, x2, x3, x4⟩ := x
    rw [tCharge_md] at hset
    rw [tCharge_nd] at hstep
    rw [tCharge_sz] at hzx
    obtain ⟨v2, v3, v4, K2, K3, K4, rfl, o2, o3, o4, q2, q3, q4, d2_3, d2_4, d3_4⟩ := tCharge_O hO
    have S2 := zh (show zL tInt x2 ≤ 1048576 by omega)
    have N2 := ndL_le tInt_law (by decide) x2
    have S3 := zh (show zL tInt x3 ≤ 1048576 by omega)
    have N3 := ndL_le tInt_law (by decide) x3
    have S4 := zh (show zL tInt x4 ≤ 1048576 by omega)
    have N4 := ndL_le tInt_law (by decide) x4
    have R2 : Hid (0 ≤ m + 1 + 1 ∧ m + 1 + 1 ≤ 1073741824) := zh (by omega)
    have R3 : Hid (0 ≤ m + 1 + 1 + (ndL tInt x2 : Int) ∧ m + 1 + 1 + (ndL tInt x2 : Int) ≤ 1073741824) := zh (by omega)
    have R4 : Hid (0 ≤ m + 1 + 1 + (ndL tInt x2 : Int) + (ndL tInt x3 : Int) ∧ m + 1 + 1 + (ndL tInt x2 : Int) + (ndL tInt x3 : Int) ≤ 1073741824) := zh (by omega)
    have hmm : m + 1 + 1 + (ndL tInt x2 : Int) + (ndL tInt x3 : Int) + (ndL tInt x4 : Int) = m' := by omega
    have HMM := zh hmm
    have hm0 : 0 ≤ m := by omega
    have hm1 : m ≤ 1073741824 := by omega
    clear hmm hstep hzx N2 N3 N4
    have hLl : Lc.length = xs.length * 5 := hrow.1
    have HSET := zh hset
    clear hset
    have tt : Turn (fun b => b = g ∨ Fj b ∨ wr.heap.size ≤ b) wr wr := Turn.refl _ _
    have rr := hrow
    have c0 : ∃ x, wr.cell? ⟨g, j * 5, none⟩ = some x := ⟨_, (World.ownsRow.cellAt rr (j * 5) (by show j * 5 < xs.length * 5; omega)).trans (List.getElem?_eq_getElem (by have h9 := rr.1; have h8 : xs.length * tCharge.n = xs.length * 5 := rfl; omega))⟩
    obtain ⟨y0, c0⟩ := c0
    have f0 := World.ownsRow.frozenAt rr (j * 5)
    have c1 : ∃ x, wr.cell? ⟨g, j * 5 + 1, none⟩ = some x := ⟨_, (World.ownsRow.cellAt rr (j * 5 + 1) (by show j * 5 + 1 < xs.length * 5; omega)).trans (List.getElem?_eq_getElem (by have h9 := rr.1; have h8 : xs.length * tCharge.n = xs.length * 5 := rfl; omega))⟩
    obtain ⟨y1, c1⟩ := c1
    have f1 := World.ownsRow.frozenAt rr (j * 5 + 1)
    have cv2 : wr.cell? ⟨g, j * 5 + 2, none⟩ = some v2 := (World.ownsRow.cellAt rr (j * 5 + 2) (by show j * 5 + 2 < xs.length * 5; omega)).trans (by exact hLc 2 (by decide))
    go_wp2_with fail
    clear c0 f0 c1 f1 cv2
    have ts : Turn (fun b => b = g) wr ((wr.setCell ⟨g, j * 5, none⟩ (.int .i64 (m))).setCell ⟨g, j * 5 + 1, none⟩ (.int .i64 (m + 1))) := (((Turn.refl (fun b => b = g) _).trans (turn_set (G := fun b => b = g) (g := g) (j := j * 5) (u := .int .i64 (m)) rfl)).trans (turn_set (G := fun b => b = g) (g := g) (j := j * 5 + 1) (u := .int .i64 (m + 1)) rfl))
    replace rr := (World.ownsRow.stored (World.ownsRow.stored rr (j * 5) (.int .i64 (m))).1 (j * 5 + 1) (.int .i64 (m + 1))).1
    replace o2 := slO_turn tInt_law o2 ts (fun b h1 h2 => (hFj b (q2 b h1)).2.1 h2)
    replace o3 := slO_turn tInt_law o3 ts (fun b h1 h2 => (hFj b (q3 b h1)).2.1 h2)
    replace o4 := slO_turn tInt_law o4 ts (fun b h1 h2 => (hFj b (q4 b h1)).2.1 h2)
    replace tt := tt.trans (ts.mono (fun b h => Or.inl h))
    clear ts
    generalize ((wr.setCell ⟨g, j * 5, none⟩ (.int .i64 (m))).setCell ⟨g, j * 5 + 1, none⟩ (.int .i64 (m + 1))) = W0 at *
    refine (markIntS_S v2 x2 _ (m + 1 + 1) W0 o2 S2.out R2.out.1 (by have := R2.out.2; omega)).mono ?_
    rintro e w1 ⟨rfl, m2, t1⟩
    replace rr := row_turn rr t1 (fun b hb h => by simp [Value.ownBlock] at hb; exact (hFj b (q2 b h)).2.1 hb.symm)
    replace o2 := m2
    replace o3 := slO_turn tInt_law o3 t1 (fun b h1 h2 => d2_3 b h2 h1)
    replace o4 := slO_turn tInt_law o4 t1 (fun b h1 h2 => d2_4 b h2 h1)
    replace tt := tt.trans (t1.mono (fun b h => Or.inr (Or.inl (q2 b h))))
    clear t1
    have cv3 : w1.cell? ⟨g, j * 5 + 3, none⟩ = some v3 := (World.ownsRow.cellAt rr (j * 5 + 3) (by show j * 5 + 3 < xs.length * 5; omega)).trans (by rw [List.getElem?_set_ne (by omega)]; rw [List.getElem?_set_ne (by omega)]; exact hLc 3 (by decide))
    go_wp2_with fail
    clear cv3
    refine (markIntS_S v3 x3 _ (m + 1 + 1 + (ndL tInt x2 : Int)) w1 o3 S3.out R3.out.1 (by have := R3.out.2; omega)).mono ?_
    rintro e w2 ⟨rfl, m3, t1⟩
    replace rr := row_turn rr t1 (fun b hb h => by simp [Value.ownBlock] at hb; exact (hFj b (q3 b h)).2.1 hb.symm)
    replace o2 := slO_turn tInt_law o2 t1 (fun b h1 h2 => d2_3 b h1 h2)
    replace o3 := m3
    replace o4 := slO_turn tInt_law o4 t1 (fun b h1 h2 => d3_4 b h2 h1)
    replace tt := tt.trans (t1.mono (fun b h => Or.inr (Or.inl (q3 b h))))
    clear t1
    have cv4 : w2.cell? ⟨g, j * 5 + 4, none⟩ = some v4 := (World.ownsRow.cellAt rr (j * 5 + 4) (by show j * 5 + 4 < xs.length * 5; omega)).trans (by rw [List.getElem?_set_ne (by omega)]; rw [List.getElem?_set_ne (by omega)]; exact hLc 4 (by decide))
    go_wp2_with fail
    clear cv4
    refine (markIntS_S v4 x4 _ (m + 1 + 1 + (ndL tInt x2 : Int) + (ndL tInt x3 : Int)) w2 o4 S4.out R4.out.1 (by have := R4.out.2; omega)).mono ?_
    rintro e w3 ⟨rfl, m4, t1⟩
    replace rr := row_turn rr t1 (fun b hb h => by simp [Value.ownBlock] at hb; exact (hFj b (q4 b h)).2.1 hb.symm)
    replace o2 := slO_turn tInt_law o2 t1 (fun b h1 h2 => d2_4 b h1 h2)
    replace o3 := slO_turn tInt_law o3 t1 (fun b h1 h2 => d3_4 b h1 h2)
    replace o4 := m4
    replace tt := tt.trans (t1.mono (fun b h => Or.inr (Or.inl (q4 b h))))
    clear t1
    have hO2 := tCharge_mkO (F := Fj) (a0 := m) (a1 := m + 1) o2 o3 o4 q2 q3 q4 d2_3 d2_4 d3_4
    have hst := hput w3 ((Lc.set (j * 5) (.int .i64 (m))).set (j * 5 + 1) (.int .i64 (m + 1))) [.int .i64 (m), .int .i64 (m + 1), v2, v3, v4] Fj _ rr (fun p hp => by have hp2 : p < j * 5 ∨ j * 5 + 5 ≤ p := hp; rw [List.getElem?_set_ne (by omega)]; rw [List.getElem?_set_ne (by omega)]) (fun i hi => by have hi' : i < 5 := hi; match i, hi' with | 0, _ => (show (((Lc.set (j * 5) (.int .i64 (m))).set (j * 5 + 1) (.int .i64 (m + 1))))[j * 5]? = _; rw [List.getElem?_set_ne (by omega)]; rw [List.getElem?_set_self (by first | omega | (simp only [List.length_set]; omega))]; rfl) | 1, _ => (show (((Lc.set (j * 5) (.int .i64 (m))).set (j * 5 + 1) (.int .i64 (m + 1))))[j * 5 + 1]? = _; rw [List.getElem?_set_self (by first | omega | (simp only [List.length_set]; omega))]; rfl) | 2, _ => (show (((Lc.set (j * 5) (.int .i64 (m))).set (j * 5 + 1) (.int .i64 (m + 1))))[j * 5 + 2]? = _; rw [List.getElem?_set_ne (by omega)]; rw [List.getElem?_set_ne (by omega)]; exact hLc 2 (by decide)) | 3, _ => (show (((Lc.set (j * 5) (.int .i64 (m))).set (j * 5 + 1) (.int .i64 (m + 1))))[j * 5 + 3]? = _; rw [List.getElem?_set_ne (by omega)]; rw [List.getElem?_set_ne (by omega)]; exact hLc 3 (by decide)) | 4, _ => (show (((Lc.set (j * 5) (.int .i64 (m))).set (j * 5 + 1) (.int .i64 (m + 1))))[j * 5 + 4]? = _; rw [List.getElem?_set_ne (by omega)]; rw [List.getElem?_set_ne (by omega)]; exact hLc 4 (by decide))) hO2 (fun b hb => ⟨(hFj b hb).1, Or.inl hb⟩) tt
    rw [HSET.out] at hst
    have HST := zh hst
    have hon2 := hon.trans (Turn.mono (G := fun b => F b ∧ b < w.heap.size) (G' := F) ⟨tt.os, tt.tape, tt.output, tt.size, fun b hb hn => tt.block b hb (fun h => hn (h.elim (fun h => by rw [h]; exact ⟨hFg, hgw⟩) (fun h => h.elim (fun h => (hFj b h).1) (fun h => absurd hb (Nat.not_lt.2 h)))))⟩ (fun b h => h.1))
    clear hst hput tt rr hO2 hon hFj hLc hLl o2 o3 o4
    rw [HMM.out]
    go_wp2
    go_roundw
    case rel => exact ⟨j + 1, by omega, by go_num, by rw [HM'.out], HST.out, hon2⟩
    case measure => simp [intOf]; omega
   ·
    obtain rfl : j = xs.length := by omega
    rw [mTo_all] at hown
    go_wp2
    go_ret
    refine ⟨?_, slO_mono hown (fun b h => h.1), hon⟩
    simp
def tEngine : Ty ((List (List (Int × List Int × Int × Int)) × Int) × Int × List Int × List ((Int × Int × List (Int × Int × Int) × List Int) × Int × List Int × Int × Int × Int × List (Int × List Int)) × List ((Int × Int × List (Int × Int × Int) × List Int) × Int × Int × List (Int × List Int)) × List (Int × Int × List Int × List Int × List Int) × Int) := tPair tStore (tPair tInt (tPair tIntES (tPair tActiveS (tPair tFinishedS (tPair tChargeS tInt)))))
theorem tEngine_law : tEngine.Law := tPair_law tStore_law (tPair_law tInt_law (tPair_law tIntES_law (tPair_law tActiveS_law (tPair_law tFinishedS_law (tPair_law tChargeS_law tInt_law)))))
theorem tEngine_R {w : World} {cs : List Value} {x0 : List (List (Int × List Int × Int × Int))} {a1 : Int} {a2 : Int} {x3 : List Int} {x4 : List ((Int × Int × List (Int × Int × Int) × List Int) × Int × List Int × Int × Int × Int × List (Int × List Int))} {x5 : List ((Int × Int × List (Int × Int × Int) × List Int) × Int × Int × List (Int × List Int))} {x6 : List (Int × Int × List Int × List Int × List Int)} {a7 : Int} (h : tEngine.R w cs ((x0, a1), a2, x3, x4, x5, x6, a7)) : ∃ v0 v3 v4 v5 v6, cs = [v0, .int .i64 a1, .int .i64 a2, v3, v4, v5, v6, .int .i64 a7] ∧ SlR tVersionS w v0 x0 ∧ SlR tInt w v3 x3 ∧ SlR tActive w v4 x4 ∧ SlR tFinished w v5 x5 ∧ SlR tCharge w v6 x6 := by
 obtain ⟨_, _, rfl, ⟨_, _, rfl, ⟨v0, rfl, h0⟩, rfl⟩, ⟨_, _, rfl, rfl, ⟨_, _, rfl, ⟨v3, rfl, h3⟩, ⟨_, _, rfl, ⟨v4, rfl, h4⟩, ⟨_, _, rfl, ⟨v5, rfl, h5⟩, ⟨_, _, rfl, ⟨v6, rfl, h6⟩, rfl⟩⟩⟩⟩⟩⟩ := h
 exact ⟨_, _, _, _, _, rfl, h0, h3, h4, h5, h6⟩
theorem tEngine_sz {x0 : List (List (Int × List Int × Int × Int))} {a1 : Int} {a2 : Int} {x3 : List Int} {x4 : List ((Int × Int × List (Int × Int × Int) × List Int) × Int × List Int × Int × Int × Int × List (Int × List Int))} {x5 : List ((Int × Int × List (Int × Int × Int) × List Int) × Int × Int × List (Int × List Int))} {x6 : List (Int × Int × List Int × List Int × List Int)} {a7 : Int} : tEngine.sz ((x0, a1), a2, x3, x4, x5, x6, a7) = zL tVersionS x0 + zL tInt x3 + zL tActive x4 + zL tFinished x5 + zL tCharge x6 := by
 simp only [tEngine, tPair_sz, tPair_nd, tPair_nv, tInt_sz, tInt_nd, tInt_nv, tSl_sz, tSl_nd, tSl_nv, tStore, tIntES_sz, tIntES_nd, tIntES_nv, tIntES_md, tIntES_mv]
 try omega
theorem tEngine_nv {x0 : List (List (Int × List Int × Int × Int))} {a1 : Int} {a2 : Int} {x3 : List Int} {x4 : List ((Int × Int × List (Int × Int × Int) × List Int) × Int × List Int × Int × Int × Int × List (Int × List Int))} {x5 : List ((Int × Int × List (Int × Int × Int) × List Int) × Int × Int × List (Int × List Int))} {x6 : List (Int × Int × List Int × List Int × List Int)} {a7 : Int} : tEngine.nv ((x0, a1), a2, x3, x4, x5, x6, a7) = 0 + ndL tVersionS x0 + ndL tInt x3 + ndL tActive x4 + ndL tFinished x5 + ndL tCharge x6 := by
 simp only [tEngine, tPair_sz, tPair_nd, tPair_nv, tInt_sz, tInt_nd, tInt_nv, tSl_sz, tSl_nd, tSl_nv, tStore, tIntES_sz, tIntES_nd, tIntES_nv, tIntES_md, tIntES_mv]
 try omega
theorem tEngine_mv {x0 : List (List (Int × List Int × Int × Int))} {a1 : Int} {a2 : Int} {x3 : List Int} {x4 : List ((Int × Int × List (Int × Int × Int) × List Int) × Int × List Int × Int × Int × Int × List (Int × List Int))} {x5 : List ((Int × Int × List (Int × Int × Int) × List Int) × Int × Int × List (Int × List Int))} {x6 : List (Int × Int × List Int × List Int × List Int)} {a7 : Int} {k : Int} : tEngine.mv ((x0, a1), a2, x3, x4, x5, x6, a7) k = ((mAll tVersionS x0 (k), a1), a2, mAll tInt x3 (k + (ndL tVersionS x0 : Int)), mAll tActive x4 (k + (ndL tVersionS x0 : Int) + (ndL tInt x3 : Int)), mAll tFinished x5 (k + (ndL tVersionS x0 : Int) + (ndL tInt x3 : Int) + (ndL tActive x4 : Int)), mAll tCharge x6 (k + (ndL tVersionS x0 : Int) + (ndL tInt x3 : Int) + (ndL tActive x4 : Int) + (ndL tFinished x5 : Int)), a7) := by
 simp only [tEngine, tPair_md, tPair_mv, tPair_nd, tPair_nv, tInt_md, tInt_mv, tInt_nd, tInt_nv, tSl_md, tSl_mv, tSl_nd, tSl_nv, tStore, tIntES_sz, tIntES_nd, tIntES_nv, tIntES_md, tIntES_mv, Int.natCast_add, Int.natCast_zero, Int.natCast_one, Int.add_zero, Int.zero_add, Int.add_assoc]
theorem tEngine_O {w : World} {F : Nat → Prop} {cs : List Value} {x0 : List (List (Int × List Int × Int × Int))} {a1 : Int} {a2 : Int} {x3 : List Int} {x4 : List ((Int × Int × List (Int × Int × Int) × List Int) × Int × List Int × Int × Int × Int × List (Int × List Int))} {x5 : List ((Int × Int × List (Int × Int × Int) × List Int) × Int × Int × List (Int × List Int))} {x6 : List (Int × Int × List Int × List Int × List Int)} {a7 : Int} (h : tEngine.O w F cs ((x0, a1), a2, x3, x4, x5, x6, a7)) : ∃ v0 v3 v4 v5 v6, ∃ e3 : TypeId, ∃ F0 F3 F4 F5 F6 : Nat → Prop, cs = [v0, .int .i64 a1, .int .i64 a2, v3, v4, v5, v6, .int .i64 a7] ∧ SlO 213 tVersionS w F0 v0 x0 ∧ SlO e3 tInt w F3 v3 x3 ∧ SlO 104 tActive w F4 v4 x4 ∧ SlO 59 tFinished w F5 v5 x5 ∧ SlO 162 tCharge w F6 v6 x6 ∧ (∀ b, F0 b → F b) ∧ (∀ b, F3 b → F b) ∧ (∀ b, F4 b → F b) ∧ (∀ b, F5 b → F b) ∧ (∀ b, F6 b → F b) ∧ (∀ b, F0 b → ¬ F3 b) ∧ (∀ b, F0 b → ¬ F4 b) ∧ (∀ b, F0 b → ¬ F5 b) ∧ (∀ b, F0 b → ¬ F6 b) ∧ (∀ b, F3 b → ¬ F4 b) ∧ (∀ b, F3 b → ¬ F5 b) ∧ (∀ b, F3 b → ¬ F6 b) ∧ (∀ b, F4 b → ¬ F5 b) ∧ (∀ b, F4 b → ¬ F6 b) ∧ (∀ b, F5 b → ¬ F6 b) := by
 obtain ⟨_, _, F0_1, F0_2, rfl, ⟨_, _, F1_1, F1_2, rfl, ⟨v0, rfl, h0⟩, rfl, s1_1, s1_2, d1⟩, ⟨_, _, F2_1, F2_2, rfl, rfl, ⟨_, _, F3_1, F3_2, rfl, ⟨v3, e3, rfl, h3⟩, ⟨_, _, F4_1, F4_2, rfl, ⟨v4, rfl, h4⟩, ⟨_, _, F5_1, F5_2, rfl, ⟨v5, rfl, h5⟩, ⟨_, _, F6_1, F6_2, rfl, ⟨v6, rfl, h6⟩, rfl, s6_1, s6_2, d6⟩, s5_1, s5_2, d5⟩, s4_1, s4_2, d4⟩, s3_1, s3_2, d3⟩, s2_1, s2_2, d2⟩, s0_1, s0_2, d0⟩ := h
 exact ⟨v0, v3, v4, v5, v6, e3, F1_1, F3_1, F4_1, F5_1, F6_1, rfl, h0, h3, h4, h5, h6, fun b h => (s0_1 b (s1_1 b h)), fun b h => (s0_2 b (s2_2 b (s3_1 b h))), fun b h => (s0_2 b (s2_2 b (s3_2 b (s4_1 b h)))), fun b h => (s0_2 b (s2_2 b (s3_2 b (s4_2 b (s5_1 b h))))), fun b h => (s0_2 b (s2_2 b (s3_2 b (s4_2 b (s5_2 b (s6_1 b h)))))), fun b h h2 => d0 b (s1_1 b h) (s2_2 b (s3_1 b h2)), fun b h h2 => d0 b (s1_1 b h) (s2_2 b (s3_2 b (s4_1 b h2))), fun b h h2 => d0 b (s1_1 b h) (s2_2 b (s3_2 b (s4_2 b (s5_1 b h2)))), fun b h h2 => d0 b (s1_1 b h) (s2_2 b (s3_2 b (s4_2 b (s5_2 b (s6_1 b h2))))), fun b h h2 => d3 b h (s4_1 b h2), fun b h h2 => d3 b h (s4_2 b (s5_1 b h2)), fun b h h2 => d3 b h (s4_2 b (s5_2 b (s6_1 b h2))), fun b h h2 => d4 b h (s5_1 b h2), fun b h h2 => d4 b h (s5_2 b (s6_1 b h2)), fun b h h2 => d5 b h (s6_1 b h2)⟩
theorem tEngine_mkO {w : World} {F : Nat → Prop} {x0 : List (List (Int × List Int × Int × Int))} {a1 : Int} {a2 : Int} {x3 : List Int} {x4 : List ((Int × Int × List (Int × Int × Int) × List Int) × Int × List Int × Int × Int × Int × List (Int × List Int))} {x5 : List ((Int × Int × List (Int × Int × Int) × List Int) × Int × Int × List (Int × List Int))} {x6 : List (Int × Int × List Int × List Int × List Int)} {a7 : Int} {e3 : TypeId} {v0 v3 v4 v5 v6 : Value} {F0 F3 F4 F5 F6 : Nat → Prop} (h0 : SlO 213 tVersionS w F0 v0 x0) (h3 : SlO e3 tInt w F3 v3 x3) (h4 : SlO 104 tActive w F4 v4 x4) (h5 : SlO 59 tFinished w F5 v5 x5) (h6 : SlO 162 tCharge w F6 v6 x6) (s0 : ∀ b, F0 b → F b) (s3 : ∀ b, F3 b → F b) (s4 : ∀ b, F4 b → F b) (s5 : ∀ b, F5 b → F b) (s6 : ∀ b, F6 b → F b) (d0_3 : ∀ b, F0 b → ¬ F3 b) (d0_4 : ∀ b, F0 b → ¬ F4 b) (d0_5 : ∀ b, F0 b → ¬ F5 b) (d0_6 : ∀ b, F0 b → ¬ F6 b) (d3_4 : ∀ b, F3 b → ¬ F4 b) (d3_5 : ∀ b, F3 b → ¬ F5 b) (d3_6 : ∀ b, F3 b → ¬ F6 b) (d4_5 : ∀ b, F4 b → ¬ F5 b) (d4_6 : ∀ b, F4 b → ¬ F6 b) (d5_6 : ∀ b, F5 b → ¬ F6 b) : tEngine.O w F [v0, .int .i64 a1, .int .i64 a2, v3, v4, v5, v6, .int .i64 a7] ((x0, a1), a2, x3, x4, x5, x6, a7) := ⟨[v0, .int .i64 a1], [.int .i64 a2, v3, v4, v5, v6, .int .i64 a7], F0, fun b => F3 b ∨ (F4 b ∨ (F5 b ∨ (F6 b))), rfl, ⟨[v0], [.int .i64 a1], F0, fun _ => False, rfl, ⟨_, rfl, h0⟩, rfl, (fun b h => h), (fun b h => (False.elim h)), (fun b h g => (False.elim g))⟩, ⟨[.int .i64 a2], [v3, v4, v5, v6, .int .i64 a7], fun _ => False, fun b => F3 b ∨ (F4 b ∨ (F5 b ∨ (F6 b))), rfl, rfl, ⟨[v3], [v4, v5, v6, .int .i64 a7], F3, fun b => F4 b ∨ (F5 b ∨ (F6 b)), rfl, ⟨_, _, rfl, h3⟩, ⟨[v4], [v5, v6, .int .i64 a7], F4, fun b => F5 b ∨ (F6 b), rfl, ⟨_, rfl, h4⟩, ⟨[v5], [v6, .int .i64 a7], F5, F6, rfl, ⟨_, rfl, h5⟩, ⟨[v6], [.int .i64 a7], F6, fun _ => False, rfl, ⟨_, rfl, h6⟩, rfl, (fun b h => h), (fun b h => (False.elim h)), (fun b h g => (False.elim g))⟩, (fun b h => (Or.inl h)), (fun b h => (Or.inr h)), (fun b h g => d5_6 b h g)⟩, (fun b h => (Or.inl h)), (fun b h => (h.elim (fun q0 => (Or.inr (Or.inl q0))) (fun q0 => (Or.inr (Or.inr q0))))), (fun b h g => (g.elim (fun q10 => d4_5 b h q10) (fun q10 => d4_6 b h q10)))⟩, (fun b h => (Or.inl h)), (fun b h => (h.elim (fun q0 => (Or.inr (Or.inl q0))) (fun q0 => (q0.elim (fun q1 => (Or.inr (Or.inr (Or.inl q1)))) (fun q1 => (Or.inr (Or.inr (Or.inr q1)))))))), (fun b h g => (g.elim (fun q10 => d3_4 b h q10) (fun q10 => (q10.elim (fun q11 => d3_5 b h q11) (fun q11 => d3_6 b h q11)))))⟩, (fun b h => (False.elim h)), (fun b h => (h.elim (fun q0 => (Or.inl q0)) (fun q0 => (q0.elim (fun q1 => (Or.inr (Or.inl q1))) (fun q1 => (q1.elim (fun q2 => (Or.inr (Or.inr (Or.inl q2)))) (fun q2 => (Or.inr (Or.inr (Or.inr q2)))))))))), (fun b h g => (False.elim h))⟩, (fun b h => s0 b h), (fun b h => (h.elim (fun q0 => s3 b q0) (fun q0 => (q0.elim (fun q1 => s4 b q1) (fun q1 => (q1.elim (fun q2 => s5 b q2) (fun q2 => s6 b q2))))))), (fun b h g => (g.elim (fun q10 => d0_3 b h q10) (fun q10 => (q10.elim (fun q11 => d0_4 b h q11) (fun q11 => (q11.elim (fun q12 => d0_5 b h q12) (fun q12 => d0_6 b h q12)))))))⟩
set_option maxHeartbeats 8000000 in
theorem markEngine_T {ety3 : TypeId} (a1 a2 a7 : Int) (v0 v3 v4 v5 v6 : Value) (x0 : List (List (Int × List Int × Int × Int))) (x3 : List Int) (x4 : List ((Int × Int × List (Int × Int × Int) × List Int) × Int × List Int × Int × Int × Int × List (Int × List Int))) (x5 : List ((Int × Int × List (Int × Int × Int) × List Int) × Int × Int × List (Int × List Int))) (x6 : List (Int × Int × List Int × List Int × List Int)) (F F0 F3 F4 F5 F6 : Nat → Prop) (k : Int) (w : World) (h0 : SlO 213 tVersionS w F0 v0 x0) (h3 : SlO ety3 tInt w F3 v3 x3) (h4 : SlO 104 tActive w F4 v4 x4) (h5 : SlO 59 tFinished w F5 v5 x5) (h6 : SlO 162 tCharge w F6 v6 x6) (q0 : ∀ b, F0 b → F b) (q3 : ∀ b, F3 b → F b) (q4 : ∀ b, F4 b → F b) (q5 : ∀ b, F5 b → F b) (q6 : ∀ b, F6 b → F b) (d0_3 : ∀ b, F0 b → ¬ F3 b) (d0_4 : ∀ b, F0 b → ¬ F4 b) (d0_5 : ∀ b, F0 b → ¬ F5 b) (d0_6 : ∀ b, F0 b → ¬ F6 b) (d3_4 : ∀ b, F3 b → ¬ F4 b) (d3_5 : ∀ b, F3 b → ¬ F5 b) (d3_6 : ∀ b, F3 b → ¬ F6 b) (d4_5 : ∀ b, F4 b → ¬ F5 b) (d4_6 : ∀ b, F4 b → ¬ F6 b) (d5_6 : ∀ b, F5 b → ¬ F6 b) (s0 : zL tVersionS x0 ≤ 1048576) (s3 : zL tInt x3 ≤ 1048576) (s4 : zL tActive x4 ≤ 1048576) (s5 : zL tFinished x5 ≤ 1048576) (s6 : zL tCharge x6 ≤ 1048576) (k0 : 0 ≤ k) (k1 : k ≤ 268435456) :
  Calls Tryz.prog 28 #[.agg #[v0, .int .i64 a1, .int .i64 a2, v3, v4, v5, v6, .int .i64 a7], .int .i64 k] w fun e w' => e = .returned (.int .i64 (k + (ndL tVersionS x0 : Int) + (ndL tInt x3 : Int) + (ndL tActive x4 : Int) + (ndL tFinished x5 : Int) + (ndL tCharge x6 : Int))) ∧ (SlO 213 tVersionS w' F0 v0 (mAll tVersionS x0 (k)) ∧ SlO ety3 tInt w' F3 v3 (mAll tInt x3 (k + (ndL tVersionS x0 : Int))) ∧ SlO 104 tActive w' F4 v4 (mAll tActive x4 (k + (ndL tVersionS x0 : Int) + (ndL tInt x3 : Int))) ∧ SlO 59 tFinished w' F5 v5 (mAll tFinished x5 (k + (ndL tVersionS x0 : Int) + (ndL tInt x3 : Int) + (ndL tActive x4 : Int))) ∧ SlO 162 tCharge w' F6 v6 (mAll tCharge x6 (k + (ndL tVersionS x0 : Int) + (ndL tInt x3 : Int) + (ndL tActive x4 : Int) + (ndL tFinished x5 : Int)))) ∧ Turn F w w' := by
 have S0 := zh s0
 have N0 := ndL_le tVersionS_law (by decide) x0
 have S3 := zh s3
 have N3 := ndL_le tInt_law (by decide) x3
 have S4 := zh s4
 have N4 := ndL_le tActive_law (by decide) x4
 have S5 := zh s5
 have N5 := ndL_le tFinished_law (by decide) x5
 have S6 := zh s6
 have N6 := ndL_le tCharge_law (by decide) x6
 have R0 : Hid (0 ≤ k ∧ k ≤ 536870912) := zh (by omega)
 have R3 : Hid (0 ≤ k + (ndL tVersionS x0 : Int) ∧ k + (ndL tVersionS x0 : Int) ≤ 536870912) := zh (by omega)
 have R4 : Hid (0 ≤ k + (ndL tVersionS x0 : Int) + (ndL tInt x3 : Int) ∧ k + (ndL tVersionS x0 : Int) + (ndL tInt x3 : Int) ≤ 536870912) := zh (by omega)
 have R5 : Hid (0 ≤ k + (ndL tVersionS x0 : Int) + (ndL tInt x3 : Int) + (ndL tActive x4 : Int) ∧ k + (ndL tVersionS x0 : Int) + (ndL tInt x3 : Int) + (ndL tActive x4 : Int) ≤ 536870912) := zh (by omega)
 have R6 : Hid (0 ≤ k + (ndL tVersionS x0 : Int) + (ndL tInt x3 : Int) + (ndL tActive x4 : Int) + (ndL tFinished x5 : Int) ∧ k + (ndL tVersionS x0 : Int) + (ndL tInt x3 : Int) + (ndL tActive x4 : Int) + (ndL tFinished x5 : Int) ≤ 536870912) := zh (by omega)
 have RE : Hid (0 ≤ k + (ndL tVersionS x0 : Int) + (ndL tInt x3 : Int) + (ndL tActive x4 : Int) + (ndL tFinished x5 : Int) + (ndL tCharge x6 : Int)) := zh (by omega)
 clear N0 N3 N4 N5 N6
 have O0 := zh (slO_lt tVersionS_law h0)
 have O3 := zh (slO_lt tInt_law h3)
 have O4 := zh (slO_lt tActive_law h4)
 have O5 := zh (slO_lt tFinished_law h5)
 have O6 := zh (slO_lt tCharge_law h6)
 clear h0 s0 h3 s3 h4 s4 h5 s5 h6 s6
 go_enter Tryz.func28, Tryz.ntmps28
 go_wp2_with fail
 have hb : Below w.heap.size w (w.alloc (.cells #[v0, .int .i64 a1, .int .i64 a2, v3, v4, v5, v6, .int .i64 a7] 40)) := (Below.refl _ w).alloc (Nat.le_refl _) _
 have g0 : (w.alloc (.cells #[v0, .int .i64 a1, .int .i64 a2, v3, v4, v5, v6, .int .i64 a7] 40)).heap[w.heap.size]? = some (.cells #[v0, .int .i64 a1, .int .i64 a2, v3, v4, v5, v6, .int .i64 a7] 40 (0, 0)) := heap_alloc_new w _
 have hz : w.heap.size < (w.alloc (.cells #[v0, .int .i64 a1, .int .i64 a2, v3, v4, v5, v6, .int .i64 a7] 40)).heap.size := by simp [World.size_alloc]
 have ht : Turn F w (w.alloc (.cells #[v0, .int .i64 a1, .int .i64 a2, v3, v4, v5, v6, .int .i64 a7] 40)) := turn_below hb
 replace O0 := zf tVersionS_law O0 hb
 replace O3 := zf tInt_law O3 hb
 replace O4 := zf tActive_law O4 hb
 replace O5 := zf tFinished_law O5 hb
 replace O6 := zf tCharge_law O6 hb
 generalize (w.alloc (.cells #[v0, .int .i64 a1, .int .i64 a2, v3, v4, v5, v6, .int .i64 a7] 40)) = W at *
 refine (markStore_T a1 v0 x0 (fun b => (F0 b) ∧ b < w.heap.size) _ (k) W O0.out (fun b h => ⟨h.1, h.2⟩)  S0.out R0.out.1 (by have := R0.out.2; omega)).mono ?_
 rintro e w1 ⟨rfl, m0, t1⟩
 replace g0 := (t1.block _ hz (fun h => absurd h.2 (Nat.lt_irrefl _))).trans g0
 have zz0 := t1.size
 replace hz := Nat.lt_of_lt_of_le hz t1.size
 replace ht := ht.trans (t1.mono (fun b h => q0 b h.1))
 replace O0 := zh m0
 replace O3 := zt tInt_law O3 t1 (fun b h1 h2 => d0_3 b h2.1 h1.1)
 replace O4 := zt tActive_law O4 t1 (fun b h1 h2 => d0_4 b h2.1 h1.1)
 replace O5 := zt tFinished_law O5 t1 (fun b h1 h2 => d0_5 b h2.1 h1.1)
 replace O6 := zt tCharge_law O6 t1 (fun b h1 h2 => d0_6 b h2.1 h1.1)
 clear m0 t1
 have p3 := cr 3 (v3) g0
 go_wp2_with fail
 clear p3
 refine (markIntES_S v3 x3 _ (k + (ndL tVersionS x0 : Int)) w1 O3.out S3.out R3.out.1 (by have := R3.out.2; omega)).mono ?_
 rintro e w2 ⟨rfl, m3, t1⟩
 replace g0 := (t1.block _ hz (fun h => absurd h.2 (Nat.lt_irrefl _))).trans g0
 have zz1 := t1.size
 replace hz := Nat.lt_of_lt_of_le hz t1.size
 replace ht := ht.trans (t1.mono (fun b h => q3 b h.1))
 replace O0 := zt tVersionS_law O0 t1 (fun b h1 h2 => d0_3 b h1.1 h2.1)
 replace O3 := zh m3
 replace O4 := zt tActive_law O4 t1 (fun b h1 h2 => d3_4 b h2.1 h1.1)
 replace O5 := zt tFinished_law O5 t1 (fun b h1 h2 => d3_5 b h2.1 h1.1)
 replace O6 := zt tCharge_law O6 t1 (fun b h1 h2 => d3_6 b h2.1 h1.1)
 clear m3 t1
 have p4 := cr 4 (v4) g0
 go_wp2_with fail
 clear p4
 refine (markActiveS_S v4 x4 _ (k + (ndL tVersionS x0 : Int) + (ndL tInt x3 : Int)) w2 O4.out S4.out R4.out.1 (by have := R4.out.2; omega)).mono ?_
 rintro e w3 ⟨rfl, m4, t1⟩
 replace g0 := (t1.block _ hz (fun h => absurd h.2 (Nat.lt_irrefl _))).trans g0
 have zz2 := t1.size
 replace hz := Nat.lt_of_lt_of_le hz t1.size
 replace ht := ht.trans (t1.mono (fun b h => q4 b h.1))
 replace O0 := zt tVersionS_law O0 t1 (fun b h1 h2 => d0_4 b h1.1 h2.1)
 replace O3 := zt tInt_law O3 t1 (fun b h1 h2 => d3_4 b h1.1 h2.1)
 replace O4 := zh m4
 replace O5 := zt tFinished_law O5 t1 (fun b h1 h2 => d4_5 b h2.1 h1.1)
 replace O6 := zt tCharge_law O6 t1 (fun b h1 h2 => d4_6 b h2.1 h1.1)
 clear m4 t1
 have p5 := cr 5 (v5) g0
 go_wp2_with fail
 clear p5
 refine (markFinishedS_S v5 x5 _ (k + (ndL tVersionS x0 : Int) + (ndL tInt x3 : Int) + (ndL tActive x4 : Int)) w3 O5.out S5.out R5.out.1 (by have := R5.out.2; omega)).mono ?_
 rintro e w4 ⟨rfl, m5, t1⟩
 replace g0 := (t1.block _ hz (fun h => absurd h.2 (Nat.lt_irrefl _))).trans g0
 have zz3 := t1.size
 replace hz := Nat.lt_of_lt_of_le hz t1.size
 replace ht := ht.trans (t1.mono (fun b h => q5 b h.1))
 replace O0 := zt tVersionS_law O0 t1 (fun b h1 h2 => d0_5 b h1.1 h2.1)
 replace O3 := zt tInt_law O3 t1 (fun b h1 h2 => d3_5 b h1.1 h2.1)
 replace O4 := zt tActive_law O4 t1 (fun b h1 h2 => d4_5 b h1.1 h2.1)
 replace O5 := zh m5
 replace O6 := zt tCharge_law O6 t1 (fun b h1 h2 => d5_6 b h2.1 h1.1)
 clear m5 t1
 have p6 := cr 6 (v6) g0
 go_wp2_with fail
 clear p6
 refine (markChargeS_S v6 x6 _ (k + (ndL tVersionS x0 : Int) + (ndL tInt x3 : Int) + (ndL tActive x4 : Int) + (ndL tFinished x5 : Int)) w4 O6.out S6.out R6.out.1 (by have := R6.out.2; omega)).mono ?_
 rintro e w5 ⟨rfl, m6, t1⟩
 replace g0 := (t1.block _ hz (fun h => absurd h.2 (Nat.lt_irrefl _))).trans g0
 have zz4 := t1.size
 replace hz := Nat.lt_of_lt_of_le hz t1.size
 replace ht := ht.trans (t1.mono (fun b h => q6 b h.1))
 replace O0 := zt tVersionS_law O0 t1 (fun b h1 h2 => d0_6 b h1.1 h2.1)
 replace O3 := zt tInt_law O3 t1 (fun b h1 h2 => d3_6 b h1.1 h2.1)
 replace O4 := zt tActive_law O4 t1 (fun b h1 h2 => d4_6 b h1.1 h2.1)
 replace O5 := zt tFinished_law O5 t1 (fun b h1 h2 => d5_6 b h1.1 h2.1)
 replace O6 := zh m6
 clear m6 t1
 go_wp2
 go_ret
 exact ⟨rfl, ⟨slO_mono O0.out (fun b h => h.1), slO_mono O3.out (fun b h => h.1), slO_mono O4.out (fun b h => h.1), slO_mono O5.out (fun b h => h.1), slO_mono O6.out (fun b h => h.1)⟩, ht⟩
end Go.Proofs.YtnepfacnmaoieaaGreatDoor
