/-
 Texts of the proof, merged: TCharge, TChargeS, TEngine.
-/
import Derived.Test.YtnepfacnmaoieaaGreatDoorCA1
import Derived.BigQuiet
import Derived.Deep.QuietTactic
import Derived.Deep.RegionHeld3
namespace Go.Proofs.YtnepfacnmaoieaaGreatDoor
open Go.RowKit
open Go renaming heap_alloc_new → Ic
open Go.World renaming size_alloc → Ie
open List renaming getElem?_set_ne → Ig, getElem?_eq_getElem → Ih
open Nat renaming le_refl → Ii, zero_le → Ij
open Go.Value.slice renaming injEq → Ik
open Go.RowKit.Below renaming refl → Il
set_option maxRecDepth 100000
set_option linter.unusedVariables false
set_option linter.unusedSimpArgs false
def Jo : Ty (Int × Int × List Int × List Int × List Int) := Yl Je (Yl Je (Yl tIntS (Yl tIntS tIntS)))
theorem Jr : Jo.Law := Km Jc (Km Jc (Km Vm (Km Vm Vm)))
theorem tCharge_R {w : World} {cs : List Value} {a0 : Int} {a1 : Int} {x2 : List Int} {x3 : List Int} {x4 : List Int} (h : Jo.R w cs (a0, a1, x2, x3, x4)) : ∃ v2 v3 v4, cs = [.int .i64 a0, .int .i64 a1, v2, v3, v4] ∧ Ko Je w v2 x2 ∧ Ko Je w v3 x3 ∧ Ko Je w v4 x4 := by
 obtain ⟨_, _, rfl, rfl, ⟨_, _, rfl, rfl, ⟨_, _, rfl, ⟨v2, rfl, h2⟩, ⟨_, _, rfl, ⟨v3, rfl, h3⟩, ⟨v4, rfl, h4⟩⟩⟩⟩⟩ := h
 exact ⟨_, _, _, rfl, h2, h3, h4⟩
theorem tCharge_sz {a0 : Int} {a1 : Int} {x2 : List Int} {x3 : List Int} {x4 : List Int} : Jo.sz (a0, a1, x2, x3, x4) = zL Je x2 + zL Je x3 + zL Je x4 := by
 simp only [Jo, Vt, Vx, Vw, Yk, Yt, Ys, Xo, Xw, Xv]
 try omega
theorem tCharge_nd {a0 : Int} {a1 : Int} {x2 : List Int} {x3 : List Int} {x4 : List Int} : Jo.nd (a0, a1, x2, x3, x4) = 2 + Jq Je x2 + Jq Je x3 + Jq Je x4 := by
 simp only [Jo, Vt, Vx, Vw, Yk, Yt, Ys, Xo, Xw, Xv]
 try omega
theorem tCharge_md {a0 : Int} {a1 : Int} {x2 : List Int} {x3 : List Int} {x4 : List Int} {k : Int} : Jo.md (a0, a1, x2, x3, x4) k = ((k), (k + 1), Vo Je x2 (k + 1 + 1), Vo Je x3 (k + 1 + 1 + (Jq Je x2 : Int)), Vo Je x4 (k + 1 + 1 + (Jq Je x2 : Int) + (Jq Je x3 : Int))) := by
 simp only [Jo, tPair_md, tPair_mv, Vx, Vw, tInt_md, tInt_mv, Yt, Ys, tSl_md, tSl_mv, Xw, Xv, Int.natCast_add, Int.natCast_zero, Int.natCast_one, Int.add_zero, Int.zero_add, Int.add_assoc]
theorem tCharge_O {w : World} {F : Nat → Prop} {cs : List Value} {a0 : Int} {a1 : Int} {x2 : List Int} {x3 : List Int} {x4 : List Int} (h : Jo.O w F cs (a0, a1, x2, x3, x4)) : ∃ v2 v3 v4, ∃ F2 F3 F4 : Nat → Prop, cs = [.int .i64 a0, .int .i64 a1, v2, v3, v4] ∧ Kp 3 Je w F2 v2 x2 ∧ Kp 3 Je w F3 v3 x3 ∧ Kp 3 Je w F4 v4 x4 ∧ (∀ b, F2 b → F b) ∧ (∀ b, F3 b → F b) ∧ (∀ b, F4 b → F b) ∧ (∀ b, F2 b → ¬ F3 b) ∧ (∀ b, F2 b → ¬ F4 b) ∧ (∀ b, F3 b → ¬ F4 b) := by
 obtain ⟨_, _, F0_1, F0_2, rfl, rfl, ⟨_, _, F1_1, F1_2, rfl, rfl, ⟨_, _, F2_1, F2_2, rfl, ⟨v2, rfl, h2⟩, ⟨_, _, F3_1, F3_2, rfl, ⟨v3, rfl, h3⟩, ⟨v4, rfl, h4⟩, s3_1, s3_2, d3⟩, s2_1, s2_2, d2⟩, s1_1, s1_2, d1⟩, s0_1, s0_2, d0⟩ := h
 exact ⟨v2, v3, v4, F2_1, F3_1, F3_2, rfl, h2, h3, h4, fun b h => (s0_2 b (s1_2 b (s2_1 b h))), fun b h => (s0_2 b (s1_2 b (s2_2 b (s3_1 b h)))), fun b h => (s0_2 b (s1_2 b (s2_2 b (s3_2 b h)))), fun b h h2 => d2 b h (s3_1 b h2), fun b h h2 => d2 b h (s3_2 b h2), fun b h h2 => d3 b h h2⟩
theorem tCharge_mkO {w : World} {F : Nat → Prop} {a0 : Int} {a1 : Int} {x2 : List Int} {x3 : List Int} {x4 : List Int} {v2 v3 v4 : Value} {F2 F3 F4 : Nat → Prop} (h2 : Kp 3 Je w F2 v2 x2) (h3 : Kp 3 Je w F3 v3 x3) (h4 : Kp 3 Je w F4 v4 x4) (s2 : ∀ b, F2 b → F b) (s3 : ∀ b, F3 b → F b) (s4 : ∀ b, F4 b → F b) (d2_3 : ∀ b, F2 b → ¬ F3 b) (d2_4 : ∀ b, F2 b → ¬ F4 b) (d3_4 : ∀ b, F3 b → ¬ F4 b) : Jo.O w F [a0, a1, v2, v3, v4] (a0, a1, x2, x3, x4) := ⟨[a0], [a1, v2, v3, v4], fun _ => False, fun b => F2 b ∨ (F3 b ∨ (F4 b)), rfl, rfl, ⟨[a1], [v2, v3, v4], fun _ => False, fun b => F2 b ∨ (F3 b ∨ (F4 b)), rfl, rfl, ⟨[v2], [v3, v4], F2, fun b => F3 b ∨ (F4 b), rfl, ⟨_, rfl, h2⟩, ⟨[v3], [v4], F3, F4, rfl, ⟨_, rfl, h3⟩, ⟨_, rfl, h4⟩, (fun b h => (Or.inl h)), (fun b h => (Or.inr h)), (fun b h g => d3_4 b h g)⟩, (fun b h => (Or.inl h)), (fun b h => (h.elim (fun q0 => (Or.inr (Or.inl q0))) (fun q0 => (Or.inr (Or.inr q0))))), (fun b h g => (g.elim (fun q10 => d2_3 b h q10) (fun q10 => d2_4 b h q10)))⟩, (fun b h => (False.elim h)), (fun b h => (h.elim (fun q0 => (Or.inl q0)) (fun q0 => (q0.elim (fun q1 => (Or.inr (Or.inl q1))) (fun q1 => (Or.inr (Or.inr q1))))))), (fun b h g => (False.elim h))⟩, (fun b h => (False.elim h)), (fun b h => (h.elim (fun q0 => s2 b q0) (fun q0 => (q0.elim (fun q1 => s3 b q1) (fun q1 => s4 b q1))))), (fun b h g => (False.elim h))⟩
abbrev tChargeS : Ty (List (Int × Int × List Int × List Int × List Int)) := tSl 162 Jo
theorem tChargeS_law : tChargeS.Law := tSl_law Jr (by decide)
theorem tCharge_zero (w : World) : Jo.O w (fun _ => False) #[.int .i64 0, .int .i64 0, .slice none 0 0, .slice none 0 0, .slice none 0 0].toList Jo.d := tCharge_mkO (Ya _ _ _ (fun _ => False)) (Ya _ _ _ (fun _ => False)) (Ya _ _ _ (fun _ => False)) (fun b h => h) (fun b h => h) (fun b h => h) (fun b h _ => h) (fun b h _ => h) (fun b h _ => h)
set_option maxHeartbeats 8000000 in
theorem markChargeS_S (v : Value) (xs : List (Int × Int × List Int × List Int × List Int)) (F : Nat → Prop) (k : Int) (w : World) (h : Kp 162 Jo w F v xs) (hs : zL Jo xs ≤ 1048576) (k0 : 0 ≤ k) (k1 : k ≤ 1006632960) :
  Calls Tryz.prog 87 #[v, .int .i64 k] w fun e w' => e = .returned (.int .i64 (k + (Jq Jo xs : Int))) ∧ Kp 162 Jo w' F v (Vo Jo xs k) ∧ Kb F w w' := by
 rw [← Us]
 have HS := zh hs
 have hlen := Jz hs
 rcases Xi h with ⟨rfl, rfl⟩ | ⟨g, cap, rfl, hFg, hgw⟩
 ·
  have H := zh h
  clear h hs
  go_enter Tryz.func87, Tryz.ntmps87
  go_wp2
  go_loop [1, 5] (fun m i => i = .int .i64 0 ∧ m = .int .i64 k) (fun _ _ => 0)
  case atStart => exact ⟨rfl, rfl⟩
  case round =>
   obtain ⟨rfl, rfl⟩ := hrel
   go_wp2
   go_ret
   exact ⟨by simp [Ei, sumN], by rw [show Vo Jo [] k = [] from rfl]; exact H.out, Kb.refl _ _⟩
 ·
  have H := zh h
  clear h hs
  go_enter Tryz.func87, Tryz.ntmps87
  go_wp2
  go_loopw [1, 5] (fun m i wr => ∃ j : Nat, j ≤ xs.length ∧ i = .int .i64 j ∧ m = .int .i64 (Ei Jo xs k j) ∧ Kp 162 Jo wr (fun b => F b ∧ b < w.heap.size) (.slice (some ⟨g, 0, none⟩) xs.length cap) (mTo Jo xs k j) ∧ Kb F w wr) (fun _ i _ => xs.length - (intOf i).toNat)
  case atStart => exact ⟨0, Ij _, rfl, by rw [Xr], by rw [mTo_zero]; exact Kn Jr H.out, Kb.refl _ _⟩
  case round =>
   obtain ⟨j, hj, rfl, rfl, hown, hon⟩ := hrel
   by_cases hlt : j < xs.length
   ·
    have i1 : (0 : Int) ≤ (j : Int) := by omega
    have i2 : (j : Int) < (xs.length : Int) := by omega
    have hjl : j < (mTo Jo xs k j).length := by rw [Ur hj]; exact hlt
    have HLL := zh (Ur (T := Jo) (k := k) hj)
    obtain ⟨r1, r2⟩ := Vb Jr (by decide) (k := k) HS.out hj
    obtain ⟨r3, r4⟩ := Vb Jr (by decide) (k := k) (j := j + 1) HS.out (by omega)
    have hzx := Vj HS.out hlt
    have hstep := Xs (T := Jo) (k := k) hlt
    have hset := mTo_step (T := Jo) (k := k) hlt
    have hsz := hon.size
    obtain ⟨hme, hFg2, hgl, cj, Fj, Lc, hrow, hLc, hO, hFj, hput⟩ := Eb Jr hown hjl
    clear hme hFg2
    rw [mTo_at hlt] at hO
    have HM : Hid (∃ m', Ei Jo xs k (j + 1) = m') := zh ⟨_, rfl⟩
    obtain ⟨m', hm'⟩ := HM.out
    rw [hm'] at hstep r3 r4
    have HM' := zh hm'
    clear hm' HM H hown hjl
    generalize Ei Jo xs k j = m at *
    generalize xs.getD j Jo.d = x at *
    rw [HLL.out] at hrow hput
    obtain ⟨a0, a1, x2, x3, x4⟩ := x
    rw [tCharge_md] at hset
    rw [tCharge_nd] at hstep
    rw [tCharge_sz] at hzx
    obtain ⟨v2, v3, v4, K2, K3, K4, rfl, o2, o3, o4, q2, q3, q4, d2_3, d2_4, d3_4⟩ := tCharge_O hO
    have S2 := zh (show zL Je x2 ≤ 1048576 by omega)
    have N2 := Vd Jc (by decide) x2
    have S3 := zh (show zL Je x3 ≤ 1048576 by omega)
    have N3 := Vd Jc (by decide) x3
    have S4 := zh (show zL Je x4 ≤ 1048576 by omega)
    have N4 := Vd Jc (by decide) x4
    have R2 : Hid (0 ≤ m + 1 + 1 ∧ m + 1 + 1 ≤ 1073741824) := zh (by omega)
    have R3 : Hid (0 ≤ m + 1 + 1 + (Jq Je x2 : Int) ∧ m + 1 + 1 + (Jq Je x2 : Int) ≤ 1073741824) := zh (by omega)
    have R4 : Hid (0 ≤ m + 1 + 1 + (Jq Je x2 : Int) + (Jq Je x3 : Int) ∧ m + 1 + 1 + (Jq Je x2 : Int) + (Jq Je x3 : Int) ≤ 1073741824) := zh (by omega)
    have hmm : m + 1 + 1 + (Jq Je x2 : Int) + (Jq Je x3 : Int) + (Jq Je x4 : Int) = m' := by omega
    have HMM := zh hmm
    have hm0 : 0 ≤ m := by omega
    have hm1 : m ≤ 1073741824 := by omega
    clear hmm hstep hzx N2 N3 N4
    have hLl : Lc.length = xs.length * 5 := hrow.1
    have HSET := zh hset
    clear hset
    have tt : Kb (fun b => b = g ∨ Fj b ∨ wr.heap.size ≤ b) wr wr := Kb.refl _ _
    have rr := hrow
    have c0 : ∃ x, wr.cell? ⟨g, j * 5, none⟩ = some x := ⟨_, (World.ownsRow.cellAt rr (j * 5) (by show j * 5 < xs.length * 5; omega)).trans (Ih (by have h9 := rr.1; have h8 : xs.length * Jo.n = xs.length * 5 := rfl; omega))⟩
    obtain ⟨y0, c0⟩ := c0
    have f0 := World.ownsRow.frozenAt rr (j * 5)
    have c1 : ∃ x, wr.cell? ⟨g, j * 5 + 1, none⟩ = some x := ⟨_, (World.ownsRow.cellAt rr (j * 5 + 1) (by show j * 5 + 1 < xs.length * 5; omega)).trans (Ih (by have h9 := rr.1; have h8 : xs.length * Jo.n = xs.length * 5 := rfl; omega))⟩
    obtain ⟨y1, c1⟩ := c1
    have f1 := World.ownsRow.frozenAt rr (j * 5 + 1)
    have cv2 : wr.cell? ⟨g, j * 5 + 2, none⟩ = some v2 := (World.ownsRow.cellAt rr (j * 5 + 2) (by show j * 5 + 2 < xs.length * 5; omega)).trans (by exact hLc 2 (by decide))
    go_wp2_with fail
    clear c0 f0 c1 f1 cv2
    have ts : Kb (fun b => b = g) wr ((wr.setCell ⟨g, j * 5, none⟩ (.int .i64 (m))).setCell ⟨g, j * 5 + 1, none⟩ (.int .i64 (m + 1))) := (((Kb.refl (fun b => b = g) _).trans (Jm (G := fun b => b = g) (g := g) (j := j * 5) (u := .int .i64 (m)) rfl)).trans (Jm (G := fun b => b = g) (g := g) (j := j * 5 + 1) (u := .int .i64 (m + 1)) rfl))
    replace rr := (World.ownsRow.stored (World.ownsRow.stored rr (j * 5) (.int .i64 (m))).1 (j * 5 + 1) (.int .i64 (m + 1))).1
    replace o2 := Ka Jc o2 ts (fun b h1 h2 => (hFj b (q2 b h1)).2.1 h2)
    replace o3 := Ka Jc o3 ts (fun b h1 h2 => (hFj b (q3 b h1)).2.1 h2)
    replace o4 := Ka Jc o4 ts (fun b h1 h2 => (hFj b (q4 b h1)).2.1 h2)
    replace tt := tt.trans (ts.mono (fun b h => Or.inl h))
    clear ts
    generalize ((wr.setCell ⟨g, j * 5, none⟩ (.int .i64 (m))).setCell ⟨g, j * 5 + 1, none⟩ (.int .i64 (m + 1))) = W0 at *
    refine (Uu v2 x2 _ (m + 1 + 1) W0 o2 S2.out R2.out.1 (by have := R2.out.2; omega)).mono ?_
    rintro e w1 ⟨rfl, m2, t1⟩
    replace rr := Ym rr t1 (fun b hb h => by simp [Value.ownBlock] at hb; exact (hFj b (q2 b h)).2.1 hb.symm)
    replace o2 := m2
    replace o3 := Ka Jc o3 t1 (fun b h1 h2 => d2_3 b h2 h1)
    replace o4 := Ka Jc o4 t1 (fun b h1 h2 => d2_4 b h2 h1)
    replace tt := tt.trans (t1.mono (fun b h => Or.inr (Or.inl (q2 b h))))
    clear t1
    have cv3 : w1.cell? ⟨g, j * 5 + 3, none⟩ = some v3 := (World.ownsRow.cellAt rr (j * 5 + 3) (by show j * 5 + 3 < xs.length * 5; omega)).trans (by rw [Ig (by omega)]; rw [Ig (by omega)]; exact hLc 3 (by decide))
    go_wp2_with fail
    clear cv3
    refine (Uu v3 x3 _ (m + 1 + 1 + (Jq Je x2 : Int)) w1 o3 S3.out R3.out.1 (by have := R3.out.2; omega)).mono ?_
    rintro e w2 ⟨rfl, m3, t1⟩
    replace rr := Ym rr t1 (fun b hb h => by simp [Value.ownBlock] at hb; exact (hFj b (q3 b h)).2.1 hb.symm)
    replace o2 := Ka Jc o2 t1 (fun b h1 h2 => d2_3 b h1 h2)
    replace o3 := m3
    replace o4 := Ka Jc o4 t1 (fun b h1 h2 => d3_4 b h2 h1)
    replace tt := tt.trans (t1.mono (fun b h => Or.inr (Or.inl (q3 b h))))
    clear t1
    have cv4 : w2.cell? ⟨g, j * 5 + 4, none⟩ = some v4 := (World.ownsRow.cellAt rr (j * 5 + 4) (by show j * 5 + 4 < xs.length * 5; omega)).trans (by rw [Ig (by omega)]; rw [Ig (by omega)]; exact hLc 4 (by decide))
    go_wp2_with fail
    clear cv4
    refine (Uu v4 x4 _ (m + 1 + 1 + (Jq Je x2 : Int) + (Jq Je x3 : Int)) w2 o4 S4.out R4.out.1 (by have := R4.out.2; omega)).mono ?_
    rintro e w3 ⟨rfl, m4, t1⟩
    replace rr := Ym rr t1 (fun b hb h => by simp [Value.ownBlock] at hb; exact (hFj b (q4 b h)).2.1 hb.symm)
    replace o2 := Ka Jc o2 t1 (fun b h1 h2 => d2_4 b h1 h2)
    replace o3 := Ka Jc o3 t1 (fun b h1 h2 => d3_4 b h1 h2)
    replace o4 := m4
    replace tt := tt.trans (t1.mono (fun b h => Or.inr (Or.inl (q4 b h))))
    clear t1
    have hO2 := tCharge_mkO (F := Fj) (a0 := m) (a1 := m + 1) o2 o3 o4 q2 q3 q4 d2_3 d2_4 d3_4
    have hst := hput w3 ((Lc.set (j * 5) (.int .i64 (m))).set (j * 5 + 1) (.int .i64 (m + 1))) [.int .i64 (m), .int .i64 (m + 1), v2, v3, v4] Fj _ rr (fun p hp => by have hp2 : p < j * 5 ∨ j * 5 + 5 ≤ p := hp; rw [Ig (by omega)]; rw [Ig (by omega)]) (fun i hi => by have hi' : i < 5 := hi; match i, hi' with | 0, _ => (show (((Lc.set (j * 5) (.int .i64 (m))).set (j * 5 + 1) (.int .i64 (m + 1))))[j * 5]? = _; rw [Ig (by omega)]; rw [List.getElem?_set_self (by first | omega | (simp only [List.length_set]; omega))]; rfl) | 1, _ => (show (((Lc.set (j * 5) (.int .i64 (m))).set (j * 5 + 1) (.int .i64 (m + 1))))[j * 5 + 1]? = _; rw [List.getElem?_set_self (by first | omega | (simp only [List.length_set]; omega))]; rfl) | 2, _ => (show (((Lc.set (j * 5) (.int .i64 (m))).set (j * 5 + 1) (.int .i64 (m + 1))))[j * 5 + 2]? = _; rw [Ig (by omega)]; rw [Ig (by omega)]; exact hLc 2 (by decide)) | 3, _ => (show (((Lc.set (j * 5) (.int .i64 (m))).set (j * 5 + 1) (.int .i64 (m + 1))))[j * 5 + 3]? = _; rw [Ig (by omega)]; rw [Ig (by omega)]; exact hLc 3 (by decide)) | 4, _ => (show (((Lc.set (j * 5) (.int .i64 (m))).set (j * 5 + 1) (.int .i64 (m + 1))))[j * 5 + 4]? = _; rw [Ig (by omega)]; rw [Ig (by omega)]; exact hLc 4 (by decide))) hO2 (fun b hb => ⟨(hFj b hb).1, Or.inl hb⟩) tt
    rw [HSET.out] at hst
    have HST := zh hst
    have hon2 := hon.trans (Kb.mono (G := fun b => F b ∧ b < w.heap.size) (G' := F) ⟨tt.os, tt.tape, tt.output, tt.size, fun b hb hn => tt.block b hb (fun h => hn (h.elim (fun h => by rw [h]; exact ⟨hFg, hgw⟩) (fun h => h.elim (fun h => (hFj b h).1) (fun h => absurd hb (Nat.not_lt.2 h)))))⟩ (fun b h => h.1))
    clear hst hput tt rr hO2 hon hFj hLc hLl o2 o3 o4
    rw [HMM.out]
    go_wp2
    go_roundw
    case rel => exact ⟨j + 1, by omega, by go_num, by rw [HM'.out], HST.out, hon2⟩
    case measure => simp [intOf]; omega
   ·
    obtain rfl : j = xs.length := by omega
    rw [mTo_all] at hown
    go_wp2
    go_ret
    refine ⟨?_, Ky hown (fun b h => h.1), hon⟩
    simp
set_option maxHeartbeats 8000000 in
theorem heldChargeS_S (v : Value) (xs : List (Int × Int × List Int × List Int × List Int)) (k : Int) (w : World) (h : Ko Jo w v (Vo Jo xs k)) (hs : zL Jo xs ≤ 1048576) (k0 : 0 ≤ k) (k1 : k ≤ 1006632960) :
  Calls Tryz.prog 104 #[v, .int .i64 k] w fun e w' => e = .returned (.int .i64 (k + (Jq Jo xs : Int))) ∧ w = w' := by
 rw [← Us]
 have HS := zh hs
 have H := zh h
 have hlen := Jz hs
 obtain ⟨a, cap, rfl⟩ := Jl h
 rw [Vy] at H ⊢
 clear h hs
 go_enter Tryz.func104, Tryz.ntmps104
 go_wp2
 go_loop [1, 5] (fun m i => ∃ j : Nat, j ≤ xs.length ∧ i = .int .i64 j ∧ m = .int .i64 (Ei Jo xs k j)) (fun _ i => xs.length - (intOf i).toNat)
 case atStart => exact ⟨0, Ij _, rfl, by rw [Xr]⟩
 case round =>
  obtain ⟨j, hj, rfl, rfl⟩ := hrel
  by_cases hlt : j < xs.length
  ·
   have i1 : (0 : Int) ≤ (j : Int) := by omega
   have i2 : (j : Int) < (xs.length : Int) := by omega
   obtain ⟨r1, r2⟩ := Vb Jr (by decide) (k := k) HS.out hj
   obtain ⟨r3, r4⟩ := Vb Jr (by decide) (k := k) (j := j + 1) HS.out (by omega)
   have hzx := Vj HS.out hlt
   have hstep := Xs (T := Jo) (k := k) hlt
   obtain ⟨b, off, cap', cs, hv, hbl, hcs, hR⟩ := Ku H.out (k := j) (by rw [Vy]; exact hlt)
   rw [Vy] at hv
   simp only [Ik] at hv
   obtain ⟨rfl, _, rfl⟩ := hv
   rw [mAll_at hlt] at hR
   have HM : Hid (∃ m', Ei Jo xs k (j + 1) = m') := zh ⟨_, rfl⟩
   obtain ⟨m', hm'⟩ := HM.out
   rw [hm'] at hstep r3 r4
   have HM' := zh hm'
   clear hm' HM H
   generalize Ei Jo xs k j = m at *
   generalize xs.getD j Jo.d = x at *
   obtain ⟨a0, a1, x2, x3, x4⟩ := x
   rw [tCharge_md] at hR
   obtain ⟨v2, v3, v4, hR'⟩ := tCharge_R hR
   obtain ⟨rfl, h2, h3, h4⟩ := hR'
   rw [tCharge_sz] at hzx
   rw [tCharge_nd] at hstep
   have p0 : w.cell? ⟨b, off + j * 5, none⟩ = some (Value.int .i64 (m)) := hcs 0 (by decide)
   have p1 : w.cell? ⟨b, off + j * 5 + 1, none⟩ = some (Value.int .i64 (m + 1)) := hcs 1 (by decide)
   have p2 : w.cell? ⟨b, off + j * 5 + 2, none⟩ = some (v2) := hcs 2 (by decide)
   have p3 : w.cell? ⟨b, off + j * 5 + 3, none⟩ = some (v3) := hcs 3 (by decide)
   have p4 : w.cell? ⟨b, off + j * 5 + 4, none⟩ = some (v4) := hcs 4 (by decide)
   have S2 := zh (show zL Je x2 ≤ 1048576 by omega)
   have N2 := Vd Jc (by decide) x2
   have S3 := zh (show zL Je x3 ≤ 1048576 by omega)
   have N3 := Vd Jc (by decide) x3
   have S4 := zh (show zL Je x4 ≤ 1048576 by omega)
   have N4 := Vd Jc (by decide) x4
   have R2 : Hid (0 ≤ m + 1 + 1 ∧ m + 1 + 1 ≤ 1073741824) := zh (by omega)
   have A2 := zh h2
   have R3 : Hid (0 ≤ m + 1 + 1 + (Jq Je x2 : Int) ∧ m + 1 + 1 + (Jq Je x2 : Int) ≤ 1073741824) := zh (by omega)
   have A3 := zh h3
   have R4 : Hid (0 ≤ m + 1 + 1 + (Jq Je x2 : Int) + (Jq Je x3 : Int) ∧ m + 1 + 1 + (Jq Je x2 : Int) + (Jq Je x3 : Int) ≤ 1073741824) := zh (by omega)
   have A4 := zh h4
   have ng2 : ¬ m + 1 + 1 + (Jq Je x2 : Int) < 0 := by omega
   have ng3 : ¬ m + 1 + 1 + (Jq Je x2 : Int) + (Jq Je x3 : Int) < 0 := by omega
   have ng4 : ¬ m + 1 + 1 + (Jq Je x2 : Int) + (Jq Je x3 : Int) + (Jq Je x4 : Int) < 0 := by omega
   have eq0 : ((m : Int) != m) = false := by simp
   have eq1 : ((m + 1 : Int) != m + 1) = false := by simp
   have hmm : m + 1 + 1 + (Jq Je x2 : Int) + (Jq Je x3 : Int) + (Jq Je x4 : Int) = m' := by omega
   have HMM := zh hmm
   have hm0 : 0 ≤ m := by omega
   have hm1 : m ≤ 1073741824 := by omega
   clear hmm hstep hcs hzx N2 h2 N3 h3 N4 h4
   go_wp2_with fail
   refine (Um v2 x2 (m + 1 + 1) _ A2.out S2.out R2.out.1 (by have := R2.out.2; omega)).mono ?_
   rintro e w2 ⟨rfl, rfl⟩
   go_wp2_with fail
   refine (Um v3 x3 (m + 1 + 1 + (Jq Je x2 : Int)) _ A3.out S3.out R3.out.1 (by have := R3.out.2; omega)).mono ?_
   rintro e w2 ⟨rfl, rfl⟩
   go_wp2_with fail
   refine (Um v4 x4 (m + 1 + 1 + (Jq Je x2 : Int) + (Jq Je x3 : Int)) _ A4.out S4.out R4.out.1 (by have := R4.out.2; omega)).mono ?_
   rintro e w2 ⟨rfl, rfl⟩
   rw [HMM.out]
   clear ng4
   have hnn : ¬ m' < 0 := by omega
   go_wp2
   go_round
   case rel => exact ⟨j + 1, by omega, by go_num, by rw [HM'.out]⟩
   case measure => simp [intOf]; omega
  ·
   obtain rfl : j = xs.length := by omega
   go_wp2
   go_ret
   exact ⟨rfl, rfl⟩
def Kf : Ty ((List (List (Int × List Int × Int × Int)) × Int) × Int × List Int × List ((Int × Int × List (Int × Int × Int) × List Int) × Int × List Int × Int × Int × Int × List (Int × List Int)) × List ((Int × Int × List (Int × Int × Int) × List Int) × Int × Int × List (Int × List Int)) × List (Int × Int × List Int × List Int × List Int) × Int) := Yl Ks (Yl Je (Yl tIntES (Yl tActiveS (Yl tFinishedS (Yl tChargeS Je)))))
theorem Kg : Kf.Law := Km Vu (Km Jc (Km tIntES_law (Km tActiveS_law (Km tFinishedS_law (Km tChargeS_law Jc)))))
theorem tEngine_R {w : World} {cs : List Value} {x0 : List (List (Int × List Int × Int × Int))} {a1 : Int} {a2 : Int} {x3 : List Int} {x4 : List ((Int × Int × List (Int × Int × Int) × List Int) × Int × List Int × Int × Int × Int × List (Int × List Int))} {x5 : List ((Int × Int × List (Int × Int × Int) × List Int) × Int × Int × List (Int × List Int))} {x6 : List (Int × Int × List Int × List Int × List Int)} {a7 : Int} (h : Kf.R w cs ((x0, a1), a2, x3, x4, x5, x6, a7)) : ∃ v0 v3 v4 v5 v6, cs = [v0, .int .i64 a1, .int .i64 a2, v3, v4, v5, v6, .int .i64 a7] ∧ Ko Jd w v0 x0 ∧ Ko Je w v3 x3 ∧ Ko Ji w v4 x4 ∧ Ko Jg w v5 x5 ∧ Ko Jo w v6 x6 := by
 obtain ⟨_, _, rfl, ⟨_, _, rfl, ⟨v0, rfl, h0⟩, rfl⟩, ⟨_, _, rfl, rfl, ⟨_, _, rfl, ⟨v3, rfl, h3⟩, ⟨_, _, rfl, ⟨v4, rfl, h4⟩, ⟨_, _, rfl, ⟨v5, rfl, h5⟩, ⟨_, _, rfl, ⟨v6, rfl, h6⟩, rfl⟩⟩⟩⟩⟩⟩ := h
 exact ⟨_, _, _, _, _, rfl, h0, h3, h4, h5, h6⟩
theorem tEngine_mkR {w : World} {x0 : List (List (Int × List Int × Int × Int))} {a1 : Int} {a2 : Int} {x3 : List Int} {x4 : List ((Int × Int × List (Int × Int × Int) × List Int) × Int × List Int × Int × Int × Int × List (Int × List Int))} {x5 : List ((Int × Int × List (Int × Int × Int) × List Int) × Int × Int × List (Int × List Int))} {x6 : List (Int × Int × List Int × List Int × List Int)} {a7 : Int} {v0 v3 v4 v5 v6 : Value} (h0 : Ko Jd w v0 x0) (h3 : Ko Je w v3 x3) (h4 : Ko Ji w v4 x4) (h5 : Ko Jg w v5 x5) (h6 : Ko Jo w v6 x6) : Kf.R w [v0, a1, a2, v3, v4, v5, v6, a7] ((x0, a1), a2, x3, x4, x5, x6, a7) := ⟨[v0, a1], [a2, v3, v4, v5, v6, a7], rfl, ⟨[v0], [a1], rfl, ⟨_, rfl, h0⟩, rfl⟩, ⟨[a2], [v3, v4, v5, v6, a7], rfl, rfl, ⟨[v3], [v4, v5, v6, a7], rfl, ⟨_, rfl, h3⟩, ⟨[v4], [v5, v6, a7], rfl, ⟨_, rfl, h4⟩, ⟨[v5], [v6, a7], rfl, ⟨_, rfl, h5⟩, ⟨[v6], [a7], rfl, ⟨_, rfl, h6⟩, rfl⟩⟩⟩⟩⟩⟩
theorem tEngine_sz {x0 : List (List (Int × List Int × Int × Int))} {a1 : Int} {a2 : Int} {x3 : List Int} {x4 : List ((Int × Int × List (Int × Int × Int) × List Int) × Int × List Int × Int × Int × Int × List (Int × List Int))} {x5 : List ((Int × Int × List (Int × Int × Int) × List Int) × Int × Int × List (Int × List Int))} {x6 : List (Int × Int × List Int × List Int × List Int)} {a7 : Int} : Kf.sz ((x0, a1), a2, x3, x4, x5, x6, a7) = zL Jd x0 + zL Je x3 + zL Ji x4 + zL Jg x5 + zL Jo x6 := by
 simp only [Kf, Vt, Vx, Vw, Yk, Yt, Ys, Xo, Xw, Xv, Ks, tIntES_sz, tIntES_nd, tIntES_nv, tIntES_md, tIntES_mv]
 try omega
theorem tEngine_nv {x0 : List (List (Int × List Int × Int × Int))} {a1 : Int} {a2 : Int} {x3 : List Int} {x4 : List ((Int × Int × List (Int × Int × Int) × List Int) × Int × List Int × Int × Int × Int × List (Int × List Int))} {x5 : List ((Int × Int × List (Int × Int × Int) × List Int) × Int × Int × List (Int × List Int))} {x6 : List (Int × Int × List Int × List Int × List Int)} {a7 : Int} : Kf.nv ((x0, a1), a2, x3, x4, x5, x6, a7) = 0 + Jq Jd x0 + Jq Je x3 + Jq Ji x4 + Jq Jg x5 + Jq Jo x6 := by
 simp only [Kf, Vt, Vx, Vw, Yk, Yt, Ys, Xo, Xw, Xv, Ks, tIntES_sz, tIntES_nd, tIntES_nv, tIntES_md, tIntES_mv]
 try omega
theorem tEngine_mv {x0 : List (List (Int × List Int × Int × Int))} {a1 : Int} {a2 : Int} {x3 : List Int} {x4 : List ((Int × Int × List (Int × Int × Int) × List Int) × Int × List Int × Int × Int × Int × List (Int × List Int))} {x5 : List ((Int × Int × List (Int × Int × Int) × List Int) × Int × Int × List (Int × List Int))} {x6 : List (Int × Int × List Int × List Int × List Int)} {a7 : Int} {k : Int} : Kf.mv ((x0, a1), a2, x3, x4, x5, x6, a7) k = ((Vo Jd x0 (k), a1), a2, Vo Je x3 (k + (Jq Jd x0 : Int)), Vo Ji x4 (k + (Jq Jd x0 : Int) + (Jq Je x3 : Int)), Vo Jg x5 (k + (Jq Jd x0 : Int) + (Jq Je x3 : Int) + (Jq Ji x4 : Int)), Vo Jo x6 (k + (Jq Jd x0 : Int) + (Jq Je x3 : Int) + (Jq Ji x4 : Int) + (Jq Jg x5 : Int)), a7) := by
 simp only [Kf, tPair_md, tPair_mv, Vx, Vw, tInt_md, tInt_mv, Yt, Ys, tSl_md, tSl_mv, Xw, Xv, Ks, tIntES_sz, tIntES_nd, tIntES_nv, tIntES_md, tIntES_mv, Int.natCast_add, Int.natCast_zero, Int.natCast_one, Int.add_zero, Int.zero_add, Int.add_assoc]
theorem tEngine_O {w : World} {F : Nat → Prop} {cs : List Value} {x0 : List (List (Int × List Int × Int × Int))} {a1 : Int} {a2 : Int} {x3 : List Int} {x4 : List ((Int × Int × List (Int × Int × Int) × List Int) × Int × List Int × Int × Int × Int × List (Int × List Int))} {x5 : List ((Int × Int × List (Int × Int × Int) × List Int) × Int × Int × List (Int × List Int))} {x6 : List (Int × Int × List Int × List Int × List Int)} {a7 : Int} (h : Kf.O w F cs ((x0, a1), a2, x3, x4, x5, x6, a7)) : ∃ v0 v3 v4 v5 v6, ∃ e3 : TypeId, ∃ F0 F3 F4 F5 F6 : Nat → Prop, cs = [v0, .int .i64 a1, .int .i64 a2, v3, v4, v5, v6, .int .i64 a7] ∧ Kp 213 Jd w F0 v0 x0 ∧ Kp e3 Je w F3 v3 x3 ∧ Kp 104 Ji w F4 v4 x4 ∧ Kp 59 Jg w F5 v5 x5 ∧ Kp 162 Jo w F6 v6 x6 ∧ (∀ b, F0 b → F b) ∧ (∀ b, F3 b → F b) ∧ (∀ b, F4 b → F b) ∧ (∀ b, F5 b → F b) ∧ (∀ b, F6 b → F b) ∧ (∀ b, F0 b → ¬ F3 b) ∧ (∀ b, F0 b → ¬ F4 b) ∧ (∀ b, F0 b → ¬ F5 b) ∧ (∀ b, F0 b → ¬ F6 b) ∧ (∀ b, F3 b → ¬ F4 b) ∧ (∀ b, F3 b → ¬ F5 b) ∧ (∀ b, F3 b → ¬ F6 b) ∧ (∀ b, F4 b → ¬ F5 b) ∧ (∀ b, F4 b → ¬ F6 b) ∧ (∀ b, F5 b → ¬ F6 b) := by
 obtain ⟨_, _, F0_1, F0_2, rfl, ⟨_, _, F1_1, F1_2, rfl, ⟨v0, rfl, h0⟩, rfl, s1_1, s1_2, d1⟩, ⟨_, _, F2_1, F2_2, rfl, rfl, ⟨_, _, F3_1, F3_2, rfl, ⟨v3, e3, rfl, h3⟩, ⟨_, _, F4_1, F4_2, rfl, ⟨v4, rfl, h4⟩, ⟨_, _, F5_1, F5_2, rfl, ⟨v5, rfl, h5⟩, ⟨_, _, F6_1, F6_2, rfl, ⟨v6, rfl, h6⟩, rfl, s6_1, s6_2, d6⟩, s5_1, s5_2, d5⟩, s4_1, s4_2, d4⟩, s3_1, s3_2, d3⟩, s2_1, s2_2, d2⟩, s0_1, s0_2, d0⟩ := h
 exact ⟨v0, v3, v4, v5, v6, e3, F1_1, F3_1, F4_1, F5_1, F6_1, rfl, h0, h3, h4, h5, h6, fun b h => (s0_1 b (s1_1 b h)), fun b h => (s0_2 b (s2_2 b (s3_1 b h))), fun b h => (s0_2 b (s2_2 b (s3_2 b (s4_1 b h)))), fun b h => (s0_2 b (s2_2 b (s3_2 b (s4_2 b (s5_1 b h))))), fun b h => (s0_2 b (s2_2 b (s3_2 b (s4_2 b (s5_2 b (s6_1 b h)))))), fun b h h2 => d0 b (s1_1 b h) (s2_2 b (s3_1 b h2)), fun b h h2 => d0 b (s1_1 b h) (s2_2 b (s3_2 b (s4_1 b h2))), fun b h h2 => d0 b (s1_1 b h) (s2_2 b (s3_2 b (s4_2 b (s5_1 b h2)))), fun b h h2 => d0 b (s1_1 b h) (s2_2 b (s3_2 b (s4_2 b (s5_2 b (s6_1 b h2))))), fun b h h2 => d3 b h (s4_1 b h2), fun b h h2 => d3 b h (s4_2 b (s5_1 b h2)), fun b h h2 => d3 b h (s4_2 b (s5_2 b (s6_1 b h2))), fun b h h2 => d4 b h (s5_1 b h2), fun b h h2 => d4 b h (s5_2 b (s6_1 b h2)), fun b h h2 => d5 b h (s6_1 b h2)⟩
theorem tEngine_mkO {w : World} {F : Nat → Prop} {x0 : List (List (Int × List Int × Int × Int))} {a1 : Int} {a2 : Int} {x3 : List Int} {x4 : List ((Int × Int × List (Int × Int × Int) × List Int) × Int × List Int × Int × Int × Int × List (Int × List Int))} {x5 : List ((Int × Int × List (Int × Int × Int) × List Int) × Int × Int × List (Int × List Int))} {x6 : List (Int × Int × List Int × List Int × List Int)} {a7 : Int} {e3 : TypeId} {v0 v3 v4 v5 v6 : Value} {F0 F3 F4 F5 F6 : Nat → Prop} (h0 : Kp 213 Jd w F0 v0 x0) (h3 : Kp e3 Je w F3 v3 x3) (h4 : Kp 104 Ji w F4 v4 x4) (h5 : Kp 59 Jg w F5 v5 x5) (h6 : Kp 162 Jo w F6 v6 x6) (s0 : ∀ b, F0 b → F b) (s3 : ∀ b, F3 b → F b) (s4 : ∀ b, F4 b → F b) (s5 : ∀ b, F5 b → F b) (s6 : ∀ b, F6 b → F b) (d0_3 : ∀ b, F0 b → ¬ F3 b) (d0_4 : ∀ b, F0 b → ¬ F4 b) (d0_5 : ∀ b, F0 b → ¬ F5 b) (d0_6 : ∀ b, F0 b → ¬ F6 b) (d3_4 : ∀ b, F3 b → ¬ F4 b) (d3_5 : ∀ b, F3 b → ¬ F5 b) (d3_6 : ∀ b, F3 b → ¬ F6 b) (d4_5 : ∀ b, F4 b → ¬ F5 b) (d4_6 : ∀ b, F4 b → ¬ F6 b) (d5_6 : ∀ b, F5 b → ¬ F6 b) : Kf.O w F [v0, a1, a2, v3, v4, v5, v6, a7] ((x0, a1), a2, x3, x4, x5, x6, a7) := ⟨[v0, a1], [a2, v3, v4, v5, v6, a7], F0, fun b => F3 b ∨ (F4 b ∨ (F5 b ∨ (F6 b))), rfl, ⟨[v0], [a1], F0, fun _ => False, rfl, ⟨_, rfl, h0⟩, rfl, (fun b h => h), (fun b h => (False.elim h)), (fun b h g => (False.elim g))⟩, ⟨[a2], [v3, v4, v5, v6, a7], fun _ => False, fun b => F3 b ∨ (F4 b ∨ (F5 b ∨ (F6 b))), rfl, rfl, ⟨[v3], [v4, v5, v6, a7], F3, fun b => F4 b ∨ (F5 b ∨ (F6 b)), rfl, ⟨_, _, rfl, h3⟩, ⟨[v4], [v5, v6, a7], F4, fun b => F5 b ∨ (F6 b), rfl, ⟨_, rfl, h4⟩, ⟨[v5], [v6, a7], F5, F6, rfl, ⟨_, rfl, h5⟩, ⟨[v6], [a7], F6, fun _ => False, rfl, ⟨_, rfl, h6⟩, rfl, (fun b h => h), (fun b h => (False.elim h)), (fun b h g => (False.elim g))⟩, (fun b h => (Or.inl h)), (fun b h => (Or.inr h)), (fun b h g => d5_6 b h g)⟩, (fun b h => (Or.inl h)), (fun b h => (h.elim (fun q0 => (Or.inr (Or.inl q0))) (fun q0 => (Or.inr (Or.inr q0))))), (fun b h g => (g.elim (fun q10 => d4_5 b h q10) (fun q10 => d4_6 b h q10)))⟩, (fun b h => (Or.inl h)), (fun b h => (h.elim (fun q0 => (Or.inr (Or.inl q0))) (fun q0 => (q0.elim (fun q1 => (Or.inr (Or.inr (Or.inl q1)))) (fun q1 => (Or.inr (Or.inr (Or.inr q1)))))))), (fun b h g => (g.elim (fun q10 => d3_4 b h q10) (fun q10 => (q10.elim (fun q11 => d3_5 b h q11) (fun q11 => d3_6 b h q11)))))⟩, (fun b h => (False.elim h)), (fun b h => (h.elim (fun q0 => (Or.inl q0)) (fun q0 => (q0.elim (fun q1 => (Or.inr (Or.inl q1))) (fun q1 => (q1.elim (fun q2 => (Or.inr (Or.inr (Or.inl q2)))) (fun q2 => (Or.inr (Or.inr (Or.inr q2)))))))))), (fun b h g => (False.elim h))⟩, (fun b h => s0 b h), (fun b h => (h.elim (fun q0 => s3 b q0) (fun q0 => (q0.elim (fun q1 => s4 b q1) (fun q1 => (q1.elim (fun q2 => s5 b q2) (fun q2 => s6 b q2))))))), (fun b h g => (g.elim (fun q10 => d0_3 b h q10) (fun q10 => (q10.elim (fun q11 => d0_4 b h q11) (fun q11 => (q11.elim (fun q12 => d0_5 b h q12) (fun q12 => d0_6 b h q12)))))))⟩
set_option maxHeartbeats 8000000 in
theorem markEngine_T {ety3 : TypeId} (a1 a2 a7 : Int) (v0 v3 v4 v5 v6 : Value) (x0 : List (List (Int × List Int × Int × Int))) (x3 : List Int) (x4 : List ((Int × Int × List (Int × Int × Int) × List Int) × Int × List Int × Int × Int × Int × List (Int × List Int))) (x5 : List ((Int × Int × List (Int × Int × Int) × List Int) × Int × Int × List (Int × List Int))) (x6 : List (Int × Int × List Int × List Int × List Int)) (F F0 F3 F4 F5 F6 : Nat → Prop) (k : Int) (w : World) (h0 : Kp 213 Jd w F0 v0 x0) (h3 : Kp ety3 Je w F3 v3 x3) (h4 : Kp 104 Ji w F4 v4 x4) (h5 : Kp 59 Jg w F5 v5 x5) (h6 : Kp 162 Jo w F6 v6 x6) (q0 : ∀ b, F0 b → F b) (q3 : ∀ b, F3 b → F b) (q4 : ∀ b, F4 b → F b) (q5 : ∀ b, F5 b → F b) (q6 : ∀ b, F6 b → F b) (d0_3 : ∀ b, F0 b → ¬ F3 b) (d0_4 : ∀ b, F0 b → ¬ F4 b) (d0_5 : ∀ b, F0 b → ¬ F5 b) (d0_6 : ∀ b, F0 b → ¬ F6 b) (d3_4 : ∀ b, F3 b → ¬ F4 b) (d3_5 : ∀ b, F3 b → ¬ F5 b) (d3_6 : ∀ b, F3 b → ¬ F6 b) (d4_5 : ∀ b, F4 b → ¬ F5 b) (d4_6 : ∀ b, F4 b → ¬ F6 b) (d5_6 : ∀ b, F5 b → ¬ F6 b) (s0 : zL Jd x0 ≤ 1048576) (s3 : zL Je x3 ≤ 1048576) (s4 : zL Ji x4 ≤ 1048576) (s5 : zL Jg x5 ≤ 1048576) (s6 : zL Jo x6 ≤ 1048576) (k0 : 0 ≤ k) (k1 : k ≤ 268435456) :
  Calls Tryz.prog 28 #[.agg #[v0, a1, a2, v3, v4, v5, v6, a7], .int .i64 k] w fun e w' => e = .returned (.int .i64 (k + (Jq Jd x0 : Int) + (Jq Je x3 : Int) + (Jq Ji x4 : Int) + (Jq Jg x5 : Int) + (Jq Jo x6 : Int))) ∧ (Kp 213 Jd w' F0 v0 (Vo Jd x0 (k)) ∧ Kp ety3 Je w' F3 v3 (Vo Je x3 (k + (Jq Jd x0 : Int))) ∧ Kp 104 Ji w' F4 v4 (Vo Ji x4 (k + (Jq Jd x0 : Int) + (Jq Je x3 : Int))) ∧ Kp 59 Jg w' F5 v5 (Vo Jg x5 (k + (Jq Jd x0 : Int) + (Jq Je x3 : Int) + (Jq Ji x4 : Int))) ∧ Kp 162 Jo w' F6 v6 (Vo Jo x6 (k + (Jq Jd x0 : Int) + (Jq Je x3 : Int) + (Jq Ji x4 : Int) + (Jq Jg x5 : Int)))) ∧ Kb F w w' := by
 have S0 := zh s0
 have N0 := Vd Jf (by decide) x0
 have S3 := zh s3
 have N3 := Vd Jc (by decide) x3
 have S4 := zh s4
 have N4 := Vd Jj (by decide) x4
 have S5 := zh s5
 have N5 := Vd Jn (by decide) x5
 have S6 := zh s6
 have N6 := Vd Jr (by decide) x6
 have R0 : Hid (0 ≤ k ∧ k ≤ 536870912) := zh (by omega)
 have R3 : Hid (0 ≤ k + (Jq Jd x0 : Int) ∧ k + (Jq Jd x0 : Int) ≤ 536870912) := zh (by omega)
 have R4 : Hid (0 ≤ k + (Jq Jd x0 : Int) + (Jq Je x3 : Int) ∧ k + (Jq Jd x0 : Int) + (Jq Je x3 : Int) ≤ 536870912) := zh (by omega)
 have R5 : Hid (0 ≤ k + (Jq Jd x0 : Int) + (Jq Je x3 : Int) + (Jq Ji x4 : Int) ∧ k + (Jq Jd x0 : Int) + (Jq Je x3 : Int) + (Jq Ji x4 : Int) ≤ 536870912) := zh (by omega)
 have R6 : Hid (0 ≤ k + (Jq Jd x0 : Int) + (Jq Je x3 : Int) + (Jq Ji x4 : Int) + (Jq Jg x5 : Int) ∧ k + (Jq Jd x0 : Int) + (Jq Je x3 : Int) + (Jq Ji x4 : Int) + (Jq Jg x5 : Int) ≤ 536870912) := zh (by omega)
 have RE : Hid (0 ≤ k + (Jq Jd x0 : Int) + (Jq Je x3 : Int) + (Jq Ji x4 : Int) + (Jq Jg x5 : Int) + (Jq Jo x6 : Int)) := zh (by omega)
 clear N0 N3 N4 N5 N6
 have O0 := zh (Kn Jf h0)
 have O3 := zh (Kn Jc h3)
 have O4 := zh (Kn Jj h4)
 have O5 := zh (Kn Jn h5)
 have O6 := zh (Kn Jr h6)
 clear h0 s0 h3 s3 h4 s4 h5 s5 h6 s6
 go_enter Tryz.func28, Tryz.ntmps28
 go_wp2_with fail
 have hb : Below w w (w.alloc (.cells #[v0, a1, a2, v3, v4, v5, v6, a7] 40)) := (Il _ w).alloc (Ii _) _
 have g0 : (w.alloc (.cells #[v0, a1, a2, v3, v4, v5, v6, a7] 40)).heap[w.heap.size]? = some (.cells #[v0, a1, a2, v3, v4, v5, v6, a7] 40 (0, 0)) := Ic w _
 have hz : w.heap.size < (w.alloc (.cells #[v0, a1, a2, v3, v4, v5, v6, a7] 40)).heap.size := by simp [Ie]
 have ht : Kb F w (w.alloc (.cells #[v0, a1, a2, v3, v4, v5, v6, a7] 40)) := Yo hb
 replace O0 := zf Jf O0 hb
 replace O3 := zf Jc O3 hb
 replace O4 := zf Jj O4 hb
 replace O5 := zf Jn O5 hb
 replace O6 := zf Jr O6 hb
 generalize (w.alloc (.cells #[v0, a1, a2, v3, v4, v5, v6, a7] 40)) = W at *
 refine (markStore_T a1 v0 x0 (fun b => (F0 b) ∧ b < w.heap.size) _ (k) W O0.out (fun b h => ⟨h.1, h.2⟩)  S0.out R0.out.1 (by have := R0.out.2; omega)).mono ?_
 rintro e w1 ⟨rfl, m0, t1⟩
 replace g0 := (t1.block _ hz (fun h => absurd h.2 (Nat.lt_irrefl _))).trans g0
 have zz0 := t1.size
 replace hz := Nat.lt_of_lt_of_le hz t1.size
 replace ht := ht.trans (t1.mono (fun b h => q0 b h.1))
 replace O0 := zh m0
 replace O3 := zt Jc O3 t1 (fun b h1 h2 => d0_3 b h2.1 h1.1)
 replace O4 := zt Jj O4 t1 (fun b h1 h2 => d0_4 b h2.1 h1.1)
 replace O5 := zt Jn O5 t1 (fun b h1 h2 => d0_5 b h2.1 h1.1)
 replace O6 := zt Jr O6 t1 (fun b h1 h2 => d0_6 b h2.1 h1.1)
 clear m0 t1
 have p3 := cr 3 (v3) g0
 go_wp2_with fail
 clear p3
 refine (markIntES_S v3 x3 _ (k + (Jq Jd x0 : Int)) w1 O3.out S3.out R3.out.1 (by have := R3.out.2; omega)).mono ?_
 rintro e w2 ⟨rfl, m3, t1⟩
 replace g0 := (t1.block _ hz (fun h => absurd h.2 (Nat.lt_irrefl _))).trans g0
 have zz1 := t1.size
 replace hz := Nat.lt_of_lt_of_le hz t1.size
 replace ht := ht.trans (t1.mono (fun b h => q3 b h.1))
 replace O0 := zt Jf O0 t1 (fun b h1 h2 => d0_3 b h1.1 h2.1)
 replace O3 := zh m3
 replace O4 := zt Jj O4 t1 (fun b h1 h2 => d3_4 b h2.1 h1.1)
 replace O5 := zt Jn O5 t1 (fun b h1 h2 => d3_5 b h2.1 h1.1)
 replace O6 := zt Jr O6 t1 (fun b h1 h2 => d3_6 b h2.1 h1.1)
 clear m3 t1
 have p4 := cr 4 (v4) g0
 go_wp2_with fail
 clear p4
 refine (markActiveS_S v4 x4 _ (k + (Jq Jd x0 : Int) + (Jq Je x3 : Int)) w2 O4.out S4.out R4.out.1 (by have := R4.out.2; omega)).mono ?_
 rintro e w3 ⟨rfl, m4, t1⟩
 replace g0 := (t1.block _ hz (fun h => absurd h.2 (Nat.lt_irrefl _))).trans g0
 have zz2 := t1.size
 replace hz := Nat.lt_of_lt_of_le hz t1.size
 replace ht := ht.trans (t1.mono (fun b h => q4 b h.1))
 replace O0 := zt Jf O0 t1 (fun b h1 h2 => d0_4 b h1.1 h2.1)
 replace O3 := zt Jc O3 t1 (fun b h1 h2 => d3_4 b h1.1 h2.1)
 replace O4 := zh m4
 replace O5 := zt Jn O5 t1 (fun b h1 h2 => d4_5 b h2.1 h1.1)
 replace O6 := zt Jr O6 t1 (fun b h1 h2 => d4_6 b h2.1 h1.1)
 clear m4 t1
 have p5 := cr 5 (v5) g0
 go_wp2_with fail
 clear p5
 refine (markFinishedS_S v5 x5 _ (k + (Jq Jd x0 : Int) + (Jq Je x3 : Int) + (Jq Ji x4 : Int)) w3 O5.out S5.out R5.out.1 (by have := R5.out.2; omega)).mono ?_
 rintro e w4 ⟨rfl, m5, t1⟩
 replace g0 := (t1.block _ hz (fun h => absurd h.2 (Nat.lt_irrefl _))).trans g0
 have zz3 := t1.size
 replace hz := Nat.lt_of_lt_of_le hz t1.size
 replace ht := ht.trans (t1.mono (fun b h => q5 b h.1))
 replace O0 := zt Jf O0 t1 (fun b h1 h2 => d0_5 b h1.1 h2.1)
 replace O3 := zt Jc O3 t1 (fun b h1 h2 => d3_5 b h1.1 h2.1)
 replace O4 := zt Jj O4 t1 (fun b h1 h2 => d4_5 b h1.1 h2.1)
 replace O5 := zh m5
 replace O6 := zt Jr O6 t1 (fun b h1 h2 => d5_6 b h2.1 h1.1)
 clear m5 t1
 have p6 := cr 6 (v6) g0
 go_wp2_with fail
 clear p6
 refine (markChargeS_S v6 x6 _ (k + (Jq Jd x0 : Int) + (Jq Je x3 : Int) + (Jq Ji x4 : Int) + (Jq Jg x5 : Int)) w4 O6.out S6.out R6.out.1 (by have := R6.out.2; omega)).mono ?_
 rintro e w5 ⟨rfl, m6, t1⟩
 replace g0 := (t1.block _ hz (fun h => absurd h.2 (Nat.lt_irrefl _))).trans g0
 have zz4 := t1.size
 replace hz := Nat.lt_of_lt_of_le hz t1.size
 replace ht := ht.trans (t1.mono (fun b h => q6 b h.1))
 replace O0 := zt Jf O0 t1 (fun b h1 h2 => d0_6 b h1.1 h2.1)
 replace O3 := zt Jc O3 t1 (fun b h1 h2 => d3_6 b h1.1 h2.1)
 replace O4 := zt Jj O4 t1 (fun b h1 h2 => d4_6 b h1.1 h2.1)
 replace O5 := zt Jn O5 t1 (fun b h1 h2 => d5_6 b h1.1 h2.1)
 replace O6 := zh m6
 clear m6 t1
 go_wp2
 go_ret
 exact ⟨rfl, ⟨Ky O0.out (fun b h => h.1), Ky O3.out (fun b h => h.1), Ky O4.out (fun b h => h.1), Ky O5.out (fun b h => h.1), Ky O6.out (fun b h => h.1)⟩, ht⟩
set_option maxHeartbeats 8000000 in
theorem heldEngine_T (a1 a2 a7 : Int) (v0 v3 v4 v5 v6 : Value) (x0 : List (List (Int × List Int × Int × Int))) (x3 : List Int) (x4 : List ((Int × Int × List (Int × Int × Int) × List Int) × Int × List Int × Int × Int × Int × List (Int × List Int))) (x5 : List ((Int × Int × List (Int × Int × Int) × List Int) × Int × Int × List (Int × List Int))) (x6 : List (Int × Int × List Int × List Int × List Int)) (k : Int) (w : World) (h0 : Ko Jd w v0 (Vo Jd x0 (k))) (h3 : Ko Je w v3 (Vo Je x3 (k + (Jq Jd x0 : Int)))) (h4 : Ko Ji w v4 (Vo Ji x4 (k + (Jq Jd x0 : Int) + (Jq Je x3 : Int)))) (h5 : Ko Jg w v5 (Vo Jg x5 (k + (Jq Jd x0 : Int) + (Jq Je x3 : Int) + (Jq Ji x4 : Int)))) (h6 : Ko Jo w v6 (Vo Jo x6 (k + (Jq Jd x0 : Int) + (Jq Je x3 : Int) + (Jq Ji x4 : Int) + (Jq Jg x5 : Int)))) (s0 : zL Jd x0 ≤ 1048576) (s3 : zL Je x3 ≤ 1048576) (s4 : zL Ji x4 ≤ 1048576) (s5 : zL Jg x5 ≤ 1048576) (s6 : zL Jo x6 ≤ 1048576) (k0 : 0 ≤ k) (k1 : k ≤ 268435456) :
  Calls Tryz.prog 34 #[.agg #[v0, a1, a2, v3, v4, v5, v6, a7], .int .i64 k] w fun e w' => e = .returned (.int .i64 (k + (Jq Jd x0 : Int) + (Jq Je x3 : Int) + (Jq Ji x4 : Int) + (Jq Jg x5 : Int) + (Jq Jo x6 : Int))) ∧ Below w w w' := by
 have S0 := zh s0
 have N0 := Vd Jf (by decide) x0
 have S3 := zh s3
 have N3 := Vd Jc (by decide) x3
 have S4 := zh s4
 have N4 := Vd Jj (by decide) x4
 have S5 := zh s5
 have N5 := Vd Jn (by decide) x5
 have S6 := zh s6
 have N6 := Vd Jr (by decide) x6
 have R0 : Hid (0 ≤ k ∧ k ≤ 536870912) := zh (by omega)
 have R3 : Hid (0 ≤ k + (Jq Jd x0 : Int) ∧ k + (Jq Jd x0 : Int) ≤ 536870912) := zh (by omega)
 have R4 : Hid (0 ≤ k + (Jq Jd x0 : Int) + (Jq Je x3 : Int) ∧ k + (Jq Jd x0 : Int) + (Jq Je x3 : Int) ≤ 536870912) := zh (by omega)
 have R5 : Hid (0 ≤ k + (Jq Jd x0 : Int) + (Jq Je x3 : Int) + (Jq Ji x4 : Int) ∧ k + (Jq Jd x0 : Int) + (Jq Je x3 : Int) + (Jq Ji x4 : Int) ≤ 536870912) := zh (by omega)
 have R6 : Hid (0 ≤ k + (Jq Jd x0 : Int) + (Jq Je x3 : Int) + (Jq Ji x4 : Int) + (Jq Jg x5 : Int) ∧ k + (Jq Jd x0 : Int) + (Jq Je x3 : Int) + (Jq Ji x4 : Int) + (Jq Jg x5 : Int) ≤ 536870912) := zh (by omega)
 have RE : Hid (0 ≤ k + (Jq Jd x0 : Int) + (Jq Je x3 : Int) + (Jq Ji x4 : Int) + (Jq Jg x5 : Int) + (Jq Jo x6 : Int)) := zh (by omega)
 have ng0 : ¬ k + (Jq Jd x0 : Int) < 0 := by omega
 have ng1 : ¬ k + (Jq Jd x0 : Int) + (Jq Je x3 : Int) < 0 := by omega
 have ng2 : ¬ k + (Jq Jd x0 : Int) + (Jq Je x3 : Int) + (Jq Ji x4 : Int) < 0 := by omega
 have ng3 : ¬ k + (Jq Jd x0 : Int) + (Jq Je x3 : Int) + (Jq Ji x4 : Int) + (Jq Jg x5 : Int) < 0 := by omega
 have ng4 : ¬ k + (Jq Jd x0 : Int) + (Jq Je x3 : Int) + (Jq Ji x4 : Int) + (Jq Jg x5 : Int) + (Jq Jo x6 : Int) < 0 := by omega
 clear N0 N3 N4 N5 N6
 have H0 := zh h0
 have H3 := zh h3
 have H4 := zh h4
 have H5 := zh h5
 have H6 := zh h6
 clear h0 s0 h3 s3 h4 s4 h5 s5 h6 s6
 go_enter Tryz.func34, Tryz.ntmps34
 go_wp2_with fail
 have hb : Below w w (w.alloc (.cells #[v0, a1, a2, v3, v4, v5, v6, a7] 40)) := (Il _ w).alloc (Ii _) _
 have g0 : (w.alloc (.cells #[v0, a1, a2, v3, v4, v5, v6, a7] 40)).heap[w.heap.size]? = some (.cells #[v0, a1, a2, v3, v4, v5, v6, a7] 40 (0, 0)) := Ic w _
 have hz : w.heap.size < (w.alloc (.cells #[v0, a1, a2, v3, v4, v5, v6, a7] 40)).heap.size := by simp [Ie]
 generalize (w.alloc (.cells #[v0, a1, a2, v3, v4, v5, v6, a7] 40)) = W at *
 refine (heldStore_T a1 v0 x0 (k) W (Jb Jf H0.out hb) S0.out R0.out.1 (by have := R0.out.2; omega)).mono ?_
 rintro e w1 ⟨rfl, b1⟩
 replace g0 := (b1.block _ (by omega)).trans g0
 have zz0 := b1.size
 replace hb := hb.trans (b1.mono (by omega))
 clear b1
 have p3 := cr 3 (v3) g0
 go_wp2_with fail
 clear p3
 refine (Um v3 x3 (k + (Jq Jd x0 : Int)) w1 (Jb Jc H3.out hb) S3.out R3.out.1 (by have := R3.out.2; omega)).mono ?_
 rintro e _ ⟨rfl, rfl⟩
 have p4 := cr 4 (v4) g0
 go_wp2_with fail
 clear p4
 refine (heldActiveS_S v4 x4 (k + (Jq Jd x0 : Int) + (Jq Je x3 : Int)) w1 (Jb Jj H4.out hb) S4.out R4.out.1 (by have := R4.out.2; omega)).mono ?_
 rintro e _ ⟨rfl, rfl⟩
 have p5 := cr 5 (v5) g0
 go_wp2_with fail
 clear p5
 refine (heldFinishedS_S v5 x5 (k + (Jq Jd x0 : Int) + (Jq Je x3 : Int) + (Jq Ji x4 : Int)) w1 (Jb Jn H5.out hb) S5.out R5.out.1 (by have := R5.out.2; omega)).mono ?_
 rintro e _ ⟨rfl, rfl⟩
 have p6 := cr 6 (v6) g0
 go_wp2_with fail
 clear p6
 refine (heldChargeS_S v6 x6 (k + (Jq Jd x0 : Int) + (Jq Je x3 : Int) + (Jq Ji x4 : Int) + (Jq Jg x5 : Int)) w1 (Jb Jr H6.out hb) S6.out R6.out.1 (by have := R6.out.2; omega)).mono ?_
 rintro e _ ⟨rfl, rfl⟩
 go_wp2
 go_ret
 exact ⟨rfl, hb⟩
end Go.Proofs.YtnepfacnmaoieaaGreatDoor
