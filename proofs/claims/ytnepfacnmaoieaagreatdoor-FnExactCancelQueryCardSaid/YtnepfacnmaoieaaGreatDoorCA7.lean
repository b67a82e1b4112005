/-
 Texts of the proof, merged: EngSpec1, EngSpec2, IdxSpec1.
-/
import Derived.Test.YtnepfacnmaoieaaGreatDoorCA1
import Derived.Test.YtnepfacnmaoieaaGreatDoorCA2
import Derived.Test.YtnepfacnmaoieaaGreatDoorCA5
import Derived.Test.YtnepfacnmaoieaaGreatDoorCA6
namespace Go.Proofs.YtnepfacnmaoieaaGreatDoor
open Go.RowKit
open Go renaming heap_alloc_new → Ic
open Go.World renaming size_alloc → Ie
open Nat renaming le_refl → Ii, zero_le → Ij
open Go.Value.slice renaming injEq → Ik
open Go.RowKit.Below renaming refl → Il
set_option maxRecDepth 100000
set_option linter.unusedVariables false
set_option linter.unusedSimpArgs false
set_option maxHeartbeats 8000000 in
theorem specFindActive (now cu st id : Int) (sv ov av dv lv : Value) (l : List Ua) (w : World) (h : Ko Ji w av l) (hn : l.length ≤ 1048576) :
  Calls Tryz.prog 92 #[.agg #[sv, .int .i64 now, .int .i64 cu, ov, av, dv, lv, .int .i64 st], .int .i64 id] w (fun e w' => e = .returned (.int .i64 (Uo l id)) ∧ Below w w w') := by
 obtain ⟨a, cap, rfl⟩ := Jl h
 have H := zh h
 clear h
 have d := zh (show Below w w (w.alloc (.cells #[sv, .int .i64 now, .int .i64 cu, ov, .slice a l.length cap, dv, lv, .int .i64 st] 40)) from ((Il _ w).alloc (Ii _) _))
 have B0 : Hid ((w.alloc (.cells #[sv, .int .i64 now, .int .i64 cu, ov, .slice a l.length cap, dv, lv, .int .i64 st] 40)).heap[w.heap.size]? = some (.cells #[sv, .int .i64 now, .int .i64 cu, ov, .slice a l.length cap, dv, lv, .int .i64 st] 40 (0, 0))) := zh (by
  exact Ic w _)
 have YW : Hid (w.heap.size + 1 ≤ (w.alloc (.cells #[sv, .int .i64 now, .int .i64 cu, ov, .slice a l.length cap, dv, lv, .int .i64 st] 40)).heap.size) := zh (by simp [Ie])
 go_enter Tryz.func92, Tryz.ntmps92
 go_wp2
 generalize (w.alloc (.cells #[sv, .int .i64 now, .int .i64 cu, ov, .slice a l.length cap, dv, lv, .int .i64 st] 40)) = W at *
 go_loopw [5] (fun i wr => ∃ k : Nat, k ≤ l.length ∧ i = .int .i64 k ∧ Hid (∀ i, i < k → ¬ (l.getD i Uh).1.1 = id) ∧ Below W W wr) (fun i _ => l.length - (intOf i).toNat)
 case atStart => exact ⟨0, Ij _, rfl, zh (fun j hj => absurd hj (Nat.not_lt_zero j)), Il _ _⟩
 case round =>
  obtain ⟨k, hk, rfl, hno, c⟩ := hrel
  have cw := zh c
  replace B0 := zb c B0
  replace d := zD d c
  clear c
  have p4 := cr 4 (Value.slice a l.length cap) B0.out
  by_cases hlt : k < l.length
  ·
   have i1 : (0 : Int) ≤ (k : Int) := by omega
   have i2 : (k : Int) < (l.length : Int) := by omega
   obtain ⟨b, off, cap', p2, c2, p3, c3, p5, c5, p9, c9, hv, hbl, e0, e1, e2, e3, e4, e5, e6, e7, e8, e9, s2, s3, s5, s9⟩ := act_at (Jb Jj H.out d.out) hlt
   simp only [Ik] at hv
   obtain ⟨rfl, _, rfl⟩ := hv
   clear e1 e2 e3 e4 e5 e6 e7 e8 e9 s2 s3 s5 s9 hbl
   have HF : Hid ((l.getD k Uh).1.1 = id → Uo l id = k) := zh (fun g => findA_at hlt hno.out g)
   have HS : Hid (¬ (l.getD k Uh).1.1 = id → ∀ i, i < k + 1 → ¬ (l.getD i Uh).1.1 = id) := zh (fun g i hi => by
    by_cases e : i = k
    ·
     subst e; exact g
    ·
     exact hno.out i (by omega))
   clear hno
   generalize (l.getD k Uh).1.1 = x at *
   by_cases hx : x = id
   ·
    have HE := zh (HF.out hx)
    subst hx
    clear HF HS
    go_wp2
    go_ret
    exact ⟨ret_n HE.out.symm, d.out⟩
   ·
    have HT := zh (HS.out hx)
    have hx2 : (x == id) = false := by simpa using hx
    clear HF HS hx
    go_wp2
    go_roundw
    case rel => exact ⟨k + 1, by omega, by go_num, HT, cw.out⟩
    case measure => simp [intOf]; omega
  ·
   obtain rfl : k = l.length := by omega
   have HE : Hid (Uo l id = -1) := zh (findA_none hno.out)
   clear hno
   go_wp2
   go_ret
   exact ⟨ret_n HE.out.symm, d.out⟩
set_option maxHeartbeats 8000000 in
theorem specL9List (v : Value) (l : List Ej) (w : World) (h : Ko Ke w v l) (hs : zL Ke l ≤ 1048576) :
  Calls Tryz.prog 124 #[v] w (fun e w' => e = .returned (.bool (Ec l)) ∧ Below w w w') := by
 have hlen := Jz hs
 have HS := zh hs
 have H := zh h
 obtain ⟨a, cap, rfl⟩ := Jl h
 clear h hs
 go_enter Tryz.func124, Tryz.ntmps124
 go_wp2
 go_loopw [3] (fun i wr => ∃ k : Nat, k ≤ l.length ∧ i = .int .i64 k ∧ Hid (Ux Ui (0, []) l k) ∧ Below w w wr) (fun i _ => l.length - (intOf i).toNat)
 case atStart => exact ⟨0, Ij _, rfl, zh (Xy _ _ _), Il _ _⟩
 case round =>
  obtain ⟨k, hk, rfl, hno, c⟩ := hrel
  by_cases hlt : k < l.length
  ·
   have i1 : (0 : Int) ≤ (k : Int) := by omega
   have i2 : (k : Int) < (l.length : Int) := by omega
   have hz := Vj HS.out hlt
   obtain ⟨b, off, cap', cs, hv, hbl, hcs, hR⟩ := Ku (Jb Jw H.out c) hlt
   simp only [Ik] at hv
   obtain ⟨rfl, _, rfl⟩ := hv
   change Ke.R wr cs (l.getD k (0, [])) at hR
   change Ke.sz (l.getD k (0, [])) ≤ 1048576 at hz
   have HST : Hid (Ui (l.getD k (0, [])) = true → Ux Ui (0, []) l (k + 1)) := zh (fun g => Xz hno.out g)
   have HNO : Hid (Ui (l.getD k (0, [])) = false → Ec l = false) := zh (fun g => by unfold Ec; rw [allB_no (0, []) hlt g]; simp)
   have cw := zh c
   clear hno c hbl
   generalize l.getD k (0, []) = r at *
   obtain ⟨id, xs⟩ := r
   obtain ⟨v1, rfl, h1⟩ := tRow_R hR
   rw [tRow_sz] at hz
   obtain ⟨xa, xc, rfl⟩ := Jl h1
   have e0 : wr.cell? ⟨b, off + k * 2, none⟩ = some (Value.int .i64 id) := hcs 0 (by decide)
   have e1 : wr.cell? ⟨b, off + k * 2 + 1, none⟩ = some (Value.slice xa xs.length xc) := hcs 1 (by decide)
   have HX := zh (Yd h1)
   have HXL := zh (Jz hz)
   clear hcs hR h1 hz
   cases hr : Ui (id, xs) with
   | true =>
    have HT := zh (HST.out hr)
    have HR := zh hr
    clear hr HST HNO
    go_wp2_with fail
    refine (specIsRow id (.slice xa xs.length xc) xs wr HX.out HXL.out).mono ?_
    rintro e w2 ⟨rfl, c2⟩
    rw [HR.out]
    have cw2 := zh (cw.out.trans (c2.mono cw.out.size))
    clear c2 e0 e1
    go_wp2
    go_roundw
    case rel => exact ⟨k + 1, by omega, by go_num, HT, cw2.out⟩
    case measure => simp [intOf]; omega
   | false =>
    have HF := zh (HNO.out hr)
    have HR := zh hr
    clear hr HST HNO
    go_wp2_with fail
    refine (specIsRow id (.slice xa xs.length xc) xs wr HX.out HXL.out).mono ?_
    rintro e w2 ⟨rfl, c2⟩
    rw [HR.out]
    have cw2 := zh (cw.out.trans (c2.mono cw.out.size))
    clear c2 e0 e1
    go_wp2
    go_ret
    exact ⟨Jy HF.out.symm, cw2.out⟩
  ·
   obtain rfl : k = l.length := by omega
   have HA := zh (Ee (p := Ui) (0, []) hno.out)
   have cw := zh c
   clear hno c
   by_cases h9 : l.length ≤ 1000
   ·
    have HT : Hid (Ec l = true) := zh (by unfold Ec; rw [HA.out, decide_eq_true h9]; rfl)
    have h8 : (l.length : Int) ≤ 1000 := by omega
    clear h9
    go_wp2
    go_ret
    exact ⟨Jy HT.out.symm, cw.out⟩
   ·
    have HT : Hid (Ec l = false) := zh (by unfold Ec; rw [decide_eq_false h9]; rfl)
    have h8 : ¬ (l.length : Int) ≤ 1000 := by omega
    clear h9
    go_wp2
    go_ret
    exact ⟨Jy (by simpa using HT.out), cw.out⟩
set_option maxHeartbeats 8000000 in
theorem specL9Todo (v : Value) (l : List Int) (n : Nat) (w : World) (h : Uc w v l) (hn : l.length ≤ 1048576) (hn2 : n ≤ 1048576) :
  Calls Tryz.prog 188 #[v, .int .i64 n] w (fun e w' => e = .returned (.bool (todoB l n)) ∧ Below w w w') := by
 have H := zh h
 obtain ⟨a, cap, rfl⟩ := Jl (ints_slR h)
 clear h
 go_enter Tryz.func188, Tryz.ntmps188
 go_wp2
 go_loopw [5] (fun i wr => ∃ k : Nat, k ≤ l.length ∧ i = .int .i64 k ∧ Hid (Uw l n k) ∧ Below w w wr) (fun i _ => l.length - (intOf i).toNat)
 case atStart => exact ⟨0, Ij _, rfl, zh (todoTo_zero _ _), Il _ _⟩
 case round =>
  obtain ⟨k, hk, rfl, hno, c⟩ := hrel
  have cw := zh c
  by_cases hlt : k < l.length
  ·
   obtain ⟨b, off, cap', hv, hbl, hc⟩ := Vq H.out (by omega)
   simp only [Ik] at hv
   obtain ⟨rfl, _, rfl⟩ := hv
   have hcell := (c.cell (p := ⟨b, off + k, none⟩) hbl).trans (hc k hlt)
   have i1 : (0 : Int) ≤ (k : Int) := by omega
   have i2 : (k : Int) < (l.length : Int) := by omega
   by_cases hin : 0 ≤ l.getD k 0 ∧ l.getD k 0 ≤ (n : Int) - 1
   ·
    by_cases hz : k = 0
    ·
     have HS : Hid (Uw l n (k + 1)) := zh (todoTo_step hno.out hin.1 (by omega) (fun g => by omega))
     have HI := zh (fun W => Xe (l.getD k 0) 0 ((n : Int) - 1) W hin.1 hin.2)
     have hd0 : decide (0 < k) = false := by simp [hz]
     have hd2 : decide ((0 : Int) < (k : Int)) = false := by simp [hz]
     clear hc hz hin
     generalize l.getD k 0 = y at *
     go_wp2
     go_quiet ((go_at_call 55; exact Calls.quiet_of_same (HI.out _)))
     go_wp2
     go_roundw
     case rel => exact ⟨k + 1, by omega, by go_num, HS, Yq cw.out rfl rfl rfl rfl⟩
     case measure => simp [intOf]; omega
    ·
     have hcellp := (c.cell (p := ⟨b, off + (k - 1), none⟩) hbl).trans (hc (k - 1) (by omega))
     have HI := zh (fun W => Xe (l.getD k 0) 0 ((n : Int) - 1) W hin.1 hin.2)
     have hd0 : 0 < k := by omega
     have i3 : (0 : Int) ≤ (k : Int) - 1 := by omega
     have i4 : (k : Int) - 1 < (l.length : Int) := by omega
     have i5 : ((k : Int) - 1).toNat = k - 1 := by omega
     have e1 : IntKind.i64.wrap ((k : Int) - 1) = (k : Int) - 1 := IntWalk.i64_in _ (by omega)
     by_cases hle : l.getD k 0 ≤ l.getD (k - 1) 0
     ·
      have HNO : Hid (todoB l n = false) := zh (decide_eq_false (fun g => todo_no hlt (fun q => by have := q.2 hd0; omega) g.2))
      clear hc hz hin
      generalize l.getD (k - 1) 0 = z at *
      generalize l.getD k 0 = y at *
      have hdl : decide (y ≤ z) = true := decide_eq_true hle
      go_wp2
      go_quiet ((go_at_call 55; exact Calls.quiet_of_same (HI.out _)))
      go_wp2
      go_ret
      exact ⟨Jy HNO.out.symm, Yq cw.out rfl rfl rfl rfl⟩
     ·
      have HS : Hid (Uw l n (k + 1)) := zh (todoTo_step hno.out hin.1 (by omega) (fun _ => by omega))
      clear hc hz hin
      generalize l.getD (k - 1) 0 = z at *
      generalize l.getD k 0 = y at *
      have hdl : decide (y ≤ z) = false := decide_eq_false hle
      go_wp2
      go_quiet ((go_at_call 55; exact Calls.quiet_of_same (HI.out _)))
      go_wp2
      go_roundw
      case rel => exact ⟨k + 1, by omega, by go_num, HS, Yq cw.out rfl rfl rfl rfl⟩
      case measure => simp [intOf]; omega
   ·
    have HNO : Hid (todoB l n = false) := zh (decide_eq_false (fun g => todo_no hlt (fun q => hin ⟨q.1.1, by omega⟩) g.2))
    have HI := zh (fun W => in_no (l.getD k 0) 0 ((n : Int) - 1) W hin)
    clear hc hin
    generalize l.getD k 0 = y at *
    go_wp2
    go_quiet ((go_at_call 55; exact Calls.quiet_of_same (HI.out _)))
    go_wp2
    go_ret
    exact ⟨Jy HNO.out.symm, Yq cw.out rfl rfl rfl rfl⟩
  ·
   obtain rfl : k = l.length := by omega
   have HA := zh hno.out
   clear hno c
   by_cases h9 : 1 ≤ l.length
   ·
    have HT : Hid (todoB l n = true) := zh (decide_eq_true ⟨h9, HA.out⟩)
    have h8 : (0 : Int) < (l.length : Int) := by omega
    clear h9
    go_wp2
    go_ret
    exact ⟨Jy (by rw [HT.out]; exact decide_eq_true (by omega)), cw.out⟩
   ·
    have HT : Hid (todoB l n = false) := zh (decide_eq_false (fun g => h9 g.1))
    have h8 : ¬ (0 : Int) < (l.length : Int) := by omega
    clear h9
    go_wp2
    go_ret
    exact ⟨Jy (by rw [HT.out]; exact decide_eq_false (by omega)), cw.out⟩
theorem in_any (a l h : Int) (w : World) : Calls Tryz.prog 55 #[.int .i64 a, .int .i64 l, .int .i64 h] w fun e w' => e = .returned (.bool (decide (l ≤ a ∧ a ≤ h))) ∧ w' = w := by
 by_cases g : l ≤ a ∧ a ≤ h
 ·
  rw [decide_eq_true g]; exact Xe a l h w g.1 g.2
 ·
  rw [decide_eq_false g]; exact in_no a l h w g
set_option maxHeartbeats 8000000 in
theorem specIsCharge (sg ba : Int) (iv tv rv : Value) (is ts rs : List Int) (w : World) (h2 : Ko Je w iv is) (h3 : Ko Je w tv ts) (h4 : Ko Je w rv rs) (n2 : is.length ≤ 1048576) (n3 : ts.length ≤ 1048576) (n4 : rs.length ≤ 1048576) :
  Calls Tryz.prog 125 #[.agg #[.int .i64 sg, .int .i64 ba, iv, tv, rv]] w (fun e w' => e = .returned (.bool (Ve (sg, ba, is, ts, rs))) ∧ Below w w w') := by
 obtain ⟨ia, ic, rfl⟩ := Jl h2
 obtain ⟨ta, tc, rfl⟩ := Jl h3
 obtain ⟨ra, rc, rfl⟩ := Jl h4
 have H2 := zh h2; have H3 := zh h3; have H4 := zh h4
 clear h2 h3 h4
 have d := zh (show Below w w (w.alloc (.cells #[.int .i64 sg, .int .i64 ba, .slice ia is.length ic, .slice ta ts.length tc, .slice ra rs.length rc] 162)) from ((Il _ w).alloc (Ii _) _))
 have B0 : Hid ((w.alloc (.cells #[.int .i64 sg, .int .i64 ba, .slice ia is.length ic, .slice ta ts.length tc, .slice ra rs.length rc] 162)).heap[w.heap.size]? = some (.cells #[.int .i64 sg, .int .i64 ba, .slice ia is.length ic, .slice ta ts.length tc, .slice ra rs.length rc] 162 (0, 0))) := zh (by
  exact Ic w _)
 have YW : Hid (w.heap.size + 1 ≤ (w.alloc (.cells #[.int .i64 sg, .int .i64 ba, .slice ia is.length ic, .slice ta ts.length tc, .slice ra rs.length rc] 162)).heap.size) := zh (by simp [Ie])
 go_enter Tryz.func125, Tryz.ntmps125
 go_wp2_with fail
 generalize (w.alloc (.cells #[.int .i64 sg, .int .i64 ba, .slice ia is.length ic, .slice ta ts.length tc, .slice ra rs.length rc] 162)) = W at *
 refine (specIsSet (.slice ia is.length ic) is W (Yd (Jb Jc H2.out d.out)) n2).mono ?_
 rintro e W1 ⟨rfl, c⟩
 replace B0 := zb c B0
 replace d := zD d c
 have Z_W1 := zh (show W.heap.size ≤ W1.heap.size from c.size)
 clear c
 rcases Bool.eq_false_or_eq_true (setB is) with hset | hset
 rotate_left
 ·
  rw [hset]
  have HF := zh (charge_no1 (x := (sg, ba, is, ts, rs)) hset)
  clear hset
  have cp_B0_0 := Ed B0.out
  go_wp2
  clear cp_B0_0
  go_ret
  exact ⟨Jy HF.out.symm, d.out⟩
 rw [hset]
 have HSET := zh hset
 clear hset
 by_cases hp1 : is.length ≠ 0
 rotate_left
 ·
  have HF := zh (Yh (x := (sg, ba, is, ts, rs)) (fun g => by have := g.1.1; simp only at this; omega))
  have f1 : ((is.length : Int) == 0) = true := by simpa using hp1
  clear hp1
  have cp_B0_0 := Ed B0.out
  go_wp2
  clear cp_B0_0
  go_ret
  exact ⟨Jy HF.out.symm, d.out⟩
 have f1 : ((is.length : Int) == 0) = false := by simpa using hp1
 have HP1 := zh hp1
 clear hp1
 by_cases hp2 : ¬ 8 < is.length
 rotate_left
 ·
  have HF := zh (Yh (x := (sg, ba, is, ts, rs)) (fun g => by have := g.1.2; simp only at this; omega))
  have f2 : decide ((8 : Int) < (is.length : Int)) = true := decide_eq_true (by omega)
  clear hp2
  have cp_B0_0 := Ed B0.out
  go_wp2
  clear cp_B0_0
  go_ret
  exact ⟨Jy HF.out.symm, d.out⟩
 have f2 : decide ((8 : Int) < (is.length : Int)) = false := decide_eq_false (by omega)
 have HP2 := zh hp2
 clear hp2
 by_cases hp3 : ts.length = is.length
 rotate_left
 ·
  have HF := zh (Yh (x := (sg, ba, is, ts, rs)) (fun g => hp3 g.2.1.1))
  have f3 : ((ts.length : Int) != (is.length : Int)) = true := by rw [bne_iff_ne]; omega
  clear hp3
  have cp_B0_0 := Ed B0.out
  go_wp2
  clear cp_B0_0
  go_ret
  exact ⟨Jy HF.out.symm, d.out⟩
 have f3 : ((ts.length : Int) != (is.length : Int)) = false := by rw [bne_eq_false_iff_eq]; omega
 have HP3 := zh hp3
 clear hp3
 by_cases hp4 : rs.length = is.length
 rotate_left
 ·
  have HF := zh (Yh (x := (sg, ba, is, ts, rs)) (fun g => hp4 g.2.1.2))
  have f4 : ((rs.length : Int) != (is.length : Int)) = true := by rw [bne_iff_ne]; omega
  clear hp4
  have cp_B0_0 := Ed B0.out
  go_wp2
  clear cp_B0_0
  go_ret
  exact ⟨Jy HF.out.symm, d.out⟩
 have f4 : ((rs.length : Int) != (is.length : Int)) = false := by rw [bne_eq_false_iff_eq]; omega
 have HP4 := zh hp4
 clear hp4
 have cp_B0_0 := Ed B0.out
 go_wp2_with fail
 clear cp_B0_0 f1 f2 f3 f4
 refine (in_any sg 0 7 _).mono ?_
 rintro e wx ⟨rfl, hwx⟩
 obtain rfl := hwx.symm
 rcases Bool.eq_false_or_eq_true (decide (0 ≤ sg ∧ sg ≤ 7)) with hp5 | hp5
 rotate_left
 ·
  rw [hp5]
  have HF := zh (Yh (x := (sg, ba, is, ts, rs)) (fun g => of_decide_eq_false hp5 g.2.2.1))
  clear hp5
  have cp_B0_0 := Ed B0.out
  go_wp2
  clear cp_B0_0
  go_ret
  exact ⟨Jy HF.out.symm, d.out⟩
 rw [hp5]
 have HP5 := zh hp5
 clear hp5
 have cp_B0_0 := Ed B0.out
 go_wp2_with fail
 clear cp_B0_0
 refine (in_any ba 0 4 _).mono ?_
 rintro e wx ⟨rfl, hwx⟩
 obtain rfl := hwx.symm
 rcases Bool.eq_false_or_eq_true (decide (0 ≤ ba ∧ ba ≤ 4)) with hp6 | hp6
 rotate_left
 ·
  rw [hp6]
  have HF := zh (Yh (x := (sg, ba, is, ts, rs)) (fun g => of_decide_eq_false hp6 g.2.2.2))
  clear hp6
  have cp_B0_0 := Ed B0.out
  go_wp2
  clear cp_B0_0
  go_ret
  exact ⟨Jy HF.out.symm, d.out⟩
 rw [hp6]
 have HP6 := zh hp6
 clear hp6
 have HH : Hid (chargeHP (sg, ba, is, ts, rs)) := zh ⟨⟨by have := HP1.out; show 1 ≤ is.length; omega, by have := HP2.out; show is.length ≤ 8; omega⟩, ⟨HP3.out, HP4.out⟩, of_decide_eq_true HP5.out, of_decide_eq_true HP6.out⟩
 have cp_B0_0 := Ed B0.out
 go_wp2
 clear cp_B0_0
 go_loopw [4] (fun i wr => ∃ k : Nat, k ≤ is.length ∧ i = .int .i64 k ∧ Hid (Ux tenB 0 ts k ∧ Ux (getB ba) 0 rs k) ∧ Below W1 W1 wr) (fun i _ => is.length - (intOf i).toNat)
 case atStart => exact ⟨0, Ij _, rfl, zh (⟨Xy _ _ _, Xy _ _ _⟩), Il _ _⟩
 case round =>
  obtain ⟨k, hk, rfl, hno, c⟩ := hrel
  have cw := zh c
  replace B0 := zb c B0
  replace d := zD d c
  clear c
  by_cases hlt : k < is.length
  ·
   have i1 : (0 : Int) ≤ (k : Int) := by omega
   have i2 : (k : Int) < (is.length : Int) := by omega
   have hlt3 : k < ts.length := by have := HP3.out; omega
   have hlt4 : k < rs.length := by have := HP4.out; omega
   have i3 : (k : Int) < (ts.length : Int) := by omega
   have i4 : (k : Int) < (rs.length : Int) := by omega
   obtain ⟨b, off, cap', hv, hbl, hc⟩ := Vq (Yd H3.out) (by omega)
   simp only [Ik] at hv
   obtain ⟨rfl, _, rfl⟩ := hv
   have hcell := hc k hlt3
   obtain ⟨b2, off2, cap2, hv, hbl2, hc2⟩ := Vq (Yd H4.out) (by omega)
   simp only [Ik] at hv
   obtain ⟨rfl, _, rfl⟩ := hv
   have hcell2 := hc2 k hlt4
   have N3 : Hid (tenB (ts.getD k 0) = false → Ve (sg, ba, is, ts, rs) = false) := zh (fun g => charge_no3 (x := (sg, ba, is, ts, rs)) (allB_no 0 hlt3 g))
   have N4 : Hid (getB ba (rs.getD k 0) = false → Ve (sg, ba, is, ts, rs) = false) := zh (fun g => charge_no4 (x := (sg, ba, is, ts, rs)) (allB_no 0 hlt4 g))
   have Y3 : Hid (tenB (ts.getD k 0) = true → Ux tenB 0 ts (k + 1)) := zh (fun g => Xz hno.out.1 g)
   have Y4 : Hid (getB ba (rs.getD k 0) = true → Ux (getB ba) 0 rs (k + 1)) := zh (fun g => Xz hno.out.2 g)
   have BL := zh hbl; have BL2 := zh hbl2
   clear hc hc2 hno hbl hbl2 hlt3 hlt4
   generalize ts.getD k 0 = y at *
   generalize rs.getD k 0 = z at *
   have T0 := zh hcell; have R0 := zh hcell2
   clear hcell hcell2
   by_cases ht : 0 ≤ y ∧ y ≤ 3
   ·
    have HI := zh (fun W => Xe y 0 3 W ht.1 ht.2)
    have HY3 := zh (Y3.out (decide_eq_true ht))
    clear ht
    by_cases hz : 0 ≤ z ∧ z ≤ ba
    ·
     have HI2 := zh (fun W => Xe z 0 ba W hz.1 hz.2)
     have HY4 := zh (Y4.out (decide_eq_true hz))
     clear hz N3 N4 Y3 Y4
     go_wp2
     obtain ⟨p_B0_0, p_B0_1, p_B0_2, p_B0_3, p_B0_4⟩ := Ed B0.out
     have p_T0 := cx d T0 BL
     have p_R0 := cx d R0 BL2
     refine wp_region_held_drew (S := fun w' => w'.cell? ⟨w, 0, none⟩ = some (Value.int .i64 sg) ∧ w'.cell? ⟨w, 1, none⟩ = some (Value.int .i64 ba) ∧ w'.cell? ⟨w, 2, none⟩ = some (Value.slice ia is.length ic) ∧ w'.cell? ⟨w, 3, none⟩ = some (Value.slice (some ⟨b, off, none⟩) ts.length tc) ∧ w'.cell? ⟨w, 4, none⟩ = some (Value.slice (some ⟨b2, off2, none⟩) rs.length rc) ∧ w'.cell? ⟨b, off + k, none⟩ = some (Value.int .i64 y) ∧ w'.cell? ⟨b2, off2 + k, none⟩ = some (Value.int .i64 z)) (by kernel_rfl) ⟨p_B0_0, p_B0_1, p_B0_2, p_B0_3, p_B0_4, p_T0, p_R0⟩ (fun hHeld => ?_)
     clear p_B0_0 p_B0_1 p_B0_2 p_B0_3 p_B0_4 p_T0 p_R0
     have cdr : Below wr wr wr.drew := Kc (Il _ _)
     replace B0 := zb cdr B0
     replace d := zD d cdr
     clear cdr
     refine tQ (i := 0) ?_
     try simp only [Act.put, lA, lB, lC]
     refine tQ (i := 1) ?_
     try simp only [Act.put, lA, lB, lC]
     refine tQ (i := 2) ?_
     try simp only [Act.put, lA, lB, lC]
     refine tQ (i := 3) ?_
     try simp only [Act.put, lA, lB, lC]
     refine tQ (i := 4) ?_
     try simp only [Act.put, lA, lB, lC]
     refine rA 5 (fun K hK => ?_)
     go_simp
     refine (HI.out _).mono ?_
     rintro e wx ⟨rfl, hwx⟩
     obtain rfl := hwx.symm
     obtain ⟨p_B0_0, p_B0_1, p_B0_2, p_B0_3, p_B0_4⟩ := Ed B0.out
     have p_T0 := cx d T0 BL
     have p_R0 := cx d R0 BL2
     refine hK.out _ _ ⟨p_B0_0, p_B0_1, p_B0_2, p_B0_3, p_B0_4, p_T0, p_R0⟩ (fun hHeld => ?_)
     clear p_B0_0 p_B0_1 p_B0_2 p_B0_3 p_B0_4 p_T0 p_R0
     clear hK K
     try simp only [Act.put, lA, lB, lC]
     refine tQ (i := 6) ?_
     try simp only [Act.put, lA, lB, lC]
     refine tQ (i := 7) ?_
     try simp only [Act.put, lA, lB, lC]
     refine tQ (i := 8) ?_
     try simp only [Act.put, lA, lB, lC]
     refine tQ (i := 9) ?_
     try simp only [Act.put, lA, lB, lC]
     refine tQ (i := 10) ?_
     try simp only [Act.put, lA, lB, lC]
     refine tQ (i := 11) ?_
     try simp only [Act.put, lA, lB, lC]
     refine tQ (i := 12) ?_
     try simp only [Act.put, lA, lB, lC]
     refine tQ (i := 13) ?_
     try simp only [Act.put, lA, lB, lC]
     refine tQ (i := 14) ?_
     try simp only [Act.put, lA, lB, lC]
     refine rA 15 (fun K hK => ?_)
     go_simp
     refine (HI2.out _).mono ?_
     rintro e wx ⟨rfl, hwx⟩
     obtain rfl := hwx.symm
     obtain ⟨p_B0_0, p_B0_1, p_B0_2, p_B0_3, p_B0_4⟩ := Ed B0.out
     have p_T0 := cx d T0 BL
     have p_R0 := cx d R0 BL2
     refine hK.out _ _ ⟨p_B0_0, p_B0_1, p_B0_2, p_B0_3, p_B0_4, p_T0, p_R0⟩ (fun hHeld => ?_)
     clear p_B0_0 p_B0_1 p_B0_2 p_B0_3 p_B0_4 p_T0 p_R0
     clear hK K
     try simp only [Act.put, lA, lB, lC]
     refine tQ (i := 16) ?_
     try simp only [Act.put, lA, lB, lC]
     refine tQ (i := 17) ?_
     try simp only [Act.put, lA, lB, lC]
     refine wpAnyH_done (by kernel_rfl) ?_ _
     clear hHeld
     go_wp2
     go_roundw
     case rel => exact ⟨k + 1, by omega, by go_num, zh ⟨HY3.out, HY4.out⟩, Yq cw.out rfl rfl rfl rfl⟩
     case measure => simp [intOf]; omega
    ·
     have HI2 := zh (fun W => in_no z 0 ba W hz)
     have HF := zh (N4.out (decide_eq_false hz))
     clear hz N3 N4 Y3 Y4
     go_wp2
     obtain ⟨p_B0_0, p_B0_1, p_B0_2, p_B0_3, p_B0_4⟩ := Ed B0.out
     have p_T0 := cx d T0 BL
     have p_R0 := cx d R0 BL2
     refine wp_region_held_drew (S := fun w' => w'.cell? ⟨w, 0, none⟩ = some (Value.int .i64 sg) ∧ w'.cell? ⟨w, 1, none⟩ = some (Value.int .i64 ba) ∧ w'.cell? ⟨w, 2, none⟩ = some (Value.slice ia is.length ic) ∧ w'.cell? ⟨w, 3, none⟩ = some (Value.slice (some ⟨b, off, none⟩) ts.length tc) ∧ w'.cell? ⟨w, 4, none⟩ = some (Value.slice (some ⟨b2, off2, none⟩) rs.length rc) ∧ w'.cell? ⟨b, off + k, none⟩ = some (Value.int .i64 y) ∧ w'.cell? ⟨b2, off2 + k, none⟩ = some (Value.int .i64 z)) (by kernel_rfl) ⟨p_B0_0, p_B0_1, p_B0_2, p_B0_3, p_B0_4, p_T0, p_R0⟩ (fun hHeld => ?_)
     clear p_B0_0 p_B0_1 p_B0_2 p_B0_3 p_B0_4 p_T0 p_R0
     have cdr : Below wr wr wr.drew := Kc (Il _ _)
     replace B0 := zb cdr B0
     replace d := zD d cdr
     clear cdr
     refine tQ (i := 0) ?_
     try simp only [Act.put, lA, lB, lC]
     refine tQ (i := 1) ?_
     try simp only [Act.put, lA, lB, lC]
     refine tQ (i := 2) ?_
     try simp only [Act.put, lA, lB, lC]
     refine tQ (i := 3) ?_
     try simp only [Act.put, lA, lB, lC]
     refine tQ (i := 4) ?_
     try simp only [Act.put, lA, lB, lC]
     refine rA 5 (fun K hK => ?_)
     go_simp
     refine (HI.out _).mono ?_
     rintro e wx ⟨rfl, hwx⟩
     obtain rfl := hwx.symm
     obtain ⟨p_B0_0, p_B0_1, p_B0_2, p_B0_3, p_B0_4⟩ := Ed B0.out
     have p_T0 := cx d T0 BL
     have p_R0 := cx d R0 BL2
     refine hK.out _ _ ⟨p_B0_0, p_B0_1, p_B0_2, p_B0_3, p_B0_4, p_T0, p_R0⟩ (fun hHeld => ?_)
     clear p_B0_0 p_B0_1 p_B0_2 p_B0_3 p_B0_4 p_T0 p_R0
     clear hK K
     try simp only [Act.put, lA, lB, lC]
     refine tQ (i := 6) ?_
     try simp only [Act.put, lA, lB, lC]
     refine tQ (i := 7) ?_
     try simp only [Act.put, lA, lB, lC]
     refine tQ (i := 8) ?_
     try simp only [Act.put, lA, lB, lC]
     refine tQ (i := 9) ?_
     try simp only [Act.put, lA, lB, lC]
     refine tQ (i := 10) ?_
     try simp only [Act.put, lA, lB, lC]
     refine tQ (i := 11) ?_
     try simp only [Act.put, lA, lB, lC]
     refine tQ (i := 12) ?_
     try simp only [Act.put, lA, lB, lC]
     refine tQ (i := 13) ?_
     try simp only [Act.put, lA, lB, lC]
     refine tQ (i := 14) ?_
     try simp only [Act.put, lA, lB, lC]
     refine rA 15 (fun K hK => ?_)
     go_simp
     refine (HI2.out _).mono ?_
     rintro e wx ⟨rfl, hwx⟩
     obtain rfl := hwx.symm
     obtain ⟨p_B0_0, p_B0_1, p_B0_2, p_B0_3, p_B0_4⟩ := Ed B0.out
     have p_T0 := cx d T0 BL
     have p_R0 := cx d R0 BL2
     refine hK.out _ _ ⟨p_B0_0, p_B0_1, p_B0_2, p_B0_3, p_B0_4, p_T0, p_R0⟩ (fun hHeld => ?_)
     clear p_B0_0 p_B0_1 p_B0_2 p_B0_3 p_B0_4 p_T0 p_R0
     clear hK K
     try simp only [Act.put, lA, lB, lC]
     refine tQ (i := 16) ?_
     try simp only [Act.put, lA, lB, lC]
     refine tQ (i := 17) ?_
     try simp only [Act.put, lA, lB, lC]
     refine wpAnyH_done (by kernel_rfl) ?_ _
     clear hHeld
     go_wp2
     go_ret
     exact ⟨Jy HF.out.symm, d.out⟩
   ·
    have HI := zh (fun W => in_no y 0 3 W ht)
    have HF := zh (N3.out (decide_eq_false ht))
    clear ht N3 N4 Y3 Y4
    go_wp2
    obtain ⟨p_B0_0, p_B0_1, p_B0_2, p_B0_3, p_B0_4⟩ := Ed B0.out
    have p_T0 := cx d T0 BL
    have p_R0 := cx d R0 BL2
    refine wp_region_held_drew (S := fun w' => w'.cell? ⟨w, 0, none⟩ = some (Value.int .i64 sg) ∧ w'.cell? ⟨w, 1, none⟩ = some (Value.int .i64 ba) ∧ w'.cell? ⟨w, 2, none⟩ = some (Value.slice ia is.length ic) ∧ w'.cell? ⟨w, 3, none⟩ = some (Value.slice (some ⟨b, off, none⟩) ts.length tc) ∧ w'.cell? ⟨w, 4, none⟩ = some (Value.slice (some ⟨b2, off2, none⟩) rs.length rc) ∧ w'.cell? ⟨b, off + k, none⟩ = some (Value.int .i64 y) ∧ w'.cell? ⟨b2, off2 + k, none⟩ = some (Value.int .i64 z)) (by kernel_rfl) ⟨p_B0_0, p_B0_1, p_B0_2, p_B0_3, p_B0_4, p_T0, p_R0⟩ (fun hHeld => ?_)
    clear p_B0_0 p_B0_1 p_B0_2 p_B0_3 p_B0_4 p_T0 p_R0
    have cdr : Below wr wr wr.drew := Kc (Il _ _)
    replace B0 := zb cdr B0
    replace d := zD d cdr
    clear cdr
    refine tQ (i := 0) ?_
    try simp only [Act.put, lA, lB, lC]
    refine tQ (i := 1) ?_
    try simp only [Act.put, lA, lB, lC]
    refine tQ (i := 2) ?_
    try simp only [Act.put, lA, lB, lC]
    refine tQ (i := 3) ?_
    try simp only [Act.put, lA, lB, lC]
    refine tQ (i := 4) ?_
    try simp only [Act.put, lA, lB, lC]
    refine rA 5 (fun K hK => ?_)
    go_simp
    refine (HI.out _).mono ?_
    rintro e wx ⟨rfl, hwx⟩
    obtain rfl := hwx.symm
    obtain ⟨p_B0_0, p_B0_1, p_B0_2, p_B0_3, p_B0_4⟩ := Ed B0.out
    have p_T0 := cx d T0 BL
    have p_R0 := cx d R0 BL2
    refine hK.out _ _ ⟨p_B0_0, p_B0_1, p_B0_2, p_B0_3, p_B0_4, p_T0, p_R0⟩ (fun hHeld => ?_)
    clear p_B0_0 p_B0_1 p_B0_2 p_B0_3 p_B0_4 p_T0 p_R0
    clear hK K
    try simp only [Act.put, lA, lB, lC]
    refine tQ (i := 6) ?_
    try simp only [Act.put, lA, lB, lC]
    refine tQ (i := 7) ?_
    try simp only [Act.put, lA, lB, lC]
    refine tO (i := 8) ?_
    try simp only [Act.put, lA, lB, lC]
    refine tO (i := 9) ?_
    try simp only [Act.put, lA, lB, lC]
    refine tO (i := 10) ?_
    try simp only [Act.put, lA, lB, lC]
    refine tO (i := 11) ?_
    try simp only [Act.put, lA, lB, lC]
    refine tO (i := 12) ?_
    try simp only [Act.put, lA, lB, lC]
    refine tO (i := 13) ?_
    try simp only [Act.put, lA, lB, lC]
    refine tO (i := 14) ?_
    try simp only [Act.put, lA, lB, lC]
    refine tO (i := 15) ?_
    try simp only [Act.put, lA, lB, lC]
    refine tO (i := 16) ?_
    try simp only [Act.put, lA, lB, lC]
    refine tQ (i := 17) ?_
    try simp only [Act.put, lA, lB, lC]
    refine wpAnyH_done (by kernel_rfl) ?_ _
    clear hHeld
    go_wp2
    go_ret
    exact ⟨Jy HF.out.symm, d.out⟩
  ·
   obtain rfl : k = is.length := by omega
   have HT : Hid (Ve (sg, ba, is, ts, rs) = true) := zh (charge_yes HSET.out HH.out (Ee 0 (by have := hno.out.1; have e := HP3.out; simp only; rw [e]; exact this)) (Ee 0 (by have := hno.out.2; have e := HP4.out; simp only; rw [e]; exact this)))
   clear hno
   have cp_B0_0 := Ed B0.out
   go_wp2
   clear cp_B0_0
   go_ret
   exact ⟨Jy HT.out.symm, d.out⟩
set_option maxHeartbeats 8000000 in
theorem specL9Active (now cu st a0 a1 a4 a6 a7 a8 : Int) (sa : Option Addr) (sc : Nat) (ov av dv lv v2 v3 v5 v9 : Value) (ss : List (List Kj)) (x2 : List Ul) (x3 x5 : List Int) (x9 : List Ej) (w : World)
  (h2 : Ko Jk w v2 x2) (h3 : Ko Je w v3 x3) (h5 : Ko Je w v5 x5) (h9 : Ko Ke w v9 x9) (n0 : ss.length ≤ 1048576) (s2 : zL Jk x2 ≤ 1048576) (s3 : zL Je x3 ≤ 1048576) (s5 : zL Je x5 ≤ 1048576) (s9 : zL Ke x9 ≤ 1048576) :
  Calls Tryz.prog 123 #[.agg #[.slice sa ss.length sc, .int .i64 now, .int .i64 cu, ov, av, dv, lv, .int .i64 st], .agg #[a0, a1, v2, v3, a4, v5, a6, a7, a8, v9]] w (fun e w' => e = .returned (.bool (actB (ss, now) ((a0, a1, x2, x3), a4, x5, a6, a7, a8, x9))) ∧ Below w w w') := by
 obtain ⟨p2, c2, rfl⟩ := Jl h2
 have H2 := zh h2; have N2 := zh (Jz s2); have S2 := zh s2
 obtain ⟨p3, c3, rfl⟩ := Jl h3
 have H3 := zh h3; have N3 := zh (Jz s3); have S3 := zh s3
 obtain ⟨p5, c5, rfl⟩ := Jl h5
 have H5 := zh h5; have N5 := zh (Jz s5); have S5 := zh s5
 obtain ⟨p9, c9, rfl⟩ := Jl h9
 have H9 := zh h9; have N9 := zh (Jz s9); have S9 := zh s9
 clear h2 h3 h5 h9 s2 s3 s5 s9
 have d := zh (show Below w w ((w.alloc (.cells #[.slice sa ss.length sc, .int .i64 now, .int .i64 cu, ov, av, dv, lv, .int .i64 st] 40)).alloc (.cells #[a0, a1, .slice p2 x2.length c2, .slice p3 x3.length c3, a4, .slice p5 x5.length c5, a6, a7, a8, .slice p9 x9.length c9] 104)) from (((Il _ w).alloc (Ii _) _).alloc (by simp) _))
 have B0 : Hid (((w.alloc (.cells #[.slice sa ss.length sc, .int .i64 now, .int .i64 cu, ov, av, dv, lv, .int .i64 st] 40)).alloc (.cells #[a0, a1, .slice p2 x2.length c2, .slice p3 x3.length c3, a4, .slice p5 x5.length c5, a6, a7, a8, .slice p9 x9.length c9] 104)).heap[w.heap.size]? = some (.cells #[.slice sa ss.length sc, .int .i64 now, .int .i64 cu, ov, av, dv, lv, .int .i64 st] 40 (0, 0))) := zh (by
  rw [Below.heap_alloc _ _ _ (by simp)]
  exact Ic w _)
 have B1 : Hid (((w.alloc (.cells #[.slice sa ss.length sc, .int .i64 now, .int .i64 cu, ov, av, dv, lv, .int .i64 st] 40)).alloc (.cells #[a0, a1, .slice p2 x2.length c2, .slice p3 x3.length c3, a4, .slice p5 x5.length c5, a6, a7, a8, .slice p9 x9.length c9] 104)).heap[(w.heap.size + 1)]? = some (.cells #[a0, a1, .slice p2 x2.length c2, .slice p3 x3.length c3, a4, .slice p5 x5.length c5, a6, a7, a8, .slice p9 x9.length c9] 104 (0, 0))) := zh (by
  have := Ic (w.alloc (.cells #[.slice sa ss.length sc, .int .i64 now, .int .i64 cu, ov, av, dv, lv, .int .i64 st] 40)) (.cells #[a0, a1, .slice p2 x2.length c2, .slice p3 x3.length c3, a4, .slice p5 x5.length c5, a6, a7, a8, .slice p9 x9.length c9] 104)
  simpa only [Ie] using this)
 have YW : Hid (w.heap.size + 2 ≤ ((w.alloc (.cells #[.slice sa ss.length sc, .int .i64 now, .int .i64 cu, ov, av, dv, lv, .int .i64 st] 40)).alloc (.cells #[a0, a1, .slice p2 x2.length c2, .slice p3 x3.length c3, a4, .slice p5 x5.length c5, a6, a7, a8, .slice p9 x9.length c9] 104)).heap.size) := zh (by simp [Ie])
 go_enter Tryz.func123, Tryz.ntmps123
 go_wp2_with fail
 generalize ((w.alloc (.cells #[.slice sa ss.length sc, .int .i64 now, .int .i64 cu, ov, av, dv, lv, .int .i64 st] 40)).alloc (.cells #[a0, a1, .slice p2 x2.length c2, .slice p3 x3.length c3, a4, .slice p5 x5.length c5, a6, a7, a8, .slice p9 x9.length c9] 104)) = W at *
 refine (specIsQuery a0 a1 (.slice p2 x2.length c2) (.slice p3 x3.length c3) x2 x3 W (slR_conds (Jb Jt H2.out d.out)) N2.out (Yd (Jb Jc H3.out d.out)) N3.out).mono ?_
 rintro e W1 ⟨rfl, c⟩
 replace B0 := zb c B0
 replace B1 := zb c B1
 replace d := zD d c
 have Z_W1 := zh (show W.heap.size ≤ W1.heap.size from c.size)
 clear c
 rcases Bool.eq_false_or_eq_true (Xc a0 a1 x2 x3) with hq | hq
 rotate_left
 ·
  rw [hq]
  have HF := zh (act_no1 (s := (ss, now)) (a := ((a0, a1, x2, x3), a4, x5, a6, a7, a8, x9)) hq)
  clear hq
  have cp_B0_0 := Kz B0.out
  have cp_B1_0 := Yr B1.out
  go_wp2
  clear cp_B0_0 cp_B1_0
  go_ret
  exact ⟨Jy HF.out.symm, d.out⟩
 rw [hq]
 have HQ := zh hq
 clear hq
 have cp_B0_0 := Kz B0.out
 have cp_B1_0 := Yr B1.out
 go_wp2_with fail
 clear cp_B0_0 cp_B1_0
 refine (in_any a4 0 now _).mono ?_
 rintro e wx ⟨rfl, hwx⟩
 obtain rfl := hwx.symm
 rcases Bool.eq_false_or_eq_true (decide (0 ≤ a4 ∧ a4 ≤ now)) with tt1 | tt1
 rotate_left
 ·
  rw [tt1]
  have HF := zh (act_no2 (s := (ss, now)) (a := ((a0, a1, x2, x3), a4, x5, a6, a7, a8, x9)) (fun g => of_decide_eq_false tt1 g.1))
  clear tt1
  have cp_B0_0 := Kz B0.out
  have cp_B1_0 := Yr B1.out
  go_wp2
  clear cp_B0_0 cp_B1_0
  go_ret
  exact ⟨Jy HF.out.symm, d.out⟩
 rw [tt1]
 have TT1 := zh tt1
 clear tt1
 have cp_B0_0 := Kz B0.out
 have cp_B1_0 := Yr B1.out
 go_wp2_with fail
 clear cp_B0_0 cp_B1_0
 refine (specL9Todo (.slice p5 x5.length c5) x5 ss.length W1 (Yd (Jb Jc H5.out d.out)) N5.out n0).mono ?_
 rintro e W2 ⟨rfl, c⟩
 replace B0 := zb c B0
 replace B1 := zb c B1
 replace d := zD d c
 have Z_W2 := zh (show W1.heap.size ≤ W2.heap.size from c.size)
 clear c
 rcases Bool.eq_false_or_eq_true (todoB x5 ss.length) with htd | htd
 rotate_left
 ·
  rw [htd]
  have HF := zh (act_no3 (s := (ss, now)) (a := ((a0, a1, x2, x3), a4, x5, a6, a7, a8, x9)) htd)
  clear htd
  have cp_B0_0 := Kz B0.out
  have cp_B1_0 := Yr B1.out
  go_wp2
  clear cp_B0_0 cp_B1_0
  go_ret
  exact ⟨Jy HF.out.symm, d.out⟩
 rw [htd]
 have HTD := zh htd
 clear htd
 have cp_B0_0 := Kz B0.out
 have cp_B1_0 := Yr B1.out
 go_wp2_with fail
 clear cp_B0_0 cp_B1_0
 refine (in_any a6 0 100000 _).mono ?_
 rintro e wx ⟨rfl, hwx⟩
 obtain rfl := hwx.symm
 rcases Bool.eq_false_or_eq_true (decide (0 ≤ a6 ∧ a6 ≤ 100000)) with tt2 | tt2
 rotate_left
 ·
  rw [tt2]
  have HF := zh (act_no2 (s := (ss, now)) (a := ((a0, a1, x2, x3), a4, x5, a6, a7, a8, x9)) (fun g => of_decide_eq_false tt2 g.2.1))
  clear tt2
  have cp_B0_0 := Kz B0.out
  have cp_B1_0 := Yr B1.out
  go_wp2
  clear cp_B0_0 cp_B1_0
  go_ret
  exact ⟨Jy HF.out.symm, d.out⟩
 rw [tt2]
 have TT2 := zh tt2
 clear tt2
 have cp_B0_0 := Kz B0.out
 have cp_B1_0 := Yr B1.out
 go_wp2_with fail
 clear cp_B0_0 cp_B1_0
 refine (in_any a7 0 1000 _).mono ?_
 rintro e wx ⟨rfl, hwx⟩
 obtain rfl := hwx.symm
 rcases Bool.eq_false_or_eq_true (decide (0 ≤ a7 ∧ a7 ≤ 1000)) with tt3 | tt3
 rotate_left
 ·
  rw [tt3]
  have HF := zh (act_no2 (s := (ss, now)) (a := ((a0, a1, x2, x3), a4, x5, a6, a7, a8, x9)) (fun g => of_decide_eq_false tt3 g.2.2.1))
  clear tt3
  have cp_B0_0 := Kz B0.out
  have cp_B1_0 := Yr B1.out
  go_wp2
  clear cp_B0_0 cp_B1_0
  go_ret
  exact ⟨Jy HF.out.symm, d.out⟩
 rw [tt3]
 have TT3 := zh tt3
 clear tt3
 have cp_B0_0 := Kz B0.out
 have cp_B1_0 := Yr B1.out
 go_wp2_with fail
 clear cp_B0_0 cp_B1_0
 refine (in_any a8 0 32 _).mono ?_
 rintro e wx ⟨rfl, hwx⟩
 obtain rfl := hwx.symm
 rcases Bool.eq_false_or_eq_true (decide (0 ≤ a8 ∧ a8 ≤ 32)) with tt4 | tt4
 rotate_left
 ·
  rw [tt4]
  have HF := zh (act_no2 (s := (ss, now)) (a := ((a0, a1, x2, x3), a4, x5, a6, a7, a8, x9)) (fun g => of_decide_eq_false tt4 g.2.2.2))
  clear tt4
  have cp_B0_0 := Kz B0.out
  have cp_B1_0 := Yr B1.out
  go_wp2
  clear cp_B0_0 cp_B1_0
  go_ret
  exact ⟨Jy HF.out.symm, d.out⟩
 rw [tt4]
 have TT4 := zh tt4
 clear tt4
 have cp_B0_0 := Kz B0.out
 have cp_B1_0 := Yr B1.out
 go_wp2_with fail
 clear cp_B0_0 cp_B1_0
 refine (specL9List (.slice p9 x9.length c9) x9 W2 (Jb Jw H9.out d.out) S9.out).mono ?_
 rintro e W3 ⟨rfl, c⟩
 replace B0 := zb c B0
 replace B1 := zb c B1
 replace d := zD d c
 have Z_W3 := zh (show W2.heap.size ≤ W3.heap.size from c.size)
 clear c
 have HT : Hid (Ec x9 = actB (ss, now) ((a0, a1, x2, x3), a4, x5, a6, a7, a8, x9)) := zh (by
  rcases Bool.eq_false_or_eq_true (Ec x9) with g | g
  ·
   rw [g]; exact (act_yes (s := (ss, now)) (a := ((a0, a1, x2, x3), a4, x5, a6, a7, a8, x9)) HQ.out ⟨of_decide_eq_true TT1.out, of_decide_eq_true TT2.out, of_decide_eq_true TT3.out, of_decide_eq_true TT4.out⟩ HTD.out g).symm
  ·
   rw [g]; exact (act_no4 (s := (ss, now)) (a := ((a0, a1, x2, x3), a4, x5, a6, a7, a8, x9)) g).symm)
 go_wp2
 go_ret
 exact ⟨Jy HT.out, d.out⟩
/-- As far as k the order is one. -/
def OrdTo (os : List Int) (k : Nat) : Prop := ∀ i, i < k → (0 ≤ os.getD i 0 ∧ os.getD i 0 ≤ 2) ∧ os.getD i 0 ∉ os.take i
theorem orderB_len {os : List Int} (h : ¬ os.length = 3) : Xd os = false := by unfold Xd; rw [decide_eq_false h]; rfl
theorem orderB_yes {os : List Int} (hl : os.length = 3) (h : OrdTo os os.length) : Xd os = true := by
 unfold Xd
 rw [decide_eq_true hl, Bool.true_and, List.all_eq_true]
 intro i hi
 have := h i (List.mem_range.1 hi)
 simp only [Bool.and_eq_true, decide_eq_true_eq, Bool.not_eq_true', decide_eq_false_iff_not]
 exact this
theorem orderB_no {os : List Int} {k : Nat} (hk : k < os.length) (h : ¬ ((0 ≤ os.getD k 0 ∧ os.getD k 0 ≤ 2) ∧ os.getD k 0 ∉ os.take k)) : Xd os = false := by
 rw [Bool.eq_false_iff]
 intro g
 unfold Xd at g
 rw [Bool.and_eq_true, List.all_eq_true] at g
 have := g.2 k (List.mem_range.2 hk)
 simp only [Bool.and_eq_true, decide_eq_true_eq, Bool.not_eq_true', decide_eq_false_iff_not] at this
 exact h this
theorem ints_take {w : World} {b off cap n : Nat} {xs : List Int} (h : Uc w (.slice (some ⟨b, off, none⟩) n cap) xs) {k : Nat} (hk : k ≤ xs.length) (hp : 0 < xs.length) : Uc w (.slice (some ⟨b, off, none⟩) k cap) (xs.take k) := by
 rcases h with ⟨rfl, _⟩ | ⟨b', off', cap', hv, h2, h3, h4⟩
 ·
  simp at hp
 ·
  simp only [Ik, Option.some.injEq, Addr.mk.injEq] at hv
  obtain ⟨⟨rfl, rfl, _⟩, _, rfl⟩ := hv
  have hl : (xs.take k).length = k := by rw [List.length_take]; omega
  refine Or.inr ⟨b, off, cap, by rw [hl], by omega, h3, fun j hj => ?_⟩
  rw [hl] at hj
  rw [h4 j (by omega)]
  have h1 : j < (xs.take k).length := by omega
  simp [List.getD, hj, show j < xs.length by omega]
theorem ints_cap {w : World} {b off cap n : Nat} {xs : List Int} (h : Uc w (.slice (some ⟨b, off, none⟩) n cap) xs) (hp : 0 < xs.length) : xs.length ≤ cap := by
 rcases h with ⟨rfl, _⟩ | ⟨b', off', cap', hv, h2, _⟩
 ·
  simp at hp
 ·
  simp only [Ik] at hv
  obtain ⟨_, _, rfl⟩ := hv
  exact h2
theorem has_yes (v : Value) (xs : List Int) (x : Int) (w : World) (h : Uc w v xs) (hn : xs.length ≤ 1048576) (hm : x ∈ xs) :
  Calls Tryz.prog 187 #[v, .int .i64 x] w fun e w' => e = .returned (.bool true) ∧ w' = w :=
 (specHas v xs x w h hn).mono fun e w' g => ⟨by rw [g.1, decide_eq_true hm], g.2.symm⟩
theorem has_no (v : Value) (xs : List Int) (x : Int) (w : World) (h : Uc w v xs) (hn : xs.length ≤ 1048576) (hm : x ∉ xs) :
  Calls Tryz.prog 187 #[v, .int .i64 x] w fun e w' => e = .returned (.bool false) ∧ w' = w :=
 (specHas v xs x w h hn).mono fun e w' g => ⟨by rw [g.1, decide_eq_false hm], g.2.symm⟩
set_option maxHeartbeats 4000000 in
theorem specL6Order (v : Value) (os : List Int) (w : World) (h : Uc w v os) (hn : os.length ≤ 1048576) :
  Calls Tryz.prog 122 #[v] w fun e w' => e = .returned (.bool (Xd os)) ∧ Below w w w' := by
 have H := zh h
 obtain ⟨a, cap, rfl⟩ := Yg h
 clear h
 by_cases hl : os.length = 3
 ·
  have hne : ((os.length : Int) != 3) = false := by rw [hl]; rfl
  have HL := zh hl
  clear hl
  go_enter Tryz.func122, Tryz.ntmps122
  go_wp2
  clear hne
  go_loopw [3] (fun i wr => ∃ k : Nat, k ≤ os.length ∧ i = .int .i64 k ∧ Hid (OrdTo os k) ∧ Below w w wr) (fun i _ => os.length - (intOf i).toNat)
  case atStart => exact ⟨0, Ij _, rfl, zh (fun i hi => by omega), Il _ _⟩
  case round =>
   obtain ⟨k, hk, rfl, hord, hbel⟩ := hrel
   by_cases hlt : k < os.length
   ·
    have I := Kx H.out hbel
    obtain ⟨b, off, cap', hv, hbl, hc⟩ := Vq I (by omega)
    simp only [Ik] at hv
    obtain ⟨rfl, _, rfl⟩ := hv
    have hcell := hc k hlt
    have hcp := ints_cap I (by omega)
    have HT := zh (ints_take I hk (by omega))
    have HTL : Hid ((os.take k).length ≤ 1048576) := zh (by rw [List.length_take]; omega)
    have i1 : (0 : Int) ≤ (k : Int) := by omega
    have i2 : (k : Int) < (os.length : Int) := by omega
    have i3 : (k : Int) ≤ (cap : Int) := by omega
    have i4 : k ≤ cap := by omega
    have HNO := zh (fun h => orderB_no (os := os) hlt h)
    have HST : Hid ((0 ≤ os.getD k 0 ∧ os.getD k 0 ≤ 2) ∧ os.getD k 0 ∉ os.take k → OrdTo os (k + 1)) := zh (fun h i hi => by
     by_cases e : i = k
     ·
      rw [e]; exact h
     ·
      exact hord.out i (by omega))
    clear hc I hord
    generalize os.getD k 0 = y at *
    generalize os.take k = ts at *
    by_cases hin : 0 ≤ y ∧ y ≤ 2
    ·
     obtain ⟨g0, g1⟩ := hin
     by_cases hm : y ∈ ts
     ·
      have HF := zh (HNO.out (fun q => q.2 hm))
      have HM := zh hm
      clear hm HNO HST
      go_wp2
      go_quiet ((first | (go_at_call 55; exact Calls.quiet_of_same (Xe _ _ _ _ (by omega) (by omega))) | (go_at_call 187; exact Calls.quiet_of_same (has_yes _ ts _ _ HT.out HTL.out HM.out))))
      go_wp2
      go_ret
      exact ⟨Jy HF.out.symm, Yq hbel rfl rfl rfl rfl⟩
     ·
      have HS := zh (HST.out ⟨⟨g0, g1⟩, hm⟩)
      have HM := zh hm
      clear hm HNO HST
      go_wp2
      go_quiet ((first | (go_at_call 55; exact Calls.quiet_of_same (Xe _ _ _ _ (by omega) (by omega))) | (go_at_call 187; exact Calls.quiet_of_same (has_no _ ts _ _ HT.out HTL.out HM.out))))
      go_wp2
      go_roundw
      case rel => exact ⟨k + 1, by omega, by go_num, HS, Yq hbel rfl rfl rfl rfl⟩
      case measure => simp [intOf]; omega
    ·
     have HF := zh (HNO.out (fun q => hin q.1))
     have HI := zh hin
     clear hin HNO HST
     go_wp2
     go_quiet ((go_at_call 55; exact Calls.quiet_of_same (in_no _ _ _ _ HI.out)))
     go_wp2
     go_ret
     exact ⟨Jy HF.out.symm, Yq hbel rfl rfl rfl rfl⟩
   ·
    obtain rfl : k = os.length := by omega
    have HY := zh (orderB_yes HL.out hord.out)
    clear hord
    go_wp2
    go_ret
    exact ⟨Jy HY.out.symm, hbel⟩
 ·
  have hne : ((os.length : Int) != 3) = true := by rw [bne_iff_ne]; omega
  have HF := zh (orderB_len hl)
  clear hl
  go_enter Tryz.func122, Tryz.ntmps122
  go_wp2
  go_ret
  exact ⟨Jy HF.out.symm, Il _ _⟩
end Go.Proofs.YtnepfacnmaoieaaGreatDoor
