/-
 Texts of the proof, merged: EngSpec1, EngSpec2, VerSpec1, VerSpec2, VerSpec4, IdxSpec1.
-/
import Derived.Test.YtnepfacnmaoieaaGreatDoorPK1
import Derived.Test.YtnepfacnmaoieaaGreatDoorPK2
import Derived.Test.YtnepfacnmaoieaaGreatDoorPK3
import Derived.Test.YtnepfacnmaoieaaGreatDoorPK4
import Derived.Test.YtnepfacnmaoieaaGreatDoorPK5
namespace Go.Proofs.YtnepfacnmaoieaaGreatDoor
open Go.RowKit
set_option maxRecDepth 100000
set_option linter.unusedVariables false
set_option linter.unusedSimpArgs false
set_option maxHeartbeats 8000000 in
theorem specL9List (v : Value) (l : List RowD) (w : World) (h : SlR tRow w v l) (hs : zL tRow l ≤ 1048576) :
  Calls Tryz.prog 124 #[v] w (fun e w' => e = .returned (.bool (listB l)) ∧ Below w.heap.size w w') := by
 have hlen := zL_len hs
 have HS := zh hs
 have H := zh h
 obtain ⟨a, cap, rfl⟩ := slR_len h
 clear h hs
 go_enter Tryz.func124, Tryz.ntmps124
 go_wp2
 go_loopw [3] (fun i wr => ∃ k : Nat, k ≤ l.length ∧ i = .int .i64 k ∧ Hid (AllTo rowB (0, []) l k) ∧ Below w.heap.size w wr) (fun i _ => l.length - (intOf i).toNat)
 case atStart => exact ⟨0, Nat.zero_le _, rfl, zh (allTo_zero _ _ _), Below.refl _ _⟩
 case round =>
  obtain ⟨k, hk, rfl, hno, c⟩ := hrel
  by_cases hlt : k < l.length
  ·
   have i1 : (0 : Int) ≤ (k : Int) := by omega
   have i2 : (k : Int) < (l.length : Int) := by omega
   have hz := zL_at HS.out hlt
   obtain ⟨b, off, cap', cs, hv, hbl, hcs, hR⟩ := slR_at (slR_below tRow_law H.out c) hlt
   simp only [Value.slice.injEq] at hv
   obtain ⟨rfl, _, rfl⟩ := hv
   change tRow.R wr cs (l.getD k (0, [])) at hR
   change tRow.sz (l.getD k (0, [])) ≤ 1048576 at hz
   have HST : Hid (rowB (l.getD k (0, [])) = true → AllTo rowB (0, []) l (k + 1)) := zh (fun g => allTo_step hno.out g)
   have HNO : Hid (rowB (l.getD k (0, [])) = false → listB l = false) := zh (fun g => by unfold listB; rw [allB_no (0, []) hlt g]; simp)
   have cw := zh c
   clear hno c hbl
   generalize l.getD k (0, []) = r at *
   obtain ⟨id, xs⟩ := r
   obtain ⟨v1, rfl, h1⟩ := tRow_R hR
   rw [tRow_sz] at hz
   obtain ⟨xa, xc, rfl⟩ := slR_len h1
   have e0 : wr.cell? ⟨b, off + k * 2, none⟩ = some (Value.int .i64 id) := hcs 0 (by decide)
   have e1 : wr.cell? ⟨b, off + k * 2 + 1, none⟩ = some (Value.slice xa xs.length xc) := hcs 1 (by decide)
   have HX := zh (slR_ints h1)
   have HXL := zh (zL_len hz)
   clear hcs hR h1 hz
   cases hr : rowB (id, xs) with
   | true =>
    have HT := zh (HST.out hr)
    have HR := zh hr
    clear hr HST HNO
    go_wp2_with fail
    refine (specIsRow id (.slice xa xs.length xc) xs wr HX.out HXL.out).mono ?_
    rintro e w2 ⟨rfl, c2⟩
    rw [HR.out]
    have cw2 := zh (cw.out.trans (c2.mono cw.out.size))
    clear c2 e0 e1
    go_wp2
    go_roundw
    case rel => exact ⟨k + 1, by omega, by go_num, HT, cw2.out⟩
    case measure => simp [intOf]; omega
   | false =>
    have HF := zh (HNO.out hr)
    have HR := zh hr
    clear hr HST HNO
    go_wp2_with fail
    refine (specIsRow id (.slice xa xs.length xc) xs wr HX.out HXL.out).mono ?_
    rintro e w2 ⟨rfl, c2⟩
    rw [HR.out]
    have cw2 := zh (cw.out.trans (c2.mono cw.out.size))
    clear c2 e0 e1
    go_wp2
    go_ret
    exact ⟨ret_b HF.out.symm, cw2.out⟩
  ·
   obtain rfl : k = l.length := by omega
   have HA := zh (allB_yes (p := rowB) (0, []) hno.out)
   have cw := zh c
   clear hno c
   by_cases h9 : l.length ≤ 1000
   ·
    have HT : Hid (listB l = true) := zh (by unfold listB; rw [HA.out, decide_eq_true h9]; rfl)
    have h8 : (l.length : Int) ≤ 1000 := by omega
    clear h9
    go_wp2
    go_ret
    exact ⟨ret_b HT.out.symm, cw.out⟩
   ·
    have HT : Hid (listB l = false) := zh (by unfold listB; rw [decide_eq_false h9]; rfl)
    have h8 : ¬ (l.length : Int) ≤ 1000 := by omega
    clear h9
    go_wp2
    go_ret
    exact ⟨ret_b (by simpa using HT.out), cw.out⟩
set_option maxHeartbeats 8000000 in
theorem specL9Todo (v : Value) (l : List Int) (n : Nat) (w : World) (h : Ints w v l) (hn : l.length ≤ 1048576) (hn2 : n ≤ 1048576) :
  Calls Tryz.prog 188 #[v, .int .i64 n] w (fun e w' => e = .returned (.bool (todoB l n)) ∧ Below w.heap.size w w') := by
 have H := zh h
 obtain ⟨a, cap, rfl⟩ := slR_len (ints_slR h)
 clear h
 go_enter Tryz.func188, Tryz.ntmps188
 go_wp2
 go_loopw [5] (fun i wr => ∃ k : Nat, k ≤ l.length ∧ i = .int .i64 k ∧ Hid (TodoTo l n k) ∧ Below w.heap.size w wr) (fun i _ => l.length - (intOf i).toNat)
 case atStart => exact ⟨0, Nat.zero_le _, rfl, zh (todoTo_zero _ _), Below.refl _ _⟩
 case round =>
  obtain ⟨k, hk, rfl, hno, c⟩ := hrel
  have cw := zh c
  by_cases hlt : k < l.length
  ·
   obtain ⟨b, off, cap', hv, hbl, hc⟩ := ints_cell H.out (by omega)
   simp only [Value.slice.injEq] at hv
   obtain ⟨rfl, _, rfl⟩ := hv
   have hcell := (c.cell (p := ⟨b, off + k, none⟩) hbl).trans (hc k hlt)
   have i1 : (0 : Int) ≤ (k : Int) := by omega
   have i2 : (k : Int) < (l.length : Int) := by omega
   by_cases hin : 0 ≤ l.getD k 0 ∧ l.getD k 0 ≤ (n : Int) - 1
   ·
    by_cases hz : k = 0
    ·
     have HS : Hid (TodoTo l n (k + 1)) := zh (todoTo_step hno.out hin.1 (by omega) (fun g => by omega))
     have HI := zh (fun W => in_yes (l.getD k 0) 0 ((n : Int) - 1) W hin.1 hin.2)
     have hd0 : decide (0 < k) = false := by simp [hz]
     have hd2 : decide ((0 : Int) < (k : Int)) = false := by simp [hz]
     clear hc hz hin
     generalize l.getD k 0 = y at *
     go_wp2
     go_quiet ((go_at_call 55; exact Calls.quiet_of_same (HI.out _)))
     go_wp2
     go_roundw
     case rel => exact ⟨k + 1, by omega, by go_num, HS, below_same cw.out rfl rfl rfl rfl⟩
     case measure => simp [intOf]; omega
    ·
     have hcellp := (c.cell (p := ⟨b, off + (k - 1), none⟩) hbl).trans (hc (k - 1) (by omega))
     have HI := zh (fun W => in_yes (l.getD k 0) 0 ((n : Int) - 1) W hin.1 hin.2)
     have hd0 : 0 < k := by omega
     have i3 : (0 : Int) ≤ (k : Int) - 1 := by omega
     have i4 : (k : Int) - 1 < (l.length : Int) := by omega
     have i5 : ((k : Int) - 1).toNat = k - 1 := by omega
     have e1 : IntKind.i64.wrap ((k : Int) - 1) = (k : Int) - 1 := IntWalk.i64_in _ (by omega)
     by_cases hle : l.getD k 0 ≤ l.getD (k - 1) 0
     ·
      have HNO : Hid (todoB l n = false) := zh (decide_eq_false (fun g => todo_no hlt (fun q => by have := q.2 hd0; omega) g.2))
      clear hc hz hin
      generalize l.getD (k - 1) 0 = z at *
      generalize l.getD k 0 = y at *
      have hdl : decide (y ≤ z) = true := decide_eq_true hle
      go_wp2
      go_quiet ((go_at_call 55; exact Calls.quiet_of_same (HI.out _)))
      go_wp2
      go_ret
      exact ⟨ret_b HNO.out.symm, below_same cw.out rfl rfl rfl rfl⟩
     ·
      have HS : Hid (TodoTo l n (k + 1)) := zh (todoTo_step hno.out hin.1 (by omega) (fun _ => by omega))
      clear hc hz hin
      generalize l.getD (k - 1) 0 = z at *
      generalize l.getD k 0 = y at *
      have hdl : decide (y ≤ z) = false := decide_eq_false hle
      go_wp2
      go_quiet ((go_at_call 55; exact Calls.quiet_of_same (HI.out _)))
      go_wp2
      go_roundw
      case rel => exact ⟨k + 1, by omega, by go_num, HS, below_same cw.out rfl rfl rfl rfl⟩
      case measure => simp [intOf]; omega
   ·
    have HNO : Hid (todoB l n = false) := zh (decide_eq_false (fun g => todo_no hlt (fun q => hin ⟨q.1.1, by omega⟩) g.2))
    have HI := zh (fun W => in_no (l.getD k 0) 0 ((n : Int) - 1) W hin)
    clear hc hin
    generalize l.getD k 0 = y at *
    go_wp2
    go_quiet ((go_at_call 55; exact Calls.quiet_of_same (HI.out _)))
    go_wp2
    go_ret
    exact ⟨ret_b HNO.out.symm, below_same cw.out rfl rfl rfl rfl⟩
  ·
   obtain rfl : k = l.length := by omega
   have HA := zh hno.out
   clear hno c
   by_cases h9 : 1 ≤ l.length
   ·
    have HT : Hid (todoB l n = true) := zh (decide_eq_true ⟨h9, HA.out⟩)
    have h8 : (0 : Int) < (l.length : Int) := by omega
    clear h9
    go_wp2
    go_ret
    exact ⟨ret_b (by rw [HT.out]; exact decide_eq_true (by omega)), cw.out⟩
   ·
    have HT : Hid (todoB l n = false) := zh (decide_eq_false (fun g => h9 g.1))
    have h8 : ¬ (0 : Int) < (l.length : Int) := by omega
    clear h9
    go_wp2
    go_ret
    exact ⟨ret_b (by rw [HT.out]; exact decide_eq_false (by omega)), cw.out⟩
theorem in_any (a l h : Int) (w : World) : Calls Tryz.prog 55 #[.int .i64 a, .int .i64 l, .int .i64 h] w fun e w' => e = .returned (.bool (decide (l ≤ a ∧ a ≤ h))) ∧ w' = w := by
 by_cases g : l ≤ a ∧ a ≤ h
 ·
  rw [decide_eq_true g]; exact in_yes a l h w g.1 g.2
 ·
  rw [decide_eq_false g]; exact in_no a l h w g
set_option maxHeartbeats 8000000 in
theorem specIsCharge (sg ba : Int) (iv tv rv : Value) (is ts rs : List Int) (w : World) (h2 : SlR tInt w iv is) (h3 : SlR tInt w tv ts) (h4 : SlR tInt w rv rs) (n2 : is.length ≤ 1048576) (n3 : ts.length ≤ 1048576) (n4 : rs.length ≤ 1048576) :
  Calls Tryz.prog 125 #[.agg #[.int .i64 sg, .int .i64 ba, iv, tv, rv]] w (fun e w' => e = .returned (.bool (chargeB (sg, ba, is, ts, rs))) ∧ Below w.heap.size w w') := by
 obtain ⟨ia, ic, rfl⟩ := slR_len h2
 obtain ⟨ta, tc, rfl⟩ := slR_len h3
 obtain ⟨ra, rc, rfl⟩ := slR_len h4
 have H2 := zh h2; have H3 := zh h3; have H4 := zh h4
 clear h2 h3 h4
 have d := zh (show Below w.heap.size w (w.alloc (.cells #[.int .i64 sg, .int .i64 ba, .slice ia is.length ic, .slice ta ts.length tc, .slice ra rs.length rc] 162)) from ((Below.refl _ w).alloc (Nat.le_refl _) _))
 have B0 : Hid ((w.alloc (.cells #[.int .i64 sg, .int .i64 ba, .slice ia is.length ic, .slice ta ts.length tc, .slice ra rs.length rc] 162)).heap[w.heap.size]? = some (.cells #[.int .i64 sg, .int .i64 ba, .slice ia is.length ic, .slice ta ts.length tc, .slice ra rs.length rc] 162 (0, 0))) := zh (by
  exact heap_alloc_new w _)
 have YW : Hid (w.heap.size + 1 ≤ (w.alloc (.cells #[.int .i64 sg, .int .i64 ba, .slice ia is.length ic, .slice ta ts.length tc, .slice ra rs.length rc] 162)).heap.size) := zh (by simp [World.size_alloc])
 go_enter Tryz.func125, Tryz.ntmps125
 go_wp2_with fail
 generalize (w.alloc (.cells #[.int .i64 sg, .int .i64 ba, .slice ia is.length ic, .slice ta ts.length tc, .slice ra rs.length rc] 162)) = W at *
 refine (specIsSet (.slice ia is.length ic) is W (slR_ints (slR_below tInt_law H2.out d.out)) n2).mono ?_
 rintro e W1 ⟨rfl, c⟩
 replace B0 := zb c B0
 replace d := zD d c
 have Z_W1 := zh (show W.heap.size ≤ W1.heap.size from c.size)
 clear c
 rcases Bool.eq_false_or_eq_true (setB is) with hset | hset
 rotate_left
 ·
  rw [hset]
  have HF := zh (charge_no1 (x := (sg, ba, is, ts, rs)) hset)
  clear hset
  have cp_B0_0 := cls5 B0.out
  go_wp2
  clear cp_B0_0
  go_ret
  exact ⟨ret_b HF.out.symm, d.out⟩
 rw [hset]
 have HSET := zh hset
 clear hset
 by_cases hp1 : is.length ≠ 0
 rotate_left
 ·
  have HF := zh (charge_no2 (x := (sg, ba, is, ts, rs)) (fun g => by have := g.1.1; simp only at this; omega))
  have f1 : ((is.length : Int) == 0) = true := by simpa using hp1
  clear hp1
  have cp_B0_0 := cls5 B0.out
  go_wp2
  clear cp_B0_0
  go_ret
  exact ⟨ret_b HF.out.symm, d.out⟩
 have f1 : ((is.length : Int) == 0) = false := by simpa using hp1
 have HP1 := zh hp1
 clear hp1
 by_cases hp2 : ¬ 8 < is.length
 rotate_left
 ·
  have HF := zh (charge_no2 (x := (sg, ba, is, ts, rs)) (fun g => by have := g.1.2; simp only at this; omega))
  have f2 : decide ((8 : Int) < (is.length : Int)) = true := decide_eq_true (by omega)
  clear hp2
  have cp_B0_0 := cls5 B0.out
  go_wp2
  clear cp_B0_0
  go_ret
  exact ⟨ret_b HF.out.symm, d.out⟩
 have f2 : decide ((8 : Int) < (is.length : Int)) = false := decide_eq_false (by omega)
 have HP2 := zh hp2
 clear hp2
 by_cases hp3 : ts.length = is.length
 rotate_left
 ·
  have HF := zh (charge_no2 (x := (sg, ba, is, ts, rs)) (fun g => hp3 g.2.1.1))
  have f3 : ((ts.length : Int) != (is.length : Int)) = true := by rw [bne_iff_ne]; omega
  clear hp3
  have cp_B0_0 := cls5 B0.out
  go_wp2
  clear cp_B0_0
  go_ret
  exact ⟨ret_b HF.out.symm, d.out⟩
 have f3 : ((ts.length : Int) != (is.length : Int)) = false := by rw [bne_eq_false_iff_eq]; omega
 have HP3 := zh hp3
 clear hp3
 by_cases hp4 : rs.length = is.length
 rotate_left
 ·
  have HF := zh (charge_no2 (x := (sg, ba, is, ts, rs)) (fun g => hp4 g.2.1.2))
  have f4 : ((rs.length : Int) != (is.length : Int)) = true := by rw [bne_iff_ne]; omega
  clear hp4
  have cp_B0_0 := cls5 B0.out
  go_wp2
  clear cp_B0_0
  go_ret
  exact ⟨ret_b HF.out.symm, d.out⟩
 have f4 : ((rs.length : Int) != (is.length : Int)) = false := by rw [bne_eq_false_iff_eq]; omega
 have HP4 := zh hp4
 clear hp4
 have cp_B0_0 := cls5 B0.out
 go_wp2_with fail
 clear cp_B0_0 f1 f2 f3 f4
 refine (in_any sg 0 7 _).mono ?_
 rintro e wx ⟨rfl, hwx⟩
 obtain rfl := hwx.symm
 rcases Bool.eq_false_or_eq_true (decide (0 ≤ sg ∧ sg ≤ 7)) with hp5 | hp5
 rotate_left
 ·
  rw [hp5]
  have HF := zh (charge_no2 (x := (sg, ba, is, ts, rs)) (fun g => of_decide_eq_false hp5 g.2.2.1))
  clear hp5
  have cp_B0_0 := cls5 B0.out
  go_wp2
  clear cp_B0_0
  go_ret
  exact ⟨ret_b HF.out.symm, d.out⟩
 rw [hp5]
 have HP5 := zh hp5
 clear hp5
 have cp_B0_0 := cls5 B0.out
 go_wp2_with fail
 clear cp_B0_0
 refine (in_any ba 0 4 _).mono ?_
 rintro e wx ⟨rfl, hwx⟩
 obtain rfl := hwx.symm
 rcases Bool.eq_false_or_eq_true (decide (0 ≤ ba ∧ ba ≤ 4)) with hp6 | hp6
 rotate_left
 ·
  rw [hp6]
  have HF := zh (charge_no2 (x := (sg, ba, is, ts, rs)) (fun g => of_decide_eq_false hp6 g.2.2.2))
  clear hp6
  have cp_B0_0 := cls5 B0.out
  go_wp2
  clear cp_B0_0
  go_ret
  exact ⟨ret_b HF.out.symm, d.out⟩
 rw [hp6]
 have HP6 := zh hp6
 clear hp6
 have HH : Hid (chargeHP (sg, ba, is, ts, rs)) := zh ⟨⟨by have := HP1.out; show 1 ≤ is.length; omega, by have := HP2.out; show is.length ≤ 8; omega⟩, ⟨HP3.out, HP4.out⟩, of_decide_eq_true HP5.out, of_decide_eq_true HP6.out⟩
 have cp_B0_0 := cls5 B0.out
 go_wp2
 clear cp_B0_0
 go_loopw [4] (fun i wr => ∃ k : Nat, k ≤ is.length ∧ i = .int .i64 k ∧ Hid (AllTo tenB 0 ts k ∧ AllTo (getB ba) 0 rs k) ∧ Below W1.heap.size W1 wr) (fun i _ => is.length - (intOf i).toNat)
 case atStart => exact ⟨0, Nat.zero_le _, rfl, zh (⟨allTo_zero _ _ _, allTo_zero _ _ _⟩), Below.refl _ _⟩
 case round =>
  obtain ⟨k, hk, rfl, hno, c⟩ := hrel
  have cw := zh c
  replace B0 := zb c B0
  replace d := zD d c
  clear c
  by_cases hlt : k < is.length
  ·
   have i1 : (0 : Int) ≤ (k : Int) := by omega
   have i2 : (k : Int) < (is.length : Int) := by omega
   have hlt3 : k < ts.length := by have := HP3.out; omega
   have hlt4 : k < rs.length := by have := HP4.out; omega
   have i3 : (k : Int) < (ts.length : Int) := by omega
   have i4 : (k : Int) < (rs.length : Int) := by omega
   obtain ⟨b, off, cap', hv, hbl, hc⟩ := ints_cell (slR_ints H3.out) (by omega)
   simp only [Value.slice.injEq] at hv
   obtain ⟨rfl, _, rfl⟩ := hv
   have hcell := hc k hlt3
   obtain ⟨b2, off2, cap2, hv, hbl2, hc2⟩ := ints_cell (slR_ints H4.out) (by omega)
   simp only [Value.slice.injEq] at hv
   obtain ⟨rfl, _, rfl⟩ := hv
   have hcell2 := hc2 k hlt4
   have N3 : Hid (tenB (ts.getD k 0) = false → chargeB (sg, ba, is, ts, rs) = false) := zh (fun g => charge_no3 (x := (sg, ba, is, ts, rs)) (allB_no 0 hlt3 g))
   have N4 : Hid (getB ba (rs.getD k 0) = false → chargeB (sg, ba, is, ts, rs) = false) := zh (fun g => charge_no4 (x := (sg, ba, is, ts, rs)) (allB_no 0 hlt4 g))
   have Y3 : Hid (tenB (ts.getD k 0) = true → AllTo tenB 0 ts (k + 1)) := zh (fun g => allTo_step hno.out.1 g)
   have Y4 : Hid (getB ba (rs.getD k 0) = true → AllTo (getB ba) 0 rs (k + 1)) := zh (fun g => allTo_step hno.out.2 g)
   have BL := zh hbl; have BL2 := zh hbl2
   clear hc hc2 hno hbl hbl2 hlt3 hlt4
   generalize ts.getD k 0 = y at *
   generalize rs.getD k 0 = z at *
   have T0 := zh hcell; have R0 := zh hcell2
   clear hcell hcell2
   by_cases ht : 0 ≤ y ∧ y ≤ 3
   ·
    have HI := zh (fun W => in_yes y 0 3 W ht.1 ht.2)
    have HY3 := zh (Y3.out (decide_eq_true ht))
    clear ht
    by_cases hz : 0 ≤ z ∧ z ≤ ba
    ·
     have HI2 := zh (fun W => in_yes z 0 ba W hz.1 hz.2)
     have HY4 := zh (Y4.out (decide_eq_true hz))
     clear hz N3 N4 Y3 Y4
     go_wp2
     obtain ⟨p_B0_0, p_B0_1, p_B0_2, p_B0_3, p_B0_4⟩ := cls5 B0.out
     have p_T0 := cx d T0 BL
     have p_R0 := cx d R0 BL2
     refine wp_region_held_drew (S := fun w' => w'.cell? ⟨w.heap.size, 0, none⟩ = some (Value.int .i64 sg) ∧ w'.cell? ⟨w.heap.size, 1, none⟩ = some (Value.int .i64 ba) ∧ w'.cell? ⟨w.heap.size, 2, none⟩ = some (Value.slice ia is.length ic) ∧ w'.cell? ⟨w.heap.size, 3, none⟩ = some (Value.slice (some ⟨b, off, none⟩) ts.length tc) ∧ w'.cell? ⟨w.heap.size, 4, none⟩ = some (Value.slice (some ⟨b2, off2, none⟩) rs.length rc) ∧ w'.cell? ⟨b, off + k, none⟩ = some (Value.int .i64 y) ∧ w'.cell? ⟨b2, off2 + k, none⟩ = some (Value.int .i64 z)) (by kernel_rfl) ⟨p_B0_0, p_B0_1, p_B0_2, p_B0_3, p_B0_4, p_T0, p_R0⟩ (fun hHeld => ?_)
     clear p_B0_0 p_B0_1 p_B0_2 p_B0_3 p_B0_4 p_T0 p_R0
     have cdr : Below wr.heap.size wr wr.drew := below_drew (Below.refl _ _)
     replace B0 := zb cdr B0
     replace d := zD d cdr
     clear cdr
     refine tQ (i := 0) ?_
     try simp only [Act.put, lA, lB, lC]
     refine tQ (i := 1) ?_
     try simp only [Act.put, lA, lB, lC]
     refine tQ (i := 2) ?_
     try simp only [Act.put, lA, lB, lC]
     refine tQ (i := 3) ?_
     try simp only [Act.put, lA, lB, lC]
     refine tQ (i := 4) ?_
     try simp only [Act.put, lA, lB, lC]
     refine rA 5 (fun K hK => ?_)
     go_simp
     refine (HI.out _).mono ?_
     rintro e wx ⟨rfl, hwx⟩
     obtain rfl := hwx.symm
     obtain ⟨p_B0_0, p_B0_1, p_B0_2, p_B0_3, p_B0_4⟩ := cls5 B0.out
     have p_T0 := cx d T0 BL
     have p_R0 := cx d R0 BL2
     refine hK.out _ _ ⟨p_B0_0, p_B0_1, p_B0_2, p_B0_3, p_B0_4, p_T0, p_R0⟩ (fun hHeld => ?_)
     clear p_B0_0 p_B0_1 p_B0_2 p_B0_3 p_B0_4 p_T0 p_R0
     clear hK K
     try simp only [Act.put, lA, lB, lC]
     refine tQ (i := 6) ?_
     try simp only [Act.put, lA, lB, lC]
     refine tQ (i := 7) ?_
     try simp only [Act.put, lA, lB, lC]
     refine tQ (i := 8) ?_
     try simp only [Act.put, lA, lB, lC]
     refine tQ (i := 9) ?_
     try simp only [Act.put, lA, lB, lC]
     refine tQ (i := 10) ?_
     try simp only [Act.put, lA, lB, lC]
     refine tQ (i := 11) ?_
     try simp only [Act.put, lA, lB, lC]
     refine tQ (i := 12) ?_
     try simp only [Act.put, lA, lB, lC]
     refine tQ (i := 13) ?_
     try simp only [Act.put, lA, lB, lC]
     refine tQ (i := 14) ?_
     try simp only [Act.put, lA, lB, lC]
     refine rA 15 (fun K hK => ?_)
     go_simp
     refine (HI2.out _).mono ?_
     rintro e wx ⟨rfl, hwx⟩
     obtain rfl := hwx.symm
     obtain ⟨p_B0_0, p_B0_1, p_B0_2, p_B0_3, p_B0_4⟩ := cls5 B0.out
     have p_T0 := cx d T0 BL
     have p_R0 := cx d R0 BL2
     refine hK.out _ _ ⟨p_B0_0, p_B0_1, p_B0_2, p_B0_3, p_B0_4, p_T0, p_R0⟩ (fun hHeld => ?_)
     clear p_B0_0 p_B0_1 p_B0_2 p_B0_3 p_B0_4 p_T0 p_R0
     clear hK K
     try simp only [Act.put, lA, lB, lC]
     refine tQ (i := 16) ?_
     try simp only [Act.put, lA, lB, lC]
     refine tQ (i := 17) ?_
     try simp only [Act.put, lA, lB, lC]
     refine wpAnyH_done (by kernel_rfl) ?_ _
     clear hHeld
     go_wp2
     go_roundw
     case rel => exact ⟨k + 1, by omega, by go_num, zh ⟨HY3.out, HY4.out⟩, below_same cw.out rfl rfl rfl rfl⟩
     case measure => simp [intOf]; omega
    ·
     have HI2 := zh (fun W => in_no z 0 ba W hz)
     have HF := zh (N4.out (decide_eq_false hz))
     clear hz N3 N4 Y3 Y4
     go_wp2
     obtain ⟨p_B0_0, p_B0_1, p_B0_2, p_B0_3, p_B0_4⟩ := cls5 B0.out
     have p_T0 := cx d T0 BL
     have p_R0 := cx d R0 BL2
     refine wp_region_held_drew (S := fun w' => w'.cell? ⟨w.heap.size, 0, none⟩ = some (Value.int .i64 sg) ∧ w'.cell? ⟨w.heap.size, 1, none⟩ = some (Value.int .i64 ba) ∧ w'.cell? ⟨w.heap.size, 2, none⟩ = some (Value.slice ia is.length ic) ∧ w'.cell? ⟨w.heap.size, 3, none⟩ = some (Value.slice (some ⟨b, off, none⟩) ts.length tc) ∧ w'.cell? ⟨w.heap.size, 4, none⟩ = some (Value.slice (some ⟨b2, off2, none⟩) rs.length rc) ∧ w'.cell? ⟨b, off + k, none⟩ = some (Value.int .i64 y) ∧ w'.cell? ⟨b2, off2 + k, none⟩ = some (Value.int .i64 z)) (by kernel_rfl) ⟨p_B0_0, p_B0_1, p_B0_2, p_B0_3, p_B0_4, p_T0, p_R0⟩ (fun hHeld => ?_)
     clear p_B0_0 p_B0_1 p_B0_2 p_B0_3 p_B0_4 p_T0 p_R0
     have cdr : Below wr.heap.size wr wr.drew := below_drew (Below.refl _ _)
     replace B0 := zb cdr B0
     replace d := zD d cdr
     clear cdr
     refine tQ (i := 0) ?_
     try simp only [Act.put, lA, lB, lC]
     refine tQ (i := 1) ?_
     try simp only [Act.put, lA, lB, lC]
     refine tQ (i := 2) ?_
     try simp only [Act.put, lA, lB, lC]
     refine tQ (i := 3) ?_
     try simp only [Act.put, lA, lB, lC]
     refine tQ (i := 4) ?_
     try simp only [Act.put, lA, lB, lC]
     refine rA 5 (fun K hK => ?_)
     go_simp
     refine (HI.out _).mono ?_
     rintro e wx ⟨rfl, hwx⟩
     obtain rfl := hwx.symm
     obtain ⟨p_B0_0, p_B0_1, p_B0_2, p_B0_3, p_B0_4⟩ := cls5 B0.out
     have p_T0 := cx d T0 BL
     have p_R0 := cx d R0 BL2
     refine hK.out _ _ ⟨p_B0_0, p_B0_1, p_B0_2, p_B0_3, p_B0_4, p_T0, p_R0⟩ (fun hHeld => ?_)
     clear p_B0_0 p_B0_1 p_B0_2 p_B0_3 p_B0_4 p_T0 p_R0
     clear hK K
     try simp only [Act.put, lA, lB, lC]
     refine tQ (i := 6) ?_
     try simp only [Act.put, lA, lB, lC]
     refine tQ (i := 7) ?_
     try simp only [Act.put, lA, lB, lC]
     refine tQ (i := 8) ?_
     try simp only [Act.put, lA, lB, lC]
     refine tQ (i := 9) ?_
     try simp only [Act.put, lA, lB, lC]
     refine tQ (i := 10) ?_
     try simp only [Act.put, lA, lB, lC]
     refine tQ (i := 11) ?_
     try simp only [Act.put, lA, lB, lC]
     refine tQ (i := 12) ?_
     try simp only [Act.put, lA, lB, lC]
     refine tQ (i := 13) ?_
     try simp only [Act.put, lA, lB, lC]
     refine tQ (i := 14) ?_
     try simp only [Act.put, lA, lB, lC]
     refine rA 15 (fun K hK => ?_)
     go_simp
     refine (HI2.out _).mono ?_
     rintro e wx ⟨rfl, hwx⟩
     obtain rfl := hwx.symm
     obtain ⟨p_B0_0, p_B0_1, p_B0_2, p_B0_3, p_B0_4⟩ := cls5 B0.out
     have p_T0 := cx d T0 BL
     have p_R0 := cx d R0 BL2
     refine hK.out _ _ ⟨p_B0_0, p_B0_1, p_B0_2, p_B0_3, p_B0_4, p_T0, p_R0⟩ (fun hHeld => ?_)
     clear p_B0_0 p_B0_1 p_B0_2 p_B0_3 p_B0_4 p_T0 p_R0
     clear hK K
     try simp only [Act.put, lA, lB, lC]
     refine tQ (i := 16) ?_
     try simp only [Act.put, lA, lB, lC]
     refine tQ (i := 17) ?_
     try simp only [Act.put, lA, lB, lC]
     refine wpAnyH_done (by kernel_rfl) ?_ _
     clear hHeld
     go_wp2
     go_ret
     exact ⟨ret_b HF.out.symm, d.out⟩
   ·
    have HI := zh (fun W => in_no y 0 3 W ht)
    have HF := zh (N3.out (decide_eq_false ht))
    clear ht N3 N4 Y3 Y4
    go_wp2
    obtain ⟨p_B0_0, p_B0_1, p_B0_2, p_B0_3, p_B0_4⟩ := cls5 B0.out
    have p_T0 := cx d T0 BL
    have p_R0 := cx d R0 BL2
    refine wp_region_held_drew (S := fun w' => w'.cell? ⟨w.heap.size, 0, none⟩ = some (Value.int .i64 sg) ∧ w'.cell? ⟨w.heap.size, 1, none⟩ = some (Value.int .i64 ba) ∧ w'.cell? ⟨w.heap.size, 2, none⟩ = some (Value.slice ia is.length ic) ∧ w'.cell? ⟨w.heap.size, 3, none⟩ = some (Value.slice (some ⟨b, off, none⟩) ts.length tc) ∧ w'.cell? ⟨w.heap.size, 4, none⟩ = some (Value.slice (some ⟨b2, off2, none⟩) rs.length rc) ∧ w'.cell? ⟨b, off + k, none⟩ = some (Value.int .i64 y) ∧ w'.cell? ⟨b2, off2 + k, none⟩ = some (Value.int .i64 z)) (by kernel_rfl) ⟨p_B0_0, p_B0_1, p_B0_2, p_B0_3, p_B0_4, p_T0, p_R0⟩ (fun hHeld => ?_)
    clear p_B0_0 p_B0_1 p_B0_2 p_B0_3 p_B0_4 p_T0 p_R0
    have cdr : Below wr.heap.size wr wr.drew := below_drew (Below.refl _ _)
    replace B0 := zb cdr B0
    replace d := zD d cdr
    clear cdr
    refine tQ (i := 0) ?_
    try simp only [Act.put, lA, lB, lC]
    refine tQ (i := 1) ?_
    try simp only [Act.put, lA, lB, lC]
    refine tQ (i := 2) ?_
    try simp only [Act.put, lA, lB, lC]
    refine tQ (i := 3) ?_
    try simp only [Act.put, lA, lB, lC]
    refine tQ (i := 4) ?_
    try simp only [Act.put, lA, lB, lC]
    refine rA 5 (fun K hK => ?_)
    go_simp
    refine (HI.out _).mono ?_
    rintro e wx ⟨rfl, hwx⟩
    obtain rfl := hwx.symm
    obtain ⟨p_B0_0, p_B0_1, p_B0_2, p_B0_3, p_B0_4⟩ := cls5 B0.out
    have p_T0 := cx d T0 BL
    have p_R0 := cx d R0 BL2
    refine hK.out _ _ ⟨p_B0_0, p_B0_1, p_B0_2, p_B0_3, p_B0_4, p_T0, p_R0⟩ (fun hHeld => ?_)
    clear p_B0_0 p_B0_1 p_B0_2 p_B0_3 p_B0_4 p_T0 p_R0
    clear hK K
    try simp only [Act.put, lA, lB, lC]
    refine tQ (i := 6) ?_
    try simp only [Act.put, lA, lB, lC]
    refine tQ (i := 7) ?_
    try simp only [Act.put, lA, lB, lC]
    refine tO (i := 8) ?_
    try simp only [Act.put, lA, lB, lC]
    refine tO (i := 9) ?_
    try simp only [Act.put, lA, lB, lC]
    refine tO (i := 10) ?_
    try simp only [Act.put, lA, lB, lC]
    refine tO (i := 11) ?_
    try simp only [Act.put, lA, lB, lC]
    refine tO (i := 12) ?_
    try simp only [Act.put, lA, lB, lC]
    refine tO (i := 13) ?_
    try simp only [Act.put, lA, lB, lC]
    refine tO (i := 14) ?_
    try simp only [Act.put, lA, lB, lC]
    refine tO (i := 15) ?_
    try simp only [Act.put, lA, lB, lC]
    refine tO (i := 16) ?_
    try simp only [Act.put, lA, lB, lC]
    refine tQ (i := 17) ?_
    try simp only [Act.put, lA, lB, lC]
    refine wpAnyH_done (by kernel_rfl) ?_ _
    clear hHeld
    go_wp2
    go_ret
    exact ⟨ret_b HF.out.symm, d.out⟩
  ·
   obtain rfl : k = is.length := by omega
   have HT : Hid (chargeB (sg, ba, is, ts, rs) = true) := zh (charge_yes HSET.out HH.out (allB_yes 0 (by have := hno.out.1; have e := HP3.out; simp only; rw [e]; exact this)) (allB_yes 0 (by have := hno.out.2; have e := HP4.out; simp only; rw [e]; exact this)))
   clear hno
   have cp_B0_0 := cls5 B0.out
   go_wp2
   clear cp_B0_0
   go_ret
   exact ⟨ret_b HT.out.symm, d.out⟩
set_option maxHeartbeats 8000000 in
theorem specL9Active (now cu st a0 a1 a4 a6 a7 a8 : Int) (sa : Option Addr) (sc : Nat) (ov av dv lv v2 v3 v5 v9 : Value) (ss : List (List VerD)) (x2 : List CondD) (x3 x5 : List Int) (x9 : List RowD) (w : World)
  (h2 : SlR tCond w v2 x2) (h3 : SlR tInt w v3 x3) (h5 : SlR tInt w v5 x5) (h9 : SlR tRow w v9 x9) (n0 : ss.length ≤ 1048576) (s2 : zL tCond x2 ≤ 1048576) (s3 : zL tInt x3 ≤ 1048576) (s5 : zL tInt x5 ≤ 1048576) (s9 : zL tRow x9 ≤ 1048576) :
  Calls Tryz.prog 123 #[.agg #[.slice sa ss.length sc, .int .i64 now, .int .i64 cu, ov, av, dv, lv, .int .i64 st], .agg #[.int .i64 a0, .int .i64 a1, v2, v3, .int .i64 a4, v5, .int .i64 a6, .int .i64 a7, .int .i64 a8, v9]] w (fun e w' => e = .returned (.bool (actB (ss, now) ((a0, a1, x2, x3), a4, x5, a6, a7, a8, x9))) ∧ Below w.heap.size w w') := by
 obtain ⟨p2, c2, rfl⟩ := slR_len h2
 have H2 := zh h2; have N2 := zh (zL_len s2); have S2 := zh s2
 obtain ⟨p3, c3, rfl⟩ := slR_len h3
 have H3 := zh h3; have N3 := zh (zL_len s3); have S3 := zh s3
 obtain ⟨p5, c5, rfl⟩ := slR_len h5
 have H5 := zh h5; have N5 := zh (zL_len s5); have S5 := zh s5
 obtain ⟨p9, c9, rfl⟩ := slR_len h9
 have H9 := zh h9; have N9 := zh (zL_len s9); have S9 := zh s9
 clear h2 h3 h5 h9 s2 s3 s5 s9
 have d := zh (show Below w.heap.size w ((w.alloc (.cells #[.slice sa ss.length sc, .int .i64 now, .int .i64 cu, ov, av, dv, lv, .int .i64 st] 40)).alloc (.cells #[.int .i64 a0, .int .i64 a1, .slice p2 x2.length c2, .slice p3 x3.length c3, .int .i64 a4, .slice p5 x5.length c5, .int .i64 a6, .int .i64 a7, .int .i64 a8, .slice p9 x9.length c9] 104)) from (((Below.refl _ w).alloc (Nat.le_refl _) _).alloc (by simp) _))
 have B0 : Hid (((w.alloc (.cells #[.slice sa ss.length sc, .int .i64 now, .int .i64 cu, ov, av, dv, lv, .int .i64 st] 40)).alloc (.cells #[.int .i64 a0, .int .i64 a1, .slice p2 x2.length c2, .slice p3 x3.length c3, .int .i64 a4, .slice p5 x5.length c5, .int .i64 a6, .int .i64 a7, .int .i64 a8, .slice p9 x9.length c9] 104)).heap[w.heap.size]? = some (.cells #[.slice sa ss.length sc, .int .i64 now, .int .i64 cu, ov, av, dv, lv, .int .i64 st] 40 (0, 0))) := zh (by
  rw [Below.heap_alloc _ _ _ (by simp)]
  exact heap_alloc_new w _)
 have B1 : Hid (((w.alloc (.cells #[.slice sa ss.length sc, .int .i64 now, .int .i64 cu, ov, av, dv, lv, .int .i64 st] 40)).alloc (.cells #[.int .i64 a0, .int .i64 a1, .slice p2 x2.length c2, .slice p3 x3.length c3, .int .i64 a4, .slice p5 x5.length c5, .int .i64 a6, .int .i64 a7, .int .i64 a8, .slice p9 x9.length c9] 104)).heap[(w.heap.size + 1)]? = some (.cells #[.int .i64 a0, .int .i64 a1, .slice p2 x2.length c2, .slice p3 x3.length c3, .int .i64 a4, .slice p5 x5.length c5, .int .i64 a6, .int .i64 a7, .int .i64 a8, .slice p9 x9.length c9] 104 (0, 0))) := zh (by
  have := heap_alloc_new (w.alloc (.cells #[.slice sa ss.length sc, .int .i64 now, .int .i64 cu, ov, av, dv, lv, .int .i64 st] 40)) (.cells #[.int .i64 a0, .int .i64 a1, .slice p2 x2.length c2, .slice p3 x3.length c3, .int .i64 a4, .slice p5 x5.length c5, .int .i64 a6, .int .i64 a7, .int .i64 a8, .slice p9 x9.length c9] 104)
  simpa only [World.size_alloc] using this)
 have YW : Hid (w.heap.size + 2 ≤ ((w.alloc (.cells #[.slice sa ss.length sc, .int .i64 now, .int .i64 cu, ov, av, dv, lv, .int .i64 st] 40)).alloc (.cells #[.int .i64 a0, .int .i64 a1, .slice p2 x2.length c2, .slice p3 x3.length c3, .int .i64 a4, .slice p5 x5.length c5, .int .i64 a6, .int .i64 a7, .int .i64 a8, .slice p9 x9.length c9] 104)).heap.size) := zh (by simp [World.size_alloc])
 go_enter Tryz.func123, Tryz.ntmps123
 go_wp2_with fail
 generalize ((w.alloc (.cells #[.slice sa ss.length sc, .int .i64 now, .int .i64 cu, ov, av, dv, lv, .int .i64 st] 40)).alloc (.cells #[.int .i64 a0, .int .i64 a1, .slice p2 x2.length c2, .slice p3 x3.length c3, .int .i64 a4, .slice p5 x5.length c5, .int .i64 a6, .int .i64 a7, .int .i64 a8, .slice p9 x9.length c9] 104)) = W at *
 refine (specIsQuery a0 a1 (.slice p2 x2.length c2) (.slice p3 x3.length c3) x2 x3 W (slR_conds (slR_below tCond_law H2.out d.out)) N2.out (slR_ints (slR_below tInt_law H3.out d.out)) N3.out).mono ?_
 rintro e W1 ⟨rfl, c⟩
 replace B0 := zb c B0
 replace B1 := zb c B1
 replace d := zD d c
 have Z_W1 := zh (show W.heap.size ≤ W1.heap.size from c.size)
 clear c
 rcases Bool.eq_false_or_eq_true (queryB a0 a1 x2 x3) with hq | hq
 rotate_left
 ·
  rw [hq]
  have HF := zh (act_no1 (s := (ss, now)) (a := ((a0, a1, x2, x3), a4, x5, a6, a7, a8, x9)) hq)
  clear hq
  have cp_B0_0 := cls8 B0.out
  have cp_B1_0 := cls10 B1.out
  go_wp2
  clear cp_B0_0 cp_B1_0
  go_ret
  exact ⟨ret_b HF.out.symm, d.out⟩
 rw [hq]
 have HQ := zh hq
 clear hq
 have cp_B0_0 := cls8 B0.out
 have cp_B1_0 := cls10 B1.out
 go_wp2_with fail
 clear cp_B0_0 cp_B1_0
 refine (in_any a4 0 now _).mono ?_
 rintro e wx ⟨rfl, hwx⟩
 obtain rfl := hwx.symm
 rcases Bool.eq_false_or_eq_true (decide (0 ≤ a4 ∧ a4 ≤ now)) with tt1 | tt1
 rotate_left
 ·
  rw [tt1]
  have HF := zh (act_no2 (s := (ss, now)) (a := ((a0, a1, x2, x3), a4, x5, a6, a7, a8, x9)) (fun g => of_decide_eq_false tt1 g.1))
  clear tt1
  have cp_B0_0 := cls8 B0.out
  have cp_B1_0 := cls10 B1.out
  go_wp2
  clear cp_B0_0 cp_B1_0
  go_ret
  exact ⟨ret_b HF.out.symm, d.out⟩
 rw [tt1]
 have TT1 := zh tt1
 clear tt1
 have cp_B0_0 := cls8 B0.out
 have cp_B1_0 := cls10 B1.out
 go_wp2_with fail
 clear cp_B0_0 cp_B1_0
 refine (specL9Todo (.slice p5 x5.length c5) x5 ss.length W1 (slR_ints (slR_below tInt_law H5.out d.out)) N5.out n0).mono ?_
 rintro e W2 ⟨rfl, c⟩
 replace B0 := zb c B0
 replace B1 := zb c B1
 replace d := zD d c
 have Z_W2 := zh (show W1.heap.size ≤ W2.heap.size from c.size)
 clear c
 rcases Bool.eq_false_or_eq_true (todoB x5 ss.length) with htd | htd
 rotate_left
 ·
  rw [htd]
  have HF := zh (act_no3 (s := (ss, now)) (a := ((a0, a1, x2, x3), a4, x5, a6, a7, a8, x9)) htd)
  clear htd
  have cp_B0_0 := cls8 B0.out
  have cp_B1_0 := cls10 B1.out
  go_wp2
  clear cp_B0_0 cp_B1_0
  go_ret
  exact ⟨ret_b HF.out.symm, d.out⟩
 rw [htd]
 have HTD := zh htd
 clear htd
 have cp_B0_0 := cls8 B0.out
 have cp_B1_0 := cls10 B1.out
 go_wp2_with fail
 clear cp_B0_0 cp_B1_0
 refine (in_any a6 0 100000 _).mono ?_
 rintro e wx ⟨rfl, hwx⟩
 obtain rfl := hwx.symm
 rcases Bool.eq_false_or_eq_true (decide (0 ≤ a6 ∧ a6 ≤ 100000)) with tt2 | tt2
 rotate_left
 ·
  rw [tt2]
  have HF := zh (act_no2 (s := (ss, now)) (a := ((a0, a1, x2, x3), a4, x5, a6, a7, a8, x9)) (fun g => of_decide_eq_false tt2 g.2.1))
  clear tt2
  have cp_B0_0 := cls8 B0.out
  have cp_B1_0 := cls10 B1.out
  go_wp2
  clear cp_B0_0 cp_B1_0
  go_ret
  exact ⟨ret_b HF.out.symm, d.out⟩
 rw [tt2]
 have TT2 := zh tt2
 clear tt2
 have cp_B0_0 := cls8 B0.out
 have cp_B1_0 := cls10 B1.out
 go_wp2_with fail
 clear cp_B0_0 cp_B1_0
 refine (in_any a7 0 1000 _).mono ?_
 rintro e wx ⟨rfl, hwx⟩
 obtain rfl := hwx.symm
 rcases Bool.eq_false_or_eq_true (decide (0 ≤ a7 ∧ a7 ≤ 1000)) with tt3 | tt3
 rotate_left
 ·
  rw [tt3]
  have HF := zh (act_no2 (s := (ss, now)) (a := ((a0, a1, x2, x3), a4, x5, a6, a7, a8, x9)) (fun g => of_decide_eq_false tt3 g.2.2.1))
  clear tt3
  have cp_B0_0 := cls8 B0.out
  have cp_B1_0 := cls10 B1.out
  go_wp2
  clear cp_B0_0 cp_B1_0
  go_ret
  exact ⟨ret_b HF.out.symm, d.out⟩
 rw [tt3]
 have TT3 := zh tt3
 clear tt3
 have cp_B0_0 := cls8 B0.out
 have cp_B1_0 := cls10 B1.out
 go_wp2_with fail
 clear cp_B0_0 cp_B1_0
 refine (in_any a8 0 32 _).mono ?_
 rintro e wx ⟨rfl, hwx⟩
 obtain rfl := hwx.symm
 rcases Bool.eq_false_or_eq_true (decide (0 ≤ a8 ∧ a8 ≤ 32)) with tt4 | tt4
 rotate_left
 ·
  rw [tt4]
  have HF := zh (act_no2 (s := (ss, now)) (a := ((a0, a1, x2, x3), a4, x5, a6, a7, a8, x9)) (fun g => of_decide_eq_false tt4 g.2.2.2))
  clear tt4
  have cp_B0_0 := cls8 B0.out
  have cp_B1_0 := cls10 B1.out
  go_wp2
  clear cp_B0_0 cp_B1_0
  go_ret
  exact ⟨ret_b HF.out.symm, d.out⟩
 rw [tt4]
 have TT4 := zh tt4
 clear tt4
 have cp_B0_0 := cls8 B0.out
 have cp_B1_0 := cls10 B1.out
 go_wp2_with fail
 clear cp_B0_0 cp_B1_0
 refine (specL9List (.slice p9 x9.length c9) x9 W2 (slR_below tRow_law H9.out d.out) S9.out).mono ?_
 rintro e W3 ⟨rfl, c⟩
 replace B0 := zb c B0
 replace B1 := zb c B1
 replace d := zD d c
 have Z_W3 := zh (show W2.heap.size ≤ W3.heap.size from c.size)
 clear c
 have HT : Hid (listB x9 = actB (ss, now) ((a0, a1, x2, x3), a4, x5, a6, a7, a8, x9)) := zh (by
  rcases Bool.eq_false_or_eq_true (listB x9) with g | g
  ·
   rw [g]; exact (act_yes (s := (ss, now)) (a := ((a0, a1, x2, x3), a4, x5, a6, a7, a8, x9)) HQ.out ⟨of_decide_eq_true TT1.out, of_decide_eq_true TT2.out, of_decide_eq_true TT3.out, of_decide_eq_true TT4.out⟩ HTD.out g).symm
  ·
   rw [g]; exact (act_no4 (s := (ss, now)) (a := ((a0, a1, x2, x3), a4, x5, a6, a7, a8, x9)) g).symm)
 go_wp2
 go_ret
 exact ⟨ret_b HT.out, d.out⟩
set_option maxHeartbeats 8000000 in
theorem specVersion (id born died now : Int) (vv : Value) (xs : List Int) (w : World) (h : Ints w vv xs) (hn : xs.length ≤ 1048576) (hw : now ≤ 100000) :
  Calls Tryz.prog 185 #[.agg #[.int .i64 id, vv, .int .i64 born, .int .i64 died], .int .i64 now] w fun e w' => e = .returned (.bool (verB (id, xs, born, died) now)) ∧ Below w.heap.size w w' := by
 have HR := zh (fun W g => specIsRow id vv xs W g hn)
 have H := zh h
 clear hn
 obtain ⟨va, vc, rfl⟩ := ints_len h
 have d0 := zh (show Below w.heap.size w (w.alloc (.cells #[.int .i64 id, .slice va xs.length vc, .int .i64 born, .int .i64 died] 212)) from (Below.refl _ _).alloc (Nat.le_refl _) _)
 have B0 : Hid ((w.alloc (.cells #[.int .i64 id, .slice va xs.length vc, .int .i64 born, .int .i64 died] 212)).heap[w.heap.size]? = some (.cells #[.int .i64 id, .slice va xs.length vc, .int .i64 born, .int .i64 died] 212 (0, 0))) := zh (heap_alloc_new w _)
 have Y0 : Hid (w.heap.size < (w.alloc (.cells #[.int .i64 id, .slice va xs.length vc, .int .i64 born, .int .i64 died] 212)).heap.size) := zh (by simp [World.size_alloc])
 have HV : Hid (∀ r l, rowB (id, xs) = r → decide (lifeP born died now) = l → verB (id, xs, born, died) now = (r && l)) := zh (fun r l h1 h2 => by unfold verB; rw [h1]; show (r && decide (lifeP born died now)) = _; rw [h2])
 clear h
 cases hr : rowB (id, xs) with
 | false =>
  rw [hr] at HR
  rw [HV.out _ _ hr rfl, Bool.false_and]
  clear hr HV
  go_enter Tryz.func185, Tryz.ntmps185
  go_wp2_with fail
  generalize w.alloc (.cells #[.int .i64 id, .slice va xs.length vc, .int .i64 born, .int .i64 died] 212) = W at *
  refine (HR.out W (ints_below H.out d0.out)).mono ?_
  rintro e w1 ⟨rfl, b1⟩
  have k0 := (b1.block w.heap.size Y0.out).trans B0.out
  have b2 := d0.out.trans (b1.mono d0.out.size)
  go_wp2
  go_ret
  exact ⟨rfl, b2⟩
 | true =>
  rw [hr] at HR
  have HV2 := zh (fun l => HV.out _ l hr)
  clear hr HV
  by_cases h1 : 0 ≤ born ∧ born ≤ now
  ·
   obtain ⟨h1a, h1b⟩ := h1
   by_cases h2 : died = -1
   ·
    have hl : decide (lifeP born died now) = true := decide_eq_true ⟨h1a, h1b, Or.inl h2⟩
    rw [HV2.out _ hl]
    have e2 : (died == -1) = true := by simp [h2]
    clear hl h2
    go_enter Tryz.func185, Tryz.ntmps185
    go_wp2_with fail
    generalize w.alloc (.cells #[.int .i64 id, .slice va xs.length vc, .int .i64 born, .int .i64 died] 212) = W at *
    refine (HR.out W (ints_below H.out d0.out)).mono ?_
    rintro e w1 ⟨rfl, b1⟩
    have k0 := (b1.block w.heap.size Y0.out).trans B0.out
    have b2 := d0.out.trans (b1.mono d0.out.size)
    have p0 := cr 0 (Value.int .i64 id) k0
    have p1 := cr 1 (Value.slice va xs.length vc) k0
    have p2 := cr 2 (Value.int .i64 born) k0
    have p3 := cr 3 (Value.int .i64 died) k0
    clear k0
    go_wp2_with fail
    refine (in_yes born 0 now _ h1a h1b).mono ?_
    rintro e wx ⟨rfl, rfl⟩
    go_wp2
    go_ret
    exact ⟨rfl, b2⟩
   ·
    have e2 : (died == -1) = false := by simp [h2]
    by_cases h3 : born + 1 ≤ died ∧ died ≤ now
    ·
     have hl : decide (lifeP born died now) = true := decide_eq_true ⟨h1a, h1b, Or.inr ⟨by omega, h3.2⟩⟩
     rw [HV2.out _ hl]
     have H3 := zh h3
     clear hl h2 h3
     go_enter Tryz.func185, Tryz.ntmps185
     go_wp2_with fail
     generalize w.alloc (.cells #[.int .i64 id, .slice va xs.length vc, .int .i64 born, .int .i64 died] 212) = W at *
     refine (HR.out W (ints_below H.out d0.out)).mono ?_
     rintro e w1 ⟨rfl, b1⟩
     have k0 := (b1.block w.heap.size Y0.out).trans B0.out
     have b2 := d0.out.trans (b1.mono d0.out.size)
     have p0 := cr 0 (Value.int .i64 id) k0
     have p1 := cr 1 (Value.slice va xs.length vc) k0
     have p2 := cr 2 (Value.int .i64 born) k0
     have p3 := cr 3 (Value.int .i64 died) k0
     clear k0
     go_wp2_with fail
     refine (in_yes born 0 now _ h1a h1b).mono ?_
     rintro e wx ⟨rfl, rfl⟩
     go_wp2_with fail
     refine (in_yes died (born + 1) now _ H3.out.1 H3.out.2).mono ?_
     rintro e wx ⟨rfl, rfl⟩
     go_wp2
     go_ret
     exact ⟨rfl, b2⟩
    ·
     have hl : decide (lifeP born died now) = false := decide_eq_false (fun g => by unfold lifeP at g; omega)
     rw [HV2.out _ hl]
     have H3 := zh h3
     clear hl h2 h3
     go_enter Tryz.func185, Tryz.ntmps185
     go_wp2_with fail
     generalize w.alloc (.cells #[.int .i64 id, .slice va xs.length vc, .int .i64 born, .int .i64 died] 212) = W at *
     refine (HR.out W (ints_below H.out d0.out)).mono ?_
     rintro e w1 ⟨rfl, b1⟩
     have k0 := (b1.block w.heap.size Y0.out).trans B0.out
     have b2 := d0.out.trans (b1.mono d0.out.size)
     have p0 := cr 0 (Value.int .i64 id) k0
     have p1 := cr 1 (Value.slice va xs.length vc) k0
     have p2 := cr 2 (Value.int .i64 born) k0
     have p3 := cr 3 (Value.int .i64 died) k0
     clear k0
     go_wp2_with fail
     refine (in_yes born 0 now _ h1a h1b).mono ?_
     rintro e wx ⟨rfl, rfl⟩
     go_wp2_with fail
     refine (in_no died (born + 1) now _ H3.out).mono ?_
     rintro e wx ⟨rfl, rfl⟩
     go_wp2
     go_ret
     exact ⟨rfl, b2⟩
  ·
   have hl : decide (lifeP born died now) = false := decide_eq_false (fun g => h1 ⟨g.1, g.2.1⟩)
   rw [HV2.out _ hl]
   have H1 := zh h1
   clear hl h1
   go_enter Tryz.func185, Tryz.ntmps185
   go_wp2_with fail
   generalize w.alloc (.cells #[.int .i64 id, .slice va xs.length vc, .int .i64 born, .int .i64 died] 212) = W at *
   refine (HR.out W (ints_below H.out d0.out)).mono ?_
   rintro e w1 ⟨rfl, b1⟩
   have k0 := (b1.block w.heap.size Y0.out).trans B0.out
   have b2 := d0.out.trans (b1.mono d0.out.size)
   have p0 := cr 0 (Value.int .i64 id) k0
   have p1 := cr 1 (Value.slice va xs.length vc) k0
   have p2 := cr 2 (Value.int .i64 born) k0
   have p3 := cr 3 (Value.int .i64 died) k0
   clear k0
   go_wp2_with fail
   refine (in_no born 0 now _ H1.out).mono ?_
   rintro e wx ⟨rfl, rfl⟩
   go_wp2
   go_ret
   exact ⟨rfl, b2⟩
set_option maxHeartbeats 8000000 in
theorem specApart (i1 b1 d1 i2 b2 d2 : Int) (v1 v2 : Value) (w : World) :
  Calls Tryz.prog 186 #[.agg #[.int .i64 i1, v1, .int .i64 b1, .int .i64 d1], .agg #[.int .i64 i2, v2, .int .i64 b2, .int .i64 d2]] w fun e w' => e = .returned (.bool (decide (apartP i1 b1 d1 i2 b2 d2))) ∧ Below w.heap.size w w' := by
 have hb : Below w.heap.size w ((w.alloc (.cells #[.int .i64 i1, v1, .int .i64 b1, .int .i64 d1] 212)).alloc (.cells #[.int .i64 i2, v2, .int .i64 b2, .int .i64 d2] 212)) := ((Below.refl _ w).alloc (Nat.le_refl _) _).alloc (by simp) _
 by_cases q1 : i1 = i2
 ·
  have e1 : (i1 != i2) = false := by simp [q1]
  have Q1 := zh q1
  clear q1
  by_cases q2 : d1 = -1
  ·
   have e2 : (d1 != -1) = false := by simp [q2]
   have Q2 := zh q2
   clear q2
   by_cases q4 : d2 = -1
   ·
    have e4 : (d2 != -1) = false := by simp [q4]
    have HD : Hid (decide (apartP i1 b1 d1 i2 b2 d2) = false) := zh (by have h1 := Q1.out; have h2 := Q2.out; exact decide_eq_false (fun g => by unfold apartP at g; omega))
    rw [HD.out]
    clear q4
    go_enter Tryz.func186, Tryz.ntmps186
    go_wp2
    go_ret
    exact ⟨ret_b (by first | rfl | simp [*]), hb⟩
   ·
    have e4 : (d2 != -1) = true := by simp [q4]
    by_cases q5 : d2 ≤ b1
    ·
     have q6 : d2 ≤ b1 := q5
     have HD : Hid (decide (apartP i1 b1 d1 i2 b2 d2) = true) := zh (decide_eq_true (Or.inr (Or.inr ⟨q4, q5⟩)))
     rw [HD.out]
     clear q4
     go_enter Tryz.func186, Tryz.ntmps186
     go_wp2
     go_ret
     exact ⟨ret_b (by first | rfl | simp [*]), hb⟩
    ·
     have e5 : decide (d2 ≤ b1) = false := decide_eq_false q5
     have HD : Hid (decide (apartP i1 b1 d1 i2 b2 d2) = false) := zh (by have h1 := Q1.out; have h2 := Q2.out; exact decide_eq_false (fun g => by unfold apartP at g; omega))
     rw [HD.out]
     clear q4
     go_enter Tryz.func186, Tryz.ntmps186
     go_wp2
     go_ret
     exact ⟨ret_b (by first | rfl | simp [*]), hb⟩
  ·
   have e2 : (d1 != -1) = true := by simp [q2]
   have Q2 := zh q2
   clear q2
   by_cases q3 : d1 ≤ b2
   ·
    have q6 : d1 ≤ b2 := q3
    have HD : Hid (decide (apartP i1 b1 d1 i2 b2 d2) = true) := zh (decide_eq_true (Or.inr (Or.inl ⟨Q2.out, q3⟩)))
    rw [HD.out]
    go_enter Tryz.func186, Tryz.ntmps186
    go_wp2
    go_ret
    exact ⟨ret_b (by first | rfl | simp [*]), hb⟩
   ·
    have e3 : decide (d1 ≤ b2) = false := decide_eq_false q3
    have Q3 := zh q3
    by_cases q4 : d2 = -1
    ·
     have e4 : (d2 != -1) = false := by simp [q4]
     have HD : Hid (decide (apartP i1 b1 d1 i2 b2 d2) = false) := zh (by have h1 := Q1.out; have h2 := Q2.out; have h3 := Q3.out; exact decide_eq_false (fun g => by unfold apartP at g; omega))
     rw [HD.out]
     clear q4
     go_enter Tryz.func186, Tryz.ntmps186
     go_wp2
     go_ret
     exact ⟨ret_b (by first | rfl | simp [*]), hb⟩
    ·
     have e4 : (d2 != -1) = true := by simp [q4]
     by_cases q5 : d2 ≤ b1
     ·
      have q6 : d2 ≤ b1 := q5
      have HD : Hid (decide (apartP i1 b1 d1 i2 b2 d2) = true) := zh (decide_eq_true (Or.inr (Or.inr ⟨q4, q5⟩)))
      rw [HD.out]
      clear q4
      go_enter Tryz.func186, Tryz.ntmps186
      go_wp2
      go_ret
      exact ⟨ret_b (by first | rfl | simp [*]), hb⟩
     ·
      have e5 : decide (d2 ≤ b1) = false := decide_eq_false q5
      have HD : Hid (decide (apartP i1 b1 d1 i2 b2 d2) = false) := zh (by have h1 := Q1.out; have h2 := Q2.out; have h3 := Q3.out; exact decide_eq_false (fun g => by unfold apartP at g; omega))
      rw [HD.out]
      clear q4
      go_enter Tryz.func186, Tryz.ntmps186
      go_wp2
      go_ret
      exact ⟨ret_b (by first | rfl | simp [*]), hb⟩
 ·
  have e1 : (i1 != i2) = true := by simp [q1]
  have HD : Hid (decide (apartP i1 b1 d1 i2 b2 d2) = true) := zh (decide_eq_true (Or.inl q1))
  rw [HD.out]
  clear q1
  go_enter Tryz.func186, Tryz.ntmps186
  go_wp2
  go_ret
  exact ⟨ret_b (by first | rfl | simp [*]), hb⟩
/-- The answer: a slice of the call's own whose cells read as these versions. -/
def AllV (w : World) (l : List VerD) (e : Ending) (w' : World) : Prop := ∃ (v : Value) (L : List (List Value)), e = .returned v ∧ SlO 212 (tRaw 4) w' (since w) v L ∧ Sh tVersion w L l ∧ Below w.heap.size w w'
set_option maxHeartbeats 8000000 in
theorem specL7All (sv : Value) (ss : List (List VerD)) (now : Int) (w : World) (h : SlR tVersionS w sv ss) (hs : zL tVersionS ss ≤ 1048576) :
  Calls Tryz.prog 184 #[.agg #[sv, .int .i64 now]] w (AllV w ss.flatten) := by
 have H := zh h
 have HS := zh hs
 have hlen := zL_len hs
 have HF : Hid (ss.flatten.length ≤ 1048576) := zh (by have h1 := zL_all ss; have h2 := zL_len (T := tVersion) (xs := ss.flatten) (M := 1048576) (by omega); omega)
 obtain ⟨a, cap, rfl⟩ := slR_len h
 clear h hs
 have d0 := zh (show Below w.heap.size w ((w.alloc (.cells #[.slice a ss.length cap, .int .i64 now] 35)).alloc (.cells #[] 212)) from ((Below.refl _ _).alloc (Nat.le_refl _) _).alloc (by simp) _)
 have B0 : Hid (((w.alloc (.cells #[.slice a ss.length cap, .int .i64 now] 35)).alloc (.cells #[] 212)).heap[w.heap.size]? = some (.cells #[.slice a ss.length cap, .int .i64 now] 35 (0, 0))) := zh (by rw [Below.heap_alloc _ _ _ (by simp)]; exact heap_alloc_new w _)
 have Y0 : Hid (w.heap.size < ((w.alloc (.cells #[.slice a ss.length cap, .int .i64 now] 35)).alloc (.cells #[] 212)).heap.size) := zh (by simp [World.size_alloc]; omega)
 have P0 : Hid (SlO 212 (tRaw 4) ((w.alloc (.cells #[.slice a ss.length cap, .int .i64 now] 35)).alloc (.cells #[] 212)) (fun b => w.heap.size < b) (.slice (some ⟨w.heap.size + 1, 0, none⟩) 0 0) []) := zh (by have := slO_empty (T := tRaw 4) (w.alloc (.cells #[.slice a ss.length cap, .int .i64 now] 35)) 212 (fun b => w.heap.size < b) (by simp [World.size_alloc]); simpa only [World.size_alloc] using this)
 go_enter Tryz.func184, Tryz.ntmps184
 go_wp2
 go_loopw [3, 4] (fun o i wr => ∃ (k : Nat) (L : List (List Value)), k ≤ ss.length ∧ i = .int .i64 k ∧ SlO 212 (tRaw 4) wr (fun b => w.heap.size < b) o L ∧ Hid (Sh tVersion w L (cat ss k)) ∧ wr.heap[w.heap.size]? = some (.cells #[.slice a ss.length cap, .int .i64 now] 35 (0, 0)) ∧ Below w.heap.size w wr ∧ w.heap.size < wr.heap.size) (fun _ i _ => ss.length - (intOf i).toNat)
 case atStart => exact ⟨0, [], Nat.zero_le _, rfl, P0.out, zh (by rw [cat_zero]; exact sh_nil w), B0.out, d0.out, Y0.out⟩
 case round =>
  obtain ⟨k, L, hk, rfl, hown, hsh, hbox, hbel, hy⟩ := hrel
  clear d0 B0 Y0 P0
  obtain ⟨oa, oc, rfl⟩ := slO_len hown
  have c0 := cr 0 (Value.slice a ss.length cap) hbox
  by_cases hlt : k < ss.length
  ·
   obtain ⟨b, off, cap2, cs, hv, hbl, hcs, hR⟩ := slR_at H.out hlt
   simp only [Value.slice.injEq] at hv
   obtain ⟨rfl, _, rfl⟩ := hv
   obtain ⟨u, rfl, hU⟩ := hR
   have p0 : w.cell? ⟨b, off + k, none⟩ = some u := by have := hcs 0 Nat.one_pos; rw [show tVersionS.n = 1 from rfl, Nat.mul_one, Nat.add_zero] at this; exact this
   have hel := (hbel.cell (p := ⟨b, off + k, none⟩) hbl).trans p0
   obtain ⟨M, hM, hSh⟩ := slR_raw tVersion_law one_Version hU
   have HM := zh (slR_below (tRaw_law (by decide)) hM hbel)
   have HC : Hid (Sh tVersion w (L ++ M) (cat ss (k + 1))) := zh (by rw [← cat_step hlt]; exact sh_app hsh.out hSh)
   have HL : Hid (L.length + M.length ≤ 2097152) := zh (by have h1 := sh_len HC.out; have h2 := cat_le ss (k + 1); have h3 := HF.out; rw [List.length_append] at h1; omega)
   have i1 : (0 : Int) ≤ (k : Int) := by omega
   have i2 : (k : Int) < (ss.length : Int) := by omega
   obtain ⟨ua, uc, hu⟩ := slR_len hU
   have HOWN := zh hown
   have HB := zh hbox
   have HY := zh hy
   have HD := zh hbel
   have HUV : Hid (∃ m, u = .slice ua m uc) := zh ⟨_, hu⟩
   clear hcs p0 hU hM hSh hsh hown hbox hu hbel hy
   obtain ⟨m, rfl⟩ := HUV.out
   clear HUV
   go_wp2_with (at_builtin; refine append_flat (tRaw_law (by decide)) (flat_raw 4) info_R_Version Tryz.underlying213 rfl rfl (.tmp 13) (.tmp 18) rfl (fun b => w.heap.size < b) (fun b => w.heap.size < b) _ _ L M rfl rfl HOWN.out HM.out (fun b h => h) HY.out HL.out ?_)
   intro v' w4 ho4 t4
   have hb4 := (t4.block w.heap.size HY.out (fun h => Nat.lt_irrefl _ h)).trans HB.out
   have hy4 := Nat.lt_of_lt_of_le HY.out t4.size
   have hd4 := below_turn HD.out t4 (fun b h => Nat.le_of_lt h) (Nat.le_of_lt HY.out)
   clear HOWN HM HL HB HY HD t4 c0 hel
   go_wp2
   go_roundw
   case rel => exact ⟨k + 1, _, by omega, by go_num, ho4, HC, hb4, hd4, hy4⟩
   case measure => simp [intOf]; omega
  ·
   obtain rfl : k = ss.length := by omega
   have HC : Hid (Sh tVersion w L ss.flatten) := zh (by rw [← cat_all]; exact hsh.out)
   clear hsh
   go_wp2
   go_ret
   exact ⟨_, L, rfl, slO_mono hown (fun b h => Nat.le_of_lt h), HC.out, hbel⟩
set_option maxHeartbeats 8000000 in
theorem specIsStore (sv : Value) (ss : List (List VerD)) (now : Int) (w : World) (h : SlR tVersionS w sv ss) (hs : zL tVersionS ss ≤ 1048576) :
  Calls Tryz.prog 121 #[.agg #[sv, .int .i64 now]] w (fun e w' => e = .returned (.bool (storeB ss now)) ∧ Below w.heap.size w w') := by
 have hlen := zL_len hs
 obtain ⟨a, cap, rfl⟩ := slR_len h
 have HC := zh (fun W g => specL7All (.slice a ss.length cap) ss now W g hs)
 have HZF : Hid (zL tVersion ss.flatten ≤ 1048576) := zh (by have := zL_all ss; omega)
 have H := zh h
 have HS := zh hs
 have d0 := zh (show Below w.heap.size w (w.alloc (.cells #[.slice a ss.length cap, .int .i64 now] 35)) from (Below.refl _ _).alloc (Nat.le_refl _) _)
 have B0 : Hid ((w.alloc (.cells #[.slice a ss.length cap, .int .i64 now] 35)).heap[w.heap.size]? = some (.cells #[.slice a ss.length cap, .int .i64 now] 35 (0, 0))) := zh (heap_alloc_new w _)
 have Y0 : Hid (w.heap.size < (w.alloc (.cells #[.slice a ss.length cap, .int .i64 now] 35)).heap.size) := zh (by simp [World.size_alloc])
 clear h hs
 by_cases hc : 1 ≤ ss.length ∧ ss.length ≤ 8
 rotate_left
 ·
  have HF := zh (store_no_count (now := now) hc)
  have HI := zh (fun W => in_no (ss.length : Int) 1 8 W (by omega))
  clear hc
  rw [HF.out]
  go_enter Tryz.func121, Tryz.ntmps121
  go_wp2_with fail
  refine (HI.out _).mono ?_
  rintro e wx ⟨rfl, rfl⟩
  go_wp2
  go_ret
  exact ⟨rfl, d0.out⟩
 have HI1 := zh (fun W => in_yes (ss.length : Int) 1 8 W (by omega) (by omega))
 have HCN := zh hc
 by_cases hn : 0 ≤ now ∧ now ≤ 100000
 rotate_left
 ·
  have HF := zh (store_no_now (ss := ss) hn)
  have HI := zh (fun W => in_no now 0 100000 W hn)
  clear hn
  rw [HF.out]
  go_enter Tryz.func121, Tryz.ntmps121
  go_wp2_with fail
  refine (HI1.out _).mono ?_
  rintro e wx ⟨rfl, rfl⟩
  go_wp2_with fail
  refine (HI.out _).mono ?_
  rintro e wx ⟨rfl, rfl⟩
  go_wp2
  go_ret
  exact ⟨rfl, d0.out⟩
 have HI2 := zh (fun W => in_yes now 0 100000 W hn.1 hn.2)
 have HNN := zh hn
 clear hc hn
 go_enter Tryz.func121, Tryz.ntmps121
 go_wp2_with fail
 refine (HI1.out _).mono ?_
 rintro e wx ⟨rfl, rfl⟩
 go_wp2_with fail
 refine (HI2.out _).mono ?_
 rintro e wx ⟨rfl, rfl⟩
 go_wp2
 generalize w.alloc (.cells #[.slice a ss.length cap, .int .i64 now] 35) = W at *
 have q0 := cr 0 (Value.slice a ss.length cap) B0.out
 have q1 := cr 1 (Value.int .i64 now) B0.out
 have G0 := zh q0
 have G1 := zh q1
 have HW := zh (slR_below tVersionS_law H.out d0.out)
 clear q0 q1 B0
 go_loopw [3] (fun i wr => ∃ k : Nat, k ≤ ss.length ∧ i = .int .i64 k ∧ Hid (ShortP ss k) ∧ Below W.heap.size W wr) (fun i _ => ss.length - (intOf i).toNat)
 case atStart => exact ⟨0, Nat.zero_le _, rfl, zh (fun j hj => by omega), Below.refl _ _⟩
 case round =>
  obtain ⟨k, hk, rfl, hsh, hbel⟩ := hrel
  have p0 := (hbel.cell (p := ⟨w.heap.size, 0, none⟩) Y0.out).trans G0.out
  have p1 := (hbel.cell (p := ⟨w.heap.size, 1, none⟩) Y0.out).trans G1.out
  by_cases hlt : k < ss.length
  ·
   have i1 : (0 : Int) ≤ (k : Int) := by omega
   have i2 : (k : Int) < (ss.length : Int) := by omega
   obtain ⟨b, off, cap', cs, hv, hbl, hcs, hR⟩ := slR_at HW.out hlt
   simp only [Value.slice.injEq] at hv
   obtain ⟨rfl, _, rfl⟩ := hv
   obtain ⟨u, rfl, hU⟩ := hR
   change SlR tVersion W u (ss.getD k []) at hU
   have pe : W.cell? ⟨b, off + k, none⟩ = some u := by have := hcs 0 Nat.one_pos; rw [show tVersionS.n = 1 from rfl, Nat.mul_one, Nat.add_zero] at this; exact this
   have he := (hbel.cell (p := ⟨b, off + k, none⟩) hbl).trans pe
   have HNO := zh (fun g => store_no_short (ss := ss) (now := now) hlt g)
   have HYS : Hid ((ss.getD k []).length ≤ 4 → ShortP ss (k + 1)) := zh (fun g j hj => by
    by_cases e : j = k
    ·
     rw [e]; exact g
    ·
     exact hsh.out j (by omega))
   have HML := zh (zL_len (show zL tVersion (ss.getD k []) ≤ 1048576 from Nat.le_trans (zL_seg hlt) HS.out))
   obtain ⟨ua, uc, rfl⟩ := slR_len hU
   have HB := zh hbel
   clear hcs pe hU hsh hbel
   generalize (ss.getD k []).length = m at *
   by_cases hm : m ≤ 4
   ·
    have HY := zh (HYS.out hm)
    have hmi : ¬ (4 : Int) < (m : Int) := by omega
    clear HYS HNO
    go_wp2
    go_roundw
    case rel => exact ⟨k + 1, by omega, by go_num, HY, HB.out⟩
    case measure => simp [intOf]; omega
   ·
    have HF := zh (HNO.out hm)
    have hmi : (4 : Int) < (m : Int) := by omega
    clear HYS HNO
    go_wp2
    go_ret
    exact ⟨ret_b HF.out.symm, d0.out.trans (HB.out.mono d0.out.size)⟩
  ·
   obtain rfl : k = ss.length := by omega
   have HSH := zh hsh.out
   clear hsh
   have HB := zh hbel
   clear hbel
   go_wp2_with fail
   refine (HC.out wr (slR_below tVersionS_law HW.out HB.out)).mono ?_
   rintro e w1 ⟨v, L, rfl, hown, hshv, b1⟩
   have hVR := raw_reads (T := tVersion) (by decide) hown (sh_below tVersion_law hshv b1)
   obtain ⟨va, vc, rfl⟩ := slO_len hown
   rw [sh_len hshv] at *
   have V := zh hVR
   have b2 := HB.out.trans (b1.mono HB.out.size)
   have D1 := zh (d0.out.trans (b2.mono d0.out.size))
   have CN := zh ((b2.cell (p := ⟨w.heap.size, 1, none⟩) Y0.out).trans G1.out)
   have YN := zh (Nat.lt_of_lt_of_le Y0.out b2.size)
   have HFL := zh (zL_len HZF.out)
   clear hVR hown hshv b1 b2 HB p0 p1 HW G0 G1
   have hfl := HFL.out
   obtain ⟨l, hl⟩ : ∃ l, l = ss.flatten := ⟨_, rfl⟩
   have HLL := zh hl
   rw [← hl] at V HFL hfl ⊢
   clear hl
   go_wp2
   go_loopw [5] (fun i wr => ∃ k : Nat, k ≤ l.length ∧ i = .int .i64 k ∧ Hid (VersP l now k) ∧ Below w1.heap.size w1 wr) (fun i _ => l.length - (intOf i).toNat)
   case atStart => exact ⟨0, Nat.zero_le _, rfl, zh (fun j hj => by omega), Below.refl _ _⟩
   case round =>
    obtain ⟨k, hk, rfl, hvs, hbel⟩ := hrel
    by_cases hlt : k < l.length
    ·
     have i1 : (0 : Int) ≤ (k : Int) := by omega
     have i2 : (k : Int) < (l.length : Int) := by omega
     obtain ⟨b, off, cap', xa, xc, hv, hbl, c0, c1, c2, c3, hx⟩ := verR_at V.out hlt
     simp only [Value.slice.injEq] at hv
     obtain ⟨rfl, _, rfl⟩ := hv
     have HXL := zh (ver_len (by rw [HLL.out]; exact HZF.out) hlt)
     have HNV : Hid (verB (l.getD k v0D) now = false → storeB ss now = false) := zh (fun g => store_no_ver (i := k) (by rw [← HLL.out]; exact hlt) (by rw [← HLL.out]; exact g))
     have HNA : Hid (∀ j, j < k → apartB (l.getD k v0D) (l.getD j v0D) = false → storeB ss now = false) := zh (fun j hj g => store_no_apart (i := k) (k := j) (by rw [← HLL.out]; exact hlt) hj (by rw [← HLL.out]; exact g))
     have HST : Hid (verB (l.getD k v0D) now = true → (∀ j, j < k → apartB (l.getD k v0D) (l.getD j v0D) = true) → VersP l now (k + 1)) := zh (fun g1 g2 => vers_step hvs.out g1 g2)
     have HRX : Hid (Ints w1 (.slice xa (l.getD k v0D).2.1.length xc) (l.getD k v0D).2.1) := zh hx
     obtain ⟨x, hxe⟩ : ∃ x, x = l.getD k v0D := ⟨_, rfl⟩
     rw [← hxe] at HXL HNV HNA HST HRX c0 c1 c2 c3
     obtain ⟨id, xs, born, died⟩ := x
     simp only at c0 c1 c2 c3
     have C0 := zh c0
     have C1 := zh c1
     have C2 := zh c2
     have C3 := zh c3
     have HBL := zh hbl
     have d := zh hbel
     clear hx hxe c0 c1 c2 c3 hbl hbel hvs
     cases hver : verB (id, xs, born, died) now with
     | false =>
      have HF := zh (HNV.out hver)
      have HCV := zh (fun W g => hver ▸ specVersion id born died now (.slice xa xs.length xc) xs W g HXL.out HNN.out.2)
      clear hver HNV HNA HST
      go_wp2
      have p_C0 := cx d C0 HBL
      have p_C1 := cx d C1 HBL
      have p_C2 := cx d C2 HBL
      have p_C3 := cx d C3 HBL
      have p_CN := cx d CN YN
      refine wp_region_held_drew (S := fun w' => w'.cell? ⟨b, off + k * 4, none⟩ = some (Value.int .i64 id) ∧ w'.cell? ⟨b, off + k * 4 + 1, none⟩ = some (Value.slice xa xs.length xc) ∧ w'.cell? ⟨b, off + k * 4 + 2, none⟩ = some (Value.int .i64 born) ∧ w'.cell? ⟨b, off + k * 4 + 3, none⟩ = some (Value.int .i64 died) ∧ w'.cell? ⟨w.heap.size, 1, none⟩ = some (.int .i64 now)) (by kernel_rfl) ⟨p_C0, p_C1, p_C2, p_C3, p_CN⟩ (fun hHeld => ?_)
      clear p_C0 p_C1 p_C2 p_C3 p_CN
      have cdr : Below wr.heap.size wr wr.drew := below_drew (Below.refl _ _)
      replace d := zD d cdr
      clear cdr
      refine tQ (i := 0) ?_
      try simp only [Act.put, lA, lB, lC]
      refine tQ (i := 1) ?_
      try simp only [Act.put, lA, lB, lC]
      refine tQ (i := 2) ?_
      try simp only [Act.put, lA, lB, lC]
      refine tQ (i := 3) ?_
      try simp only [Act.put, lA, lB, lC]
      refine tQ (i := 4) ?_
      try simp only [Act.put, lA, lB, lC]
      refine tQ (i := 5) ?_
      try simp only [Act.put, lA, lB, lC]
      refine rA 6 (fun K hK => ?_)
      go_simp
      refine (HCV.out (wr.drew) (ints_below HRX.out d.out)).mono ?_
      rintro e w5 ⟨rfl, c5⟩
      replace d := zD d c5
      have Z_w5 := zh (show wr.heap.size ≤ w5.heap.size from c5.size)
      clear c5
      have p_C0 := cx d C0 HBL
      have p_C1 := cx d C1 HBL
      have p_C2 := cx d C2 HBL
      have p_C3 := cx d C3 HBL
      have p_CN := cx d CN YN
      refine hK.out _ _ ⟨p_C0, p_C1, p_C2, p_C3, p_CN⟩ (fun hHeld => ?_)
      clear p_C0 p_C1 p_C2 p_C3 p_CN
      clear hK K
      try simp only [Act.put, lA, lB, lC]
      refine tQ (i := 7) ?_
      try simp only [Act.put, lA, lB, lC]
      refine wpAnyH_done (by kernel_rfl) ?_ _
      clear hHeld
      go_wp2
      go_ret
      exact ⟨ret_b HF.out.symm, D1.out.trans (d.out.mono D1.out.size)⟩
     | true =>
      have HCV := zh (fun W g => hver ▸ specVersion id born died now (.slice xa xs.length xc) xs W g HXL.out HNN.out.2)
      have HST2 := zh (HST.out hver)
      clear hver HNV HST
      go_wp2
      have p_C0 := cx d C0 HBL
      have p_C1 := cx d C1 HBL
      have p_C2 := cx d C2 HBL
      have p_C3 := cx d C3 HBL
      have p_CN := cx d CN YN
      refine wp_region_held_drew (S := fun w' => w'.cell? ⟨b, off + k * 4, none⟩ = some (Value.int .i64 id) ∧ w'.cell? ⟨b, off + k * 4 + 1, none⟩ = some (Value.slice xa xs.length xc) ∧ w'.cell? ⟨b, off + k * 4 + 2, none⟩ = some (Value.int .i64 born) ∧ w'.cell? ⟨b, off + k * 4 + 3, none⟩ = some (Value.int .i64 died) ∧ w'.cell? ⟨w.heap.size, 1, none⟩ = some (.int .i64 now)) (by kernel_rfl) ⟨p_C0, p_C1, p_C2, p_C3, p_CN⟩ (fun hHeld => ?_)
      clear p_C0 p_C1 p_C2 p_C3 p_CN
      have cdr : Below wr.heap.size wr wr.drew := below_drew (Below.refl _ _)
      replace d := zD d cdr
      clear cdr
      refine tQ (i := 0) ?_
      try simp only [Act.put, lA, lB, lC]
      refine tQ (i := 1) ?_
      try simp only [Act.put, lA, lB, lC]
      refine tQ (i := 2) ?_
      try simp only [Act.put, lA, lB, lC]
      refine tQ (i := 3) ?_
      try simp only [Act.put, lA, lB, lC]
      refine tQ (i := 4) ?_
      try simp only [Act.put, lA, lB, lC]
      refine tQ (i := 5) ?_
      try simp only [Act.put, lA, lB, lC]
      refine rA 6 (fun K hK => ?_)
      go_simp
      refine (HCV.out (wr.drew) (ints_below HRX.out d.out)).mono ?_
      rintro e w5 ⟨rfl, c5⟩
      replace d := zD d c5
      have Z_w5 := zh (show wr.heap.size ≤ w5.heap.size from c5.size)
      clear c5
      have p_C0 := cx d C0 HBL
      have p_C1 := cx d C1 HBL
      have p_C2 := cx d C2 HBL
      have p_C3 := cx d C3 HBL
      have p_CN := cx d CN YN
      refine hK.out _ _ ⟨p_C0, p_C1, p_C2, p_C3, p_CN⟩ (fun hHeld => ?_)
      clear p_C0 p_C1 p_C2 p_C3 p_CN
      clear hK K
      try simp only [Act.put, lA, lB, lC]
      refine tQ (i := 7) ?_
      try simp only [Act.put, lA, lB, lC]
      refine wpAnyH_done (by kernel_rfl) ?_ _
      clear hHeld
      go_wp2
      go_loopw [6] (fun i wr => ∃ m : Nat, m ≤ k ∧ i = .int .i64 m ∧ Hid (∀ j, j < m → apartB (id, xs, born, died) (l.getD j v0D) = true) ∧ Below w1.heap.size w1 wr) (fun i _ => k - (intOf i).toNat)
      case atStart => exact ⟨0, Nat.zero_le _, rfl, zh (fun j hj => by omega), d.out⟩
      case round =>
       obtain ⟨m, hm, rfl, hap, hbel⟩ := hrel
       clear d
       by_cases hml : m < k
       ·
        have j1 : (0 : Int) ≤ (m : Int) := by omega
        have j2 : (m : Int) < (l.length : Int) := by omega
        have j3 : (m : Int) < (k : Int) := by omega
        obtain ⟨b2, off2, cap2, ya, yc, hv, hbl2, y0, y1, y2, y3, hy⟩ := verR_at V.out (k := m) (by omega)
        simp only [Value.slice.injEq, Option.some.injEq, Addr.mk.injEq] at hv
        obtain ⟨⟨rfl, rfl, _⟩, _, rfl⟩ := hv
        have HNX := zh (HNA.out m hml)
        have HYX : Hid (apartB (id, xs, born, died) (l.getD m v0D) = true → ∀ j, j < m + 1 → apartB (id, xs, born, died) (l.getD j v0D) = true) := zh (fun g j hj => by
         by_cases e : j = m
         ·
          rw [e]; exact g
         ·
          exact hap.out j (by omega))
        generalize l.getD m v0D = y at *
        obtain ⟨id2, ys, born2, died2⟩ := y
        simp only at y0 y1 y2 y3
        have E0 := zh y0
        have E1 := zh y1
        have E2 := zh y2
        have E3 := zh y3
        have d := zh hbel
        clear y0 y1 y2 y3 hy hap hbel
        have HCA := zh (specApart id born died id2 born2 died2 (.slice xa xs.length xc) (.slice ya ys.length yc))
        cases hapt : decide (apartP id born died id2 born2 died2) with
        | false =>
         have HF := zh (HNX.out hapt)
         rw [hapt] at HCA
         clear hapt HNX HYX
         go_wp2
         have p_C0 := cx d C0 HBL
         have p_C1 := cx d C1 HBL
         have p_C2 := cx d C2 HBL
         have p_C3 := cx d C3 HBL
         have p_E0 := cx d E0 HBL
         have p_E1 := cx d E1 HBL
         have p_E2 := cx d E2 HBL
         have p_E3 := cx d E3 HBL
         refine wp_region_held_drew (S := fun w' => w'.cell? ⟨b, off + k * 4, none⟩ = some (Value.int .i64 id) ∧ w'.cell? ⟨b, off + k * 4 + 1, none⟩ = some (Value.slice xa xs.length xc) ∧ w'.cell? ⟨b, off + k * 4 + 2, none⟩ = some (Value.int .i64 born) ∧ w'.cell? ⟨b, off + k * 4 + 3, none⟩ = some (Value.int .i64 died) ∧ w'.cell? ⟨b, off + m * 4, none⟩ = some (Value.int .i64 id2) ∧ w'.cell? ⟨b, off + m * 4 + 1, none⟩ = some (Value.slice ya ys.length yc) ∧ w'.cell? ⟨b, off + m * 4 + 2, none⟩ = some (Value.int .i64 born2) ∧ w'.cell? ⟨b, off + m * 4 + 3, none⟩ = some (Value.int .i64 died2)) (by kernel_rfl) ⟨p_C0, p_C1, p_C2, p_C3, p_E0, p_E1, p_E2, p_E3⟩ (fun hHeld => ?_)
         clear p_C0 p_C1 p_C2 p_C3 p_E0 p_E1 p_E2 p_E3
         have cdr : Below wr.heap.size wr wr.drew := below_drew (Below.refl _ _)
         replace d := zD d cdr
         clear cdr
         refine tQ (i := 0) ?_
         try simp only [Act.put, lA, lB, lC]
         refine tQ (i := 1) ?_
         try simp only [Act.put, lA, lB, lC]
         refine tQ (i := 2) ?_
         try simp only [Act.put, lA, lB, lC]
         refine tQ (i := 3) ?_
         try simp only [Act.put, lA, lB, lC]
         refine tQ (i := 4) ?_
         try simp only [Act.put, lA, lB, lC]
         refine tQ (i := 5) ?_
         try simp only [Act.put, lA, lB, lC]
         refine tQ (i := 6) ?_
         try simp only [Act.put, lA, lB, lC]
         refine tQ (i := 7) ?_
         try simp only [Act.put, lA, lB, lC]
         refine rA 8 (fun K hK => ?_)
         go_simp
         refine (HCA.out (wr.drew)).mono ?_
         rintro e w6 ⟨rfl, c6⟩
         replace d := zD d c6
         have Z_w6 := zh (show wr.heap.size ≤ w6.heap.size from c6.size)
         clear c6
         have p_C0 := cx d C0 HBL
         have p_C1 := cx d C1 HBL
         have p_C2 := cx d C2 HBL
         have p_C3 := cx d C3 HBL
         have p_E0 := cx d E0 HBL
         have p_E1 := cx d E1 HBL
         have p_E2 := cx d E2 HBL
         have p_E3 := cx d E3 HBL
         refine hK.out _ _ ⟨p_C0, p_C1, p_C2, p_C3, p_E0, p_E1, p_E2, p_E3⟩ (fun hHeld => ?_)
         clear p_C0 p_C1 p_C2 p_C3 p_E0 p_E1 p_E2 p_E3
         clear hK K
         try simp only [Act.put, lA, lB, lC]
         refine tQ (i := 9) ?_
         try simp only [Act.put, lA, lB, lC]
         refine wpAnyH_done (by kernel_rfl) ?_ _
         clear hHeld
         go_wp2
         go_ret
         exact ⟨ret_b HF.out.symm, D1.out.trans (d.out.mono D1.out.size)⟩
        | true =>
         have HA2 := zh (HYX.out hapt)
         rw [hapt] at HCA
         clear hapt HNX HYX
         go_wp2
         have p_C0 := cx d C0 HBL
         have p_C1 := cx d C1 HBL
         have p_C2 := cx d C2 HBL
         have p_C3 := cx d C3 HBL
         have p_E0 := cx d E0 HBL
         have p_E1 := cx d E1 HBL
         have p_E2 := cx d E2 HBL
         have p_E3 := cx d E3 HBL
         refine wp_region_held_drew (S := fun w' => w'.cell? ⟨b, off + k * 4, none⟩ = some (Value.int .i64 id) ∧ w'.cell? ⟨b, off + k * 4 + 1, none⟩ = some (Value.slice xa xs.length xc) ∧ w'.cell? ⟨b, off + k * 4 + 2, none⟩ = some (Value.int .i64 born) ∧ w'.cell? ⟨b, off + k * 4 + 3, none⟩ = some (Value.int .i64 died) ∧ w'.cell? ⟨b, off + m * 4, none⟩ = some (Value.int .i64 id2) ∧ w'.cell? ⟨b, off + m * 4 + 1, none⟩ = some (Value.slice ya ys.length yc) ∧ w'.cell? ⟨b, off + m * 4 + 2, none⟩ = some (Value.int .i64 born2) ∧ w'.cell? ⟨b, off + m * 4 + 3, none⟩ = some (Value.int .i64 died2)) (by kernel_rfl) ⟨p_C0, p_C1, p_C2, p_C3, p_E0, p_E1, p_E2, p_E3⟩ (fun hHeld => ?_)
         clear p_C0 p_C1 p_C2 p_C3 p_E0 p_E1 p_E2 p_E3
         have cdr : Below wr.heap.size wr wr.drew := below_drew (Below.refl _ _)
         replace d := zD d cdr
         clear cdr
         refine tQ (i := 0) ?_
         try simp only [Act.put, lA, lB, lC]
         refine tQ (i := 1) ?_
         try simp only [Act.put, lA, lB, lC]
         refine tQ (i := 2) ?_
         try simp only [Act.put, lA, lB, lC]
         refine tQ (i := 3) ?_
         try simp only [Act.put, lA, lB, lC]
         refine tQ (i := 4) ?_
         try simp only [Act.put, lA, lB, lC]
         refine tQ (i := 5) ?_
         try simp only [Act.put, lA, lB, lC]
         refine tQ (i := 6) ?_
         try simp only [Act.put, lA, lB, lC]
         refine tQ (i := 7) ?_
         try simp only [Act.put, lA, lB, lC]
         refine rA 8 (fun K hK => ?_)
         go_simp
         refine (HCA.out (wr.drew)).mono ?_
         rintro e w6 ⟨rfl, c6⟩
         replace d := zD d c6
         have Z_w6 := zh (show wr.heap.size ≤ w6.heap.size from c6.size)
         clear c6
         have p_C0 := cx d C0 HBL
         have p_C1 := cx d C1 HBL
         have p_C2 := cx d C2 HBL
         have p_C3 := cx d C3 HBL
         have p_E0 := cx d E0 HBL
         have p_E1 := cx d E1 HBL
         have p_E2 := cx d E2 HBL
         have p_E3 := cx d E3 HBL
         refine hK.out _ _ ⟨p_C0, p_C1, p_C2, p_C3, p_E0, p_E1, p_E2, p_E3⟩ (fun hHeld => ?_)
         clear p_C0 p_C1 p_C2 p_C3 p_E0 p_E1 p_E2 p_E3
         clear hK K
         try simp only [Act.put, lA, lB, lC]
         refine tQ (i := 9) ?_
         try simp only [Act.put, lA, lB, lC]
         refine wpAnyH_done (by kernel_rfl) ?_ _
         clear hHeld
         go_wp2
         go_roundw
         case rel => exact ⟨m + 1, by omega, by go_num, HA2, d.out⟩
         case measure => simp [intOf]; omega
       ·
        obtain rfl : m = k := by omega
        have HVK := zh (HST2.out hap.out)
        have HB := zh hbel
        clear hap hbel
        go_wp2
        go_roundw
        case rel => exact ⟨m + 1, by omega, by go_num, HVK, HB.out⟩
        case measure => simp [intOf]; omega
    ·
     obtain rfl : k = l.length := by omega
     have HT : Hid (storeB ss now = true) := zh (store_yes HCN.out HNN.out HSH.out (by rw [← HLL.out]; exact hvs.out))
     have HB := zh (D1.out.trans (hbel.mono D1.out.size))
     clear hvs hbel
     go_wp2
     go_ret
     exact ⟨ret_b HT.out.symm, HB.out⟩
/-- As far as k the order is one. -/
def OrdTo (os : List Int) (k : Nat) : Prop := ∀ i, i < k → (0 ≤ os.getD i 0 ∧ os.getD i 0 ≤ 2) ∧ os.getD i 0 ∉ os.take i
theorem orderB_len {os : List Int} (h : ¬ os.length = 3) : orderB os = false := by unfold orderB; rw [decide_eq_false h]; rfl
theorem orderB_yes {os : List Int} (hl : os.length = 3) (h : OrdTo os os.length) : orderB os = true := by
 unfold orderB
 rw [decide_eq_true hl, Bool.true_and, List.all_eq_true]
 intro i hi
 have := h i (List.mem_range.1 hi)
 simp only [Bool.and_eq_true, decide_eq_true_eq, Bool.not_eq_true', decide_eq_false_iff_not]
 exact this
theorem orderB_no {os : List Int} {k : Nat} (hk : k < os.length) (h : ¬ ((0 ≤ os.getD k 0 ∧ os.getD k 0 ≤ 2) ∧ os.getD k 0 ∉ os.take k)) : orderB os = false := by
 rw [Bool.eq_false_iff]
 intro g
 unfold orderB at g
 rw [Bool.and_eq_true, List.all_eq_true] at g
 have := g.2 k (List.mem_range.2 hk)
 simp only [Bool.and_eq_true, decide_eq_true_eq, Bool.not_eq_true', decide_eq_false_iff_not] at this
 exact h this
theorem ints_take {w : World} {b off cap n : Nat} {xs : List Int} (h : Ints w (.slice (some ⟨b, off, none⟩) n cap) xs) {k : Nat} (hk : k ≤ xs.length) (hp : 0 < xs.length) : Ints w (.slice (some ⟨b, off, none⟩) k cap) (xs.take k) := by
 rcases h with ⟨rfl, _⟩ | ⟨b', off', cap', hv, h2, h3, h4⟩
 ·
  simp at hp
 ·
  simp only [Value.slice.injEq, Option.some.injEq, Addr.mk.injEq] at hv
  obtain ⟨⟨rfl, rfl, _⟩, _, rfl⟩ := hv
  have hl : (xs.take k).length = k := by rw [List.length_take]; omega
  refine Or.inr ⟨b, off, cap, by rw [hl], by omega, h3, fun j hj => ?_⟩
  rw [hl] at hj
  rw [h4 j (by omega)]
  have h1 : j < (xs.take k).length := by omega
  simp [List.getD, hj, show j < xs.length by omega]
theorem ints_cap {w : World} {b off cap n : Nat} {xs : List Int} (h : Ints w (.slice (some ⟨b, off, none⟩) n cap) xs) (hp : 0 < xs.length) : xs.length ≤ cap := by
 rcases h with ⟨rfl, _⟩ | ⟨b', off', cap', hv, h2, _⟩
 ·
  simp at hp
 ·
  simp only [Value.slice.injEq] at hv
  obtain ⟨_, _, rfl⟩ := hv
  exact h2
theorem has_yes (v : Value) (xs : List Int) (x : Int) (w : World) (h : Ints w v xs) (hn : xs.length ≤ 1048576) (hm : x ∈ xs) :
  Calls Tryz.prog 187 #[v, .int .i64 x] w fun e w' => e = .returned (.bool true) ∧ w' = w :=
 (specHas v xs x w h hn).mono fun e w' g => ⟨by rw [g.1, decide_eq_true hm], g.2.symm⟩
theorem has_no (v : Value) (xs : List Int) (x : Int) (w : World) (h : Ints w v xs) (hn : xs.length ≤ 1048576) (hm : x ∉ xs) :
  Calls Tryz.prog 187 #[v, .int .i64 x] w fun e w' => e = .returned (.bool false) ∧ w' = w :=
 (specHas v xs x w h hn).mono fun e w' g => ⟨by rw [g.1, decide_eq_false hm], g.2.symm⟩
set_option maxHeartbeats 4000000 in
theorem specL6Order (v : Value) (os : List Int) (w : World) (h : Ints w v os) (hn : os.length ≤ 1048576) :
  Calls Tryz.prog 122 #[v] w fun e w' => e = .returned (.bool (orderB os)) ∧ Below w.heap.size w w' := by
 have H := zh h
 obtain ⟨a, cap, rfl⟩ := ints_len h
 clear h
 by_cases hl : os.length = 3
 ·
  have hne : ((os.length : Int) != 3) = false := by rw [hl]; rfl
  have HL := zh hl
  clear hl
  go_enter Tryz.func122, Tryz.ntmps122
  go_wp2
  clear hne
  go_loopw [3] (fun i wr => ∃ k : Nat, k ≤ os.length ∧ i = .int .i64 k ∧ Hid (OrdTo os k) ∧ Below w.heap.size w wr) (fun i _ => os.length - (intOf i).toNat)
  case atStart => exact ⟨0, Nat.zero_le _, rfl, zh (fun i hi => by omega), Below.refl _ _⟩
  case round =>
   obtain ⟨k, hk, rfl, hord, hbel⟩ := hrel
   by_cases hlt : k < os.length
   ·
    have I := ints_below H.out hbel
    obtain ⟨b, off, cap', hv, hbl, hc⟩ := ints_cell I (by omega)
    simp only [Value.slice.injEq] at hv
    obtain ⟨rfl, _, rfl⟩ := hv
    have hcell := hc k hlt
    have hcp := ints_cap I (by omega)
    have HT := zh (ints_take I hk (by omega))
    have HTL : Hid ((os.take k).length ≤ 1048576) := zh (by rw [List.length_take]; omega)
    have i1 : (0 : Int) ≤ (k : Int) := by omega
    have i2 : (k : Int) < (os.length : Int) := by omega
    have i3 : (k : Int) ≤ (cap : Int) := by omega
    have i4 : k ≤ cap := by omega
    have HNO := zh (fun h => orderB_no (os := os) hlt h)
    have HST : Hid ((0 ≤ os.getD k 0 ∧ os.getD k 0 ≤ 2) ∧ os.getD k 0 ∉ os.take k → OrdTo os (k + 1)) := zh (fun h i hi => by
     by_cases e : i = k
     ·
      rw [e]; exact h
     ·
      exact hord.out i (by omega))
    clear hc I hord
    generalize os.getD k 0 = y at *
    generalize os.take k = ts at *
    by_cases hin : 0 ≤ y ∧ y ≤ 2
    ·
     obtain ⟨g0, g1⟩ := hin
     by_cases hm : y ∈ ts
     ·
      have HF := zh (HNO.out (fun q => q.2 hm))
      have HM := zh hm
      clear hm HNO HST
      go_wp2
      go_quiet ((first | (go_at_call 55; exact Calls.quiet_of_same (in_yes _ _ _ _ (by omega) (by omega))) | (go_at_call 187; exact Calls.quiet_of_same (has_yes _ ts _ _ HT.out HTL.out HM.out))))
      go_wp2
      go_ret
      exact ⟨ret_b HF.out.symm, below_same hbel rfl rfl rfl rfl⟩
     ·
      have HS := zh (HST.out ⟨⟨g0, g1⟩, hm⟩)
      have HM := zh hm
      clear hm HNO HST
      go_wp2
      go_quiet ((first | (go_at_call 55; exact Calls.quiet_of_same (in_yes _ _ _ _ (by omega) (by omega))) | (go_at_call 187; exact Calls.quiet_of_same (has_no _ ts _ _ HT.out HTL.out HM.out))))
      go_wp2
      go_roundw
      case rel => exact ⟨k + 1, by omega, by go_num, HS, below_same hbel rfl rfl rfl rfl⟩
      case measure => simp [intOf]; omega
    ·
     have HF := zh (HNO.out (fun q => hin q.1))
     have HI := zh hin
     clear hin HNO HST
     go_wp2
     go_quiet ((go_at_call 55; exact Calls.quiet_of_same (in_no _ _ _ _ HI.out)))
     go_wp2
     go_ret
     exact ⟨ret_b HF.out.symm, below_same hbel rfl rfl rfl rfl⟩
   ·
    obtain rfl : k = os.length := by omega
    have HY := zh (orderB_yes HL.out hord.out)
    clear hord
    go_wp2
    go_ret
    exact ⟨ret_b HY.out.symm, hbel⟩
 ·
  have hne : ((os.length : Int) != 3) = true := by rw [bne_iff_ne]; omega
  have HF := zh (orderB_len hl)
  clear hl
  go_enter Tryz.func122, Tryz.ntmps122
  go_wp2
  go_ret
  exact ⟨ret_b HF.out.symm, Below.refl _ _⟩
end Go.Proofs.YtnepfacnmaoieaaGreatDoor
