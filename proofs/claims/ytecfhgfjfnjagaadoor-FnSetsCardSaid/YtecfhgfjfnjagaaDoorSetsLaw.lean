/-
  The walk of the law of sets: with the program's contracts it returns true for every code.
-/
import Derived.Test.YtecfhgfjfnjagaaDoorSetsMath
import Derived.Test.YtecfhgfjfnjagaaDoorSetDraw
import Derived.Test.YtecfhgfjfnjagaaDoorSetOps
import Derived.Test.YtecfhgfjfnjagaaDoorSetImpl
import Derived.Test.YtecfhgfjfnjagaaDoorParSetImpl
namespace Go.Proofs.YtecfhgfjfnjagaaDoor
open Go.RowKit
set_option linter.unusedVariables false
set_option maxRecDepth 100000 in
theorem hasL (v : Value) (xs : List Int) (x : Int) (w : World) (h : Ints w v xs) (hn : xs.length ≤ 1048576) :
    Calls Tryd.prog 21 #[v, .int .i64 x] w fun e w' => e = .returned (.bool (decide (x ∈ xs))) ∧ Below w.heap.size w w' := by
  have H := Lib.hid h
  obtain ⟨a, cap, rfl⟩ := ints_len h
  clear h
  go_enter Tryd.func21, Tryd.ntmps21
  go_wp2
  go_loop [5] (fun i => ∃ k : Nat, k ≤ xs.length ∧ i = .int .i64 k ∧ Hid (∀ j, j < k → xs.getD j 0 ≠ x)) (fun i => xs.length - (intOf i).toNat)
  case atStart => exact ⟨0, Nat.zero_le _, rfl, Lib.hid (fun j hj => by omega)⟩
  case round =>
    obtain ⟨k, hk, rfl, hne⟩ := hrel
    by_cases hlt : k < xs.length
    · obtain ⟨b, off, cap', hv, hbl, hc⟩ := ints_cell H.out (by omega)
      simp only [Value.slice.injEq] at hv
      obtain ⟨rfl, _, rfl⟩ := hv
      have hcell := hc k hlt
      have i1 : (0 : Int) ≤ (k : Int) := by omega
      have i2 : (k : Int) < (xs.length : Int) := by omega
      clear hc
      by_cases he : xs.getD k 0 = x
      · have HY := Lib.hid (show decide (x ∈ xs) = true from decide_eq_true ((member_iff xs x).2 ⟨k, hlt, he⟩))
        rw [he] at hcell
        have heq : (x == x) = true := by simp
        clear he
        go_wp2
        go_ret
        exact ⟨ret_b HY.out.symm, Below.refl _ _⟩
      · have HN : Hid (∀ j, j < k + 1 → xs.getD j 0 ≠ x) := Lib.hid (fun j hj => by
          by_cases e : j = k
          · exact e ▸ he
          · exact hne.out j (by omega))
        have heq : (xs.getD k 0 == x) = false := by rw [beq_eq_false_iff_ne]; exact he
        clear he
        generalize xs.getD k 0 = y at hcell heq
        go_wp2
        go_round
        case rel => exact ⟨k + 1, by omega, by go_num, HN⟩
        case measure => simp [intOf]; omega
    · have HN := Lib.hid (show decide (x ∈ xs) = false from decide_eq_false (fun g => by
        obtain ⟨j, hj, e⟩ := (member_iff xs x).1 g
        exact hne.out j (by omega) e))
      go_wp2
      go_ret
      exact ⟨ret_b HN.out.symm, Below.refl _ _⟩
set_option maxRecDepth 100000 in
theorem sameL (v u : Value) (xs : List Int) (w : World) (h : Ints w v xs) (g : Ints w u xs) (hn : xs.length ≤ 1048576) :
    Calls Tryd.prog 11 #[v, u] w fun e w' => e = .returned (.bool true) ∧ Below w.heap.size w w' := by
  have H := Lib.hid h
  have G := Lib.hid g
  obtain ⟨a, cap, rfl⟩ := ints_len h
  obtain ⟨a2, cap2, rfl⟩ := ints_len g
  clear h g
  go_enter Tryd.func11, Tryd.ntmps11
  go_wp2
  go_loopw [5] (fun i wr => ∃ k : Nat, k ≤ xs.length ∧ i = .int .i64 k ∧ Below w.heap.size w wr) (fun i _ => xs.length - (intOf i).toNat)
  case atStart => exact ⟨0, Nat.zero_le _, rfl, Below.refl _ _⟩
  case round =>
    obtain ⟨k, hk, rfl, hbel⟩ := hrel
    by_cases hlt : k < xs.length
    · obtain ⟨b, off, cap', hv, hbl, hc⟩ := ints_cell H.out (by omega)
      simp only [Value.slice.injEq] at hv
      obtain ⟨rfl, _, rfl⟩ := hv
      obtain ⟨b2, off2, cap2', hv2, hbl2, hc2⟩ := ints_cell G.out (by omega)
      simp only [Value.slice.injEq] at hv2
      obtain ⟨rfl, _, rfl⟩ := hv2
      have hcell := (hbel.cell (p := ⟨b, off + k, none⟩) hbl).trans (hc k hlt)
      have hcell2 := (hbel.cell (p := ⟨b2, off2 + k, none⟩) hbl2).trans (hc2 k hlt)
      have i1 : (0 : Int) ≤ (k : Int) := by omega
      have i2 : (k : Int) < (xs.length : Int) := by omega
      clear hc hc2
      generalize xs.getD k 0 = y at hcell hcell2
      go_wp2
      go_quiet (fail)
      go_wp2
      go_roundw
      case rel => exact ⟨k + 1, by omega, by go_num, below_drewN hbel _⟩
      case measure => simp [intOf]; omega
    · go_wp2
      go_ret
      exact ⟨rfl, hbel⟩
theorem bigL (a : Option Addr) (cap n : Nat) (w : World) : Calls Tryd.prog 6 #[.slice a n cap] w fun e w' => e = .returned (.bool (decide ((1048576 : Int) < (n : Int)))) ∧ w' = w := by
  go_enter Tryd.func6, Tryd.ntmps6
  go_wp2
  go_ret
  exact ⟨rfl, rfl⟩
theorem ret_bb {b c : Bool} (h : b = c) : Ending.returned (.bool b) = .returned (.bool c) := by rw [h]
theorem uniteL_small (a b : List Int) : (uniteL a b).length ≤ 1048576 := by
  unfold uniteL; split
  · have := List.length_filter_le (fun x => decide (x ∈ a) || decide (x ∈ b)) ((List.range 24).map fun i : Nat => (i : Int))
    simp at this ⊢; omega
  · simp
theorem meetL_small (a b : List Int) (h : a.length ≤ 1048576) : (meetL a b).length ≤ 1048576 := by
  unfold meetL; split
  · exact Nat.le_trans (List.length_filter_le _ _) h
  · simp
theorem subL_small (a b : List Int) (h : a.length ≤ 1048576) : (subL a b).length ≤ 1048576 := by
  unfold subL; split
  · exact Nat.le_trans (List.length_filter_le _ _) h
  · simp
set_option maxHeartbeats 16000000 in
set_option maxRecDepth 100000 in
theorem law_fnSets (p : Option Addr) (cap : Nat) (xs : List Int) (w : World) (hcode : Code w (.slice p xs.length cap) xs) (hby : ∀ x ∈ xs, 0 ≤ x ∧ x ≤ 255) (htab : TabZ w ∧ Tab w) :
    Calls Tryd.prog 3 #[.slice p xs.length cap] w fun e w' => e = .returned (.bool true) ∧ Below w.heap.size w w' := by
  obtain ⟨hZ, hT⟩ := htab
  by_cases hl : xs.length ≤ 1048576
  · have HD := Lib.hid (drawUnite _ xs w hcode hl hby)
    have hbig : decide ((1048576 : Int) < (xs.length : Int)) = false := decide_eq_false (by omega)
    have HBIG := Lib.hid (bigL p cap xs.length w)
    rw [hbig] at HBIG
    have HZ := Lib.hid hZ
    have HT := Lib.hid hT
    clear hcode hby hl hbig hZ hT
    generalize xs.length = n at *
    go_enter Tryd.func3, Tryd.ntmps3
    go_wp2_with fail
    refine HBIG.out.mono ?_
    rintro e wx ⟨rfl, rfl⟩
    go_wp2_with fail
    refine HD.out.mono ?_
    rintro e w1 ⟨ua, ub, a, b, ha7, hb7, rfl, oa, ob, b1⟩
    have Ia := ownsN_ints oa
    have Ib := ownsN_ints ob
    have HLA : Hid (a.length ≤ 1048576) := Lib.hid (by omega)
    have HLB : Hid (b.length ≤ 1048576) := Lib.hid (by omega)
    clear oa ob HD HBIG
    obtain ⟨pa, qa, rfl⟩ := ints_len Ia
    obtain ⟨pb, qb, rfl⟩ := ints_len Ib
    have HLu := Lib.hid (uniteL_small a b)
    have HLm := Lib.hid (meetL_small a b HLA.out)
    have HLd := Lib.hid (subL_small a b HLA.out)
    have HPAR := Lib.hid (fun w h1 h2 => implParSet (fmtSet a) w (fmtSet_len a) h1 h2)
    have HFMT := Lib.hid (fun v w h => specFmtSet v a w h HLA.out)
    have HEQ : Hid (((strB (fmtSet a)).toList == (strB (fmtSet a)).toList) = true) := Lib.hid (by simp)
    cases hsa : setB a with
    | false =>
      have HSA := Lib.hid hsa
      obtain ⟨e1, e2, e3⟩ := none_of (a := a) (b := b) (by rw [hsa]; rfl)
      have E1 := Lib.hid e1
      have E2 := Lib.hid e2
      have E3 := Lib.hid e3
      rw [parSet_no' hsa] at HPAR
      clear hsa e1 e2 e3
      go_wp2_with fail
      refine (implUniteSets _ _ a b _ Ia Ib HLA.out HLB.out).mono ?_
      rintro e v1 ⟨xu, rfl, ou, c1⟩
      have d1 := b1.trans (c1.mono b1.size)
      replace Ia := ints_below Ia c1
      replace Ib := ints_below Ib c1
      clear b1
      have Iu := ownsN_ints ou
      clear ou c1
      obtain ⟨pu, qu, rfl⟩ := ints_len Iu
      go_wp2_with fail
      refine (implMeetSets _ _ a b _ Ia Ib HLA.out HLB.out).mono ?_
      rintro e v2 ⟨xm, rfl, om, c2⟩
      have d2 := d1.trans (c2.mono d1.size)
      replace Ia := ints_below Ia c2
      replace Ib := ints_below Ib c2
      replace Iu := ints_below Iu c2
      clear d1
      have Im := ownsN_ints om
      clear om c2
      obtain ⟨pm, qm, rfl⟩ := ints_len Im
      go_wp2_with fail
      refine (implSubtractSets _ _ a b _ Ia Ib HLA.out HLB.out).mono ?_
      rintro e v3 ⟨xd, rfl, od, c3⟩
      have d3 := d2.trans (c3.mono d2.size)
      replace Ia := ints_below Ia c3
      replace Ib := ints_below Ib c3
      replace Iu := ints_below Iu c3
      replace Im := ints_below Im c3
      clear d2
      have Id := ownsN_ints od
      clear od c3
      obtain ⟨pd, qd, rfl⟩ := ints_len Id
      go_wp2_with fail
      refine (specUnite _ _ a b _ Ia Ib HLA.out HLB.out).mono ?_
      rintro e v4 ⟨r, rfl, or, c4⟩
      have d4 := d3.trans (c4.mono d3.size)
      replace Ia := ints_below Ia c4
      replace Ib := ints_below Ib c4
      replace Iu := ints_below Iu c4
      replace Im := ints_below Im c4
      replace Id := ints_below Id c4
      clear d3
      have Ir := ownsN_ints or
      clear or c4
      go_wp2_with fail
      refine (sameL _ _ _ _ Iu Ir HLu.out).mono ?_
      rintro e v5 ⟨rfl, c5⟩
      have d5 := d4.trans (c5.mono d4.size)
      replace Ia := ints_below Ia c5
      replace Ib := ints_below Ib c5
      replace Iu := ints_below Iu c5
      replace Im := ints_below Im c5
      replace Id := ints_below Id c5
      replace Ir := ints_below Ir c5
      clear d4 c5
      clear Ir
      go_wp2_with fail
      refine (specMeet _ _ a b _ Ia Ib HLA.out HLB.out).mono ?_
      rintro e v6 ⟨r, rfl, or, c6⟩
      have d6 := d5.trans (c6.mono d5.size)
      replace Ia := ints_below Ia c6
      replace Ib := ints_below Ib c6
      replace Iu := ints_below Iu c6
      replace Im := ints_below Im c6
      replace Id := ints_below Id c6
      clear d5
      have Ir := ownsN_ints or
      clear or c6
      go_wp2_with fail
      refine (sameL _ _ _ _ Im Ir HLm.out).mono ?_
      rintro e v7 ⟨rfl, c7⟩
      have d7 := d6.trans (c7.mono d6.size)
      replace Ia := ints_below Ia c7
      replace Ib := ints_below Ib c7
      replace Iu := ints_below Iu c7
      replace Im := ints_below Im c7
      replace Id := ints_below Id c7
      replace Ir := ints_below Ir c7
      clear d6 c7
      clear Ir
      go_wp2_with fail
      refine (specSub _ _ a b _ Ia Ib HLA.out HLB.out).mono ?_
      rintro e v8 ⟨r, rfl, or, c8⟩
      have d8 := d7.trans (c8.mono d7.size)
      replace Ia := ints_below Ia c8
      replace Ib := ints_below Ib c8
      replace Iu := ints_below Iu c8
      replace Im := ints_below Im c8
      replace Id := ints_below Id c8
      clear d7
      have Ir := ownsN_ints or
      clear or c8
      go_wp2_with fail
      refine (sameL _ _ _ _ Id Ir HLd.out).mono ?_
      rintro e v9 ⟨rfl, c9⟩
      have d9 := d8.trans (c9.mono d8.size)
      replace Ia := ints_below Ia c9
      replace Ib := ints_below Ib c9
      replace Iu := ints_below Iu c9
      replace Im := ints_below Im c9
      replace Id := ints_below Id c9
      replace Ir := ints_below Ir c9
      clear d8 c9
      clear Ir
      go_wp2_with fail
      refine (implIsSet _ a _ Ia HLA.out).mono ?_
      rintro e v10 ⟨rfl, c10⟩
      have d10 := d9.trans (c10.mono d9.size)
      replace Ia := ints_below Ia c10
      replace Ib := ints_below Ib c10
      replace Iu := ints_below Iu c10
      replace Im := ints_below Im c10
      replace Id := ints_below Id c10
      clear d9 c10
      go_wp2_with fail
      refine (specIsSet _ a _ Ia HLA.out).mono ?_
      rintro e v11 ⟨rfl, c11⟩
      have d11 := d10.trans (c11.mono d10.size)
      replace Ia := ints_below Ia c11
      replace Ib := ints_below Ib c11
      replace Iu := ints_below Iu c11
      replace Im := ints_below Im c11
      replace Id := ints_below Id c11
      clear d10 c11
      go_wp2_with fail
      refine (implFormatSet _ a _ Ia (HZ.out.on d11) HLA.out).mono ?_
      rintro e v12 ⟨rfl, c12⟩
      have d12 := d11.trans (c12.mono d11.size)
      replace Ia := ints_below Ia c12
      replace Ib := ints_below Ib c12
      replace Iu := ints_below Iu c12
      replace Im := ints_below Im c12
      replace Id := ints_below Id c12
      clear d11 c12
      go_wp2_with fail
      refine (HPAR.out _ (HT.out.on d12) (HZ.out.on d12)).mono ?_
      rintro e v13 ⟨xx, rfl, ox, c13⟩
      have d13 := d12.trans (c13.mono d12.size)
      replace Ia := ints_below Ia c13
      replace Ib := ints_below Ib c13
      replace Iu := ints_below Iu c13
      replace Im := ints_below Im c13
      replace Id := ints_below Id c13
      clear d12
      have Ix := ownsN_ints ox
      clear ox c13
      go_wp2_with fail
      refine (HFMT.out _ _ Ia).mono ?_
      rintro e v14 ⟨rfl, c14⟩
      have d14 := d13.trans (c14.mono d13.size)
      replace Ia := ints_below Ia c14
      replace Ib := ints_below Ib c14
      replace Iu := ints_below Iu c14
      replace Im := ints_below Im c14
      replace Id := ints_below Id c14
      replace Ix := ints_below Ix c14
      clear d13 c14
      have heq := HEQ.out
      go_wp2_with fail
      refine (specIsSet _ a _ Ia HLA.out).mono ?_
      rintro e v15 ⟨rfl, c15⟩
      have d15 := d14.trans (c15.mono d14.size)
      replace Ia := ints_below Ia c15
      replace Ib := ints_below Ib c15
      replace Iu := ints_below Iu c15
      replace Im := ints_below Im c15
      replace Id := ints_below Id c15
      replace Ix := ints_below Ix c15
      clear d14 c15
      rw [HSA.out]
      clear Ix heq
      go_wp2_with fail
      refine (specIsSet _ a _ Ia HLA.out).mono ?_
      rintro e v16 ⟨rfl, c16⟩
      have d16 := d15.trans (c16.mono d15.size)
      replace Ia := ints_below Ia c16
      replace Ib := ints_below Ib c16
      replace Iu := ints_below Iu c16
      replace Im := ints_below Im c16
      replace Id := ints_below Id c16
      clear d15 c16
      rw [HSA.out]
      rw [E1.out, E2.out, E3.out]
      go_wp2
      go_ret
      exact ⟨rfl, d16⟩
    | true =>
      have HSA := Lib.hid hsa
      rw [parSet_yes' hsa] at HPAR
      cases hsb : setB b with
      | false =>
        have HSB := Lib.hid hsb
        obtain ⟨e1, e2, e3⟩ := none_of (a := a) (b := b) (by rw [hsa, hsb]; rfl)
        have E1 := Lib.hid e1
        have E2 := Lib.hid e2
        have E3 := Lib.hid e3
        clear hsa hsb e1 e2 e3
        go_wp2_with fail
        refine (implUniteSets _ _ a b _ Ia Ib HLA.out HLB.out).mono ?_
        rintro e v1 ⟨xu, rfl, ou, c1⟩
        have d1 := b1.trans (c1.mono b1.size)
        replace Ia := ints_below Ia c1
        replace Ib := ints_below Ib c1
        clear b1
        have Iu := ownsN_ints ou
        clear ou c1
        obtain ⟨pu, qu, rfl⟩ := ints_len Iu
        go_wp2_with fail
        refine (implMeetSets _ _ a b _ Ia Ib HLA.out HLB.out).mono ?_
        rintro e v2 ⟨xm, rfl, om, c2⟩
        have d2 := d1.trans (c2.mono d1.size)
        replace Ia := ints_below Ia c2
        replace Ib := ints_below Ib c2
        replace Iu := ints_below Iu c2
        clear d1
        have Im := ownsN_ints om
        clear om c2
        obtain ⟨pm, qm, rfl⟩ := ints_len Im
        go_wp2_with fail
        refine (implSubtractSets _ _ a b _ Ia Ib HLA.out HLB.out).mono ?_
        rintro e v3 ⟨xd, rfl, od, c3⟩
        have d3 := d2.trans (c3.mono d2.size)
        replace Ia := ints_below Ia c3
        replace Ib := ints_below Ib c3
        replace Iu := ints_below Iu c3
        replace Im := ints_below Im c3
        clear d2
        have Id := ownsN_ints od
        clear od c3
        obtain ⟨pd, qd, rfl⟩ := ints_len Id
        go_wp2_with fail
        refine (specUnite _ _ a b _ Ia Ib HLA.out HLB.out).mono ?_
        rintro e v4 ⟨r, rfl, or, c4⟩
        have d4 := d3.trans (c4.mono d3.size)
        replace Ia := ints_below Ia c4
        replace Ib := ints_below Ib c4
        replace Iu := ints_below Iu c4
        replace Im := ints_below Im c4
        replace Id := ints_below Id c4
        clear d3
        have Ir := ownsN_ints or
        clear or c4
        go_wp2_with fail
        refine (sameL _ _ _ _ Iu Ir HLu.out).mono ?_
        rintro e v5 ⟨rfl, c5⟩
        have d5 := d4.trans (c5.mono d4.size)
        replace Ia := ints_below Ia c5
        replace Ib := ints_below Ib c5
        replace Iu := ints_below Iu c5
        replace Im := ints_below Im c5
        replace Id := ints_below Id c5
        replace Ir := ints_below Ir c5
        clear d4 c5
        clear Ir
        go_wp2_with fail
        refine (specMeet _ _ a b _ Ia Ib HLA.out HLB.out).mono ?_
        rintro e v6 ⟨r, rfl, or, c6⟩
        have d6 := d5.trans (c6.mono d5.size)
        replace Ia := ints_below Ia c6
        replace Ib := ints_below Ib c6
        replace Iu := ints_below Iu c6
        replace Im := ints_below Im c6
        replace Id := ints_below Id c6
        clear d5
        have Ir := ownsN_ints or
        clear or c6
        go_wp2_with fail
        refine (sameL _ _ _ _ Im Ir HLm.out).mono ?_
        rintro e v7 ⟨rfl, c7⟩
        have d7 := d6.trans (c7.mono d6.size)
        replace Ia := ints_below Ia c7
        replace Ib := ints_below Ib c7
        replace Iu := ints_below Iu c7
        replace Im := ints_below Im c7
        replace Id := ints_below Id c7
        replace Ir := ints_below Ir c7
        clear d6 c7
        clear Ir
        go_wp2_with fail
        refine (specSub _ _ a b _ Ia Ib HLA.out HLB.out).mono ?_
        rintro e v8 ⟨r, rfl, or, c8⟩
        have d8 := d7.trans (c8.mono d7.size)
        replace Ia := ints_below Ia c8
        replace Ib := ints_below Ib c8
        replace Iu := ints_below Iu c8
        replace Im := ints_below Im c8
        replace Id := ints_below Id c8
        clear d7
        have Ir := ownsN_ints or
        clear or c8
        go_wp2_with fail
        refine (sameL _ _ _ _ Id Ir HLd.out).mono ?_
        rintro e v9 ⟨rfl, c9⟩
        have d9 := d8.trans (c9.mono d8.size)
        replace Ia := ints_below Ia c9
        replace Ib := ints_below Ib c9
        replace Iu := ints_below Iu c9
        replace Im := ints_below Im c9
        replace Id := ints_below Id c9
        replace Ir := ints_below Ir c9
        clear d8 c9
        clear Ir
        go_wp2_with fail
        refine (implIsSet _ a _ Ia HLA.out).mono ?_
        rintro e v10 ⟨rfl, c10⟩
        have d10 := d9.trans (c10.mono d9.size)
        replace Ia := ints_below Ia c10
        replace Ib := ints_below Ib c10
        replace Iu := ints_below Iu c10
        replace Im := ints_below Im c10
        replace Id := ints_below Id c10
        clear d9 c10
        go_wp2_with fail
        refine (specIsSet _ a _ Ia HLA.out).mono ?_
        rintro e v11 ⟨rfl, c11⟩
        have d11 := d10.trans (c11.mono d10.size)
        replace Ia := ints_below Ia c11
        replace Ib := ints_below Ib c11
        replace Iu := ints_below Iu c11
        replace Im := ints_below Im c11
        replace Id := ints_below Id c11
        clear d10 c11
        go_wp2_with fail
        refine (implFormatSet _ a _ Ia (HZ.out.on d11) HLA.out).mono ?_
        rintro e v12 ⟨rfl, c12⟩
        have d12 := d11.trans (c12.mono d11.size)
        replace Ia := ints_below Ia c12
        replace Ib := ints_below Ib c12
        replace Iu := ints_below Iu c12
        replace Im := ints_below Im c12
        replace Id := ints_below Id c12
        clear d11 c12
        go_wp2_with fail
        refine (HPAR.out _ (HT.out.on d12) (HZ.out.on d12)).mono ?_
        rintro e v13 ⟨xx, rfl, ox, c13⟩
        have d13 := d12.trans (c13.mono d12.size)
        replace Ia := ints_below Ia c13
        replace Ib := ints_below Ib c13
        replace Iu := ints_below Iu c13
        replace Im := ints_below Im c13
        replace Id := ints_below Id c13
        clear d12
        have Ix := ownsN_ints ox
        clear ox c13
        go_wp2_with fail
        refine (HFMT.out _ _ Ia).mono ?_
        rintro e v14 ⟨rfl, c14⟩
        have d14 := d13.trans (c14.mono d13.size)
        replace Ia := ints_below Ia c14
        replace Ib := ints_below Ib c14
        replace Iu := ints_below Iu c14
        replace Im := ints_below Im c14
        replace Id := ints_below Id c14
        replace Ix := ints_below Ix c14
        clear d13 c14
        have heq := HEQ.out
        go_wp2_with fail
        refine (specIsSet _ a _ Ia HLA.out).mono ?_
        rintro e v15 ⟨rfl, c15⟩
        have d15 := d14.trans (c15.mono d14.size)
        replace Ia := ints_below Ia c15
        replace Ib := ints_below Ib c15
        replace Iu := ints_below Iu c15
        replace Im := ints_below Im c15
        replace Id := ints_below Id c15
        replace Ix := ints_below Ix c15
        clear d14 c15
        rw [HSA.out]
        go_wp2_with fail
        refine (sameL _ _ _ _ Ix Ia HLA.out).mono ?_
        rintro e v16 ⟨rfl, c16⟩
        have d16 := d15.trans (c16.mono d15.size)
        replace Ia := ints_below Ia c16
        replace Ib := ints_below Ib c16
        replace Iu := ints_below Iu c16
        replace Im := ints_below Im c16
        replace Id := ints_below Id c16
        replace Ix := ints_below Ix c16
        clear d15 c16
        clear Ix heq
        go_wp2_with fail
        refine (specIsSet _ a _ Ia HLA.out).mono ?_
        rintro e v17 ⟨rfl, c17⟩
        have d17 := d16.trans (c17.mono d16.size)
        replace Ia := ints_below Ia c17
        replace Ib := ints_below Ib c17
        replace Iu := ints_below Iu c17
        replace Im := ints_below Im c17
        replace Id := ints_below Id c17
        clear d16 c17
        rw [HSA.out]
        go_wp2_with fail
        refine (specIsSet _ b _ Ib HLB.out).mono ?_
        rintro e v18 ⟨rfl, c18⟩
        have d18 := d17.trans (c18.mono d17.size)
        replace Ia := ints_below Ia c18
        replace Ib := ints_below Ib c18
        replace Iu := ints_below Iu c18
        replace Im := ints_below Im c18
        replace Id := ints_below Id c18
        clear d17 c18
        rw [HSB.out]
        rw [E1.out, E2.out, E3.out]
        go_wp2
        go_ret
        exact ⟨rfl, d18⟩
      | true =>
        have HSB := Lib.hid hsb
        have MU := Lib.hid (fun i hi => mem_unite hsa hsb i hi)
        have MM := Lib.hid (fun x => mem_meet hsa hsb x)
        have MD := Lib.hid (fun x => mem_sub hsa hsb x)
        have SU := Lib.hid (unite_set a b)
        have LU := Lib.hid (len_unite hsa hsb)
        clear hsa hsb
        go_wp2_with fail
        refine (implUniteSets _ _ a b _ Ia Ib HLA.out HLB.out).mono ?_
        rintro e v1 ⟨xu, rfl, ou, c1⟩
        have d1 := b1.trans (c1.mono b1.size)
        replace Ia := ints_below Ia c1
        replace Ib := ints_below Ib c1
        clear b1
        have Iu := ownsN_ints ou
        clear ou c1
        obtain ⟨pu, qu, rfl⟩ := ints_len Iu
        go_wp2_with fail
        refine (implMeetSets _ _ a b _ Ia Ib HLA.out HLB.out).mono ?_
        rintro e v2 ⟨xm, rfl, om, c2⟩
        have d2 := d1.trans (c2.mono d1.size)
        replace Ia := ints_below Ia c2
        replace Ib := ints_below Ib c2
        replace Iu := ints_below Iu c2
        clear d1
        have Im := ownsN_ints om
        clear om c2
        obtain ⟨pm, qm, rfl⟩ := ints_len Im
        go_wp2_with fail
        refine (implSubtractSets _ _ a b _ Ia Ib HLA.out HLB.out).mono ?_
        rintro e v3 ⟨xd, rfl, od, c3⟩
        have d3 := d2.trans (c3.mono d2.size)
        replace Ia := ints_below Ia c3
        replace Ib := ints_below Ib c3
        replace Iu := ints_below Iu c3
        replace Im := ints_below Im c3
        clear d2
        have Id := ownsN_ints od
        clear od c3
        obtain ⟨pd, qd, rfl⟩ := ints_len Id
        go_wp2_with fail
        refine (specUnite _ _ a b _ Ia Ib HLA.out HLB.out).mono ?_
        rintro e v4 ⟨r, rfl, or, c4⟩
        have d4 := d3.trans (c4.mono d3.size)
        replace Ia := ints_below Ia c4
        replace Ib := ints_below Ib c4
        replace Iu := ints_below Iu c4
        replace Im := ints_below Im c4
        replace Id := ints_below Id c4
        clear d3
        have Ir := ownsN_ints or
        clear or c4
        go_wp2_with fail
        refine (sameL _ _ _ _ Iu Ir HLu.out).mono ?_
        rintro e v5 ⟨rfl, c5⟩
        have d5 := d4.trans (c5.mono d4.size)
        replace Ia := ints_below Ia c5
        replace Ib := ints_below Ib c5
        replace Iu := ints_below Iu c5
        replace Im := ints_below Im c5
        replace Id := ints_below Id c5
        replace Ir := ints_below Ir c5
        clear d4 c5
        clear Ir
        go_wp2_with fail
        refine (specMeet _ _ a b _ Ia Ib HLA.out HLB.out).mono ?_
        rintro e v6 ⟨r, rfl, or, c6⟩
        have d6 := d5.trans (c6.mono d5.size)
        replace Ia := ints_below Ia c6
        replace Ib := ints_below Ib c6
        replace Iu := ints_below Iu c6
        replace Im := ints_below Im c6
        replace Id := ints_below Id c6
        clear d5
        have Ir := ownsN_ints or
        clear or c6
        go_wp2_with fail
        refine (sameL _ _ _ _ Im Ir HLm.out).mono ?_
        rintro e v7 ⟨rfl, c7⟩
        have d7 := d6.trans (c7.mono d6.size)
        replace Ia := ints_below Ia c7
        replace Ib := ints_below Ib c7
        replace Iu := ints_below Iu c7
        replace Im := ints_below Im c7
        replace Id := ints_below Id c7
        replace Ir := ints_below Ir c7
        clear d6 c7
        clear Ir
        go_wp2_with fail
        refine (specSub _ _ a b _ Ia Ib HLA.out HLB.out).mono ?_
        rintro e v8 ⟨r, rfl, or, c8⟩
        have d8 := d7.trans (c8.mono d7.size)
        replace Ia := ints_below Ia c8
        replace Ib := ints_below Ib c8
        replace Iu := ints_below Iu c8
        replace Im := ints_below Im c8
        replace Id := ints_below Id c8
        clear d7
        have Ir := ownsN_ints or
        clear or c8
        go_wp2_with fail
        refine (sameL _ _ _ _ Id Ir HLd.out).mono ?_
        rintro e v9 ⟨rfl, c9⟩
        have d9 := d8.trans (c9.mono d8.size)
        replace Ia := ints_below Ia c9
        replace Ib := ints_below Ib c9
        replace Iu := ints_below Iu c9
        replace Im := ints_below Im c9
        replace Id := ints_below Id c9
        replace Ir := ints_below Ir c9
        clear d8 c9
        clear Ir
        go_wp2_with fail
        refine (implIsSet _ a _ Ia HLA.out).mono ?_
        rintro e v10 ⟨rfl, c10⟩
        have d10 := d9.trans (c10.mono d9.size)
        replace Ia := ints_below Ia c10
        replace Ib := ints_below Ib c10
        replace Iu := ints_below Iu c10
        replace Im := ints_below Im c10
        replace Id := ints_below Id c10
        clear d9 c10
        go_wp2_with fail
        refine (specIsSet _ a _ Ia HLA.out).mono ?_
        rintro e v11 ⟨rfl, c11⟩
        have d11 := d10.trans (c11.mono d10.size)
        replace Ia := ints_below Ia c11
        replace Ib := ints_below Ib c11
        replace Iu := ints_below Iu c11
        replace Im := ints_below Im c11
        replace Id := ints_below Id c11
        clear d10 c11
        go_wp2_with fail
        refine (implFormatSet _ a _ Ia (HZ.out.on d11) HLA.out).mono ?_
        rintro e v12 ⟨rfl, c12⟩
        have d12 := d11.trans (c12.mono d11.size)
        replace Ia := ints_below Ia c12
        replace Ib := ints_below Ib c12
        replace Iu := ints_below Iu c12
        replace Im := ints_below Im c12
        replace Id := ints_below Id c12
        clear d11 c12
        go_wp2_with fail
        refine (HPAR.out _ (HT.out.on d12) (HZ.out.on d12)).mono ?_
        rintro e v13 ⟨xx, rfl, ox, c13⟩
        have d13 := d12.trans (c13.mono d12.size)
        replace Ia := ints_below Ia c13
        replace Ib := ints_below Ib c13
        replace Iu := ints_below Iu c13
        replace Im := ints_below Im c13
        replace Id := ints_below Id c13
        clear d12
        have Ix := ownsN_ints ox
        clear ox c13
        go_wp2_with fail
        refine (HFMT.out _ _ Ia).mono ?_
        rintro e v14 ⟨rfl, c14⟩
        have d14 := d13.trans (c14.mono d13.size)
        replace Ia := ints_below Ia c14
        replace Ib := ints_below Ib c14
        replace Iu := ints_below Iu c14
        replace Im := ints_below Im c14
        replace Id := ints_below Id c14
        replace Ix := ints_below Ix c14
        clear d13 c14
        have heq := HEQ.out
        go_wp2_with fail
        refine (specIsSet _ a _ Ia HLA.out).mono ?_
        rintro e v15 ⟨rfl, c15⟩
        have d15 := d14.trans (c15.mono d14.size)
        replace Ia := ints_below Ia c15
        replace Ib := ints_below Ib c15
        replace Iu := ints_below Iu c15
        replace Im := ints_below Im c15
        replace Id := ints_below Id c15
        replace Ix := ints_below Ix c15
        clear d14 c15
        rw [HSA.out]
        go_wp2_with fail
        refine (sameL _ _ _ _ Ix Ia HLA.out).mono ?_
        rintro e v16 ⟨rfl, c16⟩
        have d16 := d15.trans (c16.mono d15.size)
        replace Ia := ints_below Ia c16
        replace Ib := ints_below Ib c16
        replace Iu := ints_below Iu c16
        replace Im := ints_below Im c16
        replace Id := ints_below Id c16
        replace Ix := ints_below Ix c16
        clear d15 c16
        clear Ix heq
        go_wp2_with fail
        refine (specIsSet _ a _ Ia HLA.out).mono ?_
        rintro e v17 ⟨rfl, c17⟩
        have d17 := d16.trans (c17.mono d16.size)
        replace Ia := ints_below Ia c17
        replace Ib := ints_below Ib c17
        replace Iu := ints_below Iu c17
        replace Im := ints_below Im c17
        replace Id := ints_below Id c17
        clear d16 c17
        rw [HSA.out]
        go_wp2_with fail
        refine (specIsSet _ b _ Ib HLB.out).mono ?_
        rintro e v18 ⟨rfl, c18⟩
        have d18 := d17.trans (c18.mono d17.size)
        replace Ia := ints_below Ia c18
        replace Ib := ints_below Ib c18
        replace Iu := ints_below Iu c18
        replace Im := ints_below Im c18
        replace Id := ints_below Id c18
        clear d17 c18
        rw [HSB.out]
        go_wp2_with fail
        go_loopw [11] (fun i wr => ∃ k : Nat, k ≤ 24 ∧ i = .int .i64 k ∧ Ints wr (.slice pa a.length qa) a ∧ Ints wr (.slice pb b.length qb) b ∧ Ints wr (.slice pu (uniteL a b).length qu) (uniteL a b) ∧ Ints wr (.slice pm (meetL a b).length qm) (meetL a b) ∧ Ints wr (.slice pd (subL a b).length qd) (subL a b) ∧ Below wx.heap.size wx wr) (fun i _ => 24 - (intOf i).toNat)
        case atStart => exact ⟨0, Nat.zero_le _, rfl, Ia, Ib, Iu, Im, Id, d18⟩
        case round =>
          clear Ia Ib Iu Im Id d18
          obtain ⟨k, hk, rfl, Ia, Ib, Iu, Im, Id, bz⟩ := hrel
          by_cases hlt : k < 24
          · have m1 := MU.out k hlt
            have m2 := MM.out (k : Int)
            have m3 := MD.out (k : Int)
            have HA := Lib.hid (fun v w h => implHas v a (k : Int) w h HLA.out)
            have HB := Lib.hid (fun v w h => implHas v b (k : Int) w h HLB.out)
            have HU := Lib.hid (fun v w h => hasL v (uniteL a b) (k : Int) w h HLu.out)
            have HM := Lib.hid (fun v w h => hasL v (meetL a b) (k : Int) w h HLm.out)
            have HDD := Lib.hid (fun v w h => hasL v (subL a b) (k : Int) w h HLd.out)
            rw [m1] at HU
            rw [m2] at HM
            rw [m3] at HDD
            clear m1 m2 m3
            generalize decide ((k : Int) ∈ a) = x at *
            generalize decide ((k : Int) ∈ b) = y at *
            cases x <;> cases y
            all_goals
              simp only [Bool.or_true, Bool.or_false, Bool.and_true, Bool.and_false, Bool.not_true, Bool.not_false, Bool.or_self, Bool.and_self] at HU HM HDD
              go_wp2_with fail
              refine (HA.out _ _ Ia).mono ?_
              rintro e v101 ⟨rfl, c101⟩
              have d101 := bz.trans (c101.mono bz.size)
              replace Ia := ints_below Ia c101
              replace Ib := ints_below Ib c101
              replace Iu := ints_below Iu c101
              replace Im := ints_below Im c101
              replace Id := ints_below Id c101
              clear bz c101
              go_wp2_with fail
              refine (HB.out _ _ Ib).mono ?_
              rintro e v102 ⟨rfl, c102⟩
              have d102 := d101.trans (c102.mono d101.size)
              replace Ia := ints_below Ia c102
              replace Ib := ints_below Ib c102
              replace Iu := ints_below Iu c102
              replace Im := ints_below Im c102
              replace Id := ints_below Id c102
              clear d101 c102
              go_wp2_with fail
              refine (HU.out _ _ Iu).mono ?_
              rintro e v103 ⟨rfl, c103⟩
              have d103 := d102.trans (c103.mono d102.size)
              replace Ia := ints_below Ia c103
              replace Ib := ints_below Ib c103
              replace Iu := ints_below Iu c103
              replace Im := ints_below Im c103
              replace Id := ints_below Id c103
              clear d102 c103
              go_wp2_with fail
              refine (HM.out _ _ Im).mono ?_
              rintro e v104 ⟨rfl, c104⟩
              have d104 := d103.trans (c104.mono d103.size)
              replace Ia := ints_below Ia c104
              replace Ib := ints_below Ib c104
              replace Iu := ints_below Iu c104
              replace Im := ints_below Im c104
              replace Id := ints_below Id c104
              clear d103 c104
              go_wp2_with fail
              refine (HDD.out _ _ Id).mono ?_
              rintro e v105 ⟨rfl, c105⟩
              have d105 := d104.trans (c105.mono d104.size)
              replace Ia := ints_below Ia c105
              replace Ib := ints_below Ib c105
              replace Iu := ints_below Iu c105
              replace Im := ints_below Im c105
              replace Id := ints_below Id c105
              clear d104 c105
              go_wp2
              go_roundw
              case rel => exact ⟨k + 1, by omega, by go_num, Ia, Ib, Iu, Im, Id, d105⟩
              case measure => simp [intOf]; omega
          · obtain rfl : k = 24 := by omega
            have hlen : ((uniteL a b).length : Int) + ((meetL a b).length : Int) = (a.length : Int) + (b.length : Int) := by have := LU.out; omega
            have hLu := HLu.out
            have hLm := HLm.out
            have hLa := HLA.out
            have hLb := HLB.out
            have HIS := Lib.hid (fun v w h => implIsSet v (uniteL a b) w h HLu.out)
            rw [SU.out] at HIS
            generalize (uniteL a b).length = lu at *
            generalize (meetL a b).length = lm at *
            generalize hlaa : a.length = la at *
            generalize hlbb : b.length = lb at *
            have hs1 : ((lu : Int) + (lm : Int) == (la : Int) + (lb : Int)) = true := by rw [hlen]; simp
            go_wp2_with fail
            refine (HIS.out _ _ Iu).mono ?_
            rintro e v106 ⟨rfl, c106⟩
            have d106 := bz.trans (c106.mono bz.size)
            replace Ia := ints_below Ia c106
            replace Ib := ints_below Ib c106
            replace Iu := ints_below Iu c106
            replace Im := ints_below Im c106
            replace Id := ints_below Id c106
            clear bz c106
            go_wp2
            go_ret
            exact ⟨rfl, d106⟩
  · have hbig : decide ((1048576 : Int) < (xs.length : Int)) = true := decide_eq_true (by omega)
    have HBIG := Lib.hid (bigL p cap xs.length w)
    rw [hbig] at HBIG
    clear hcode hby hl hbig hZ hT
    generalize xs.length = n at *
    go_enter Tryd.func3, Tryd.ntmps3
    go_wp2_with fail
    refine HBIG.out.mono ?_
    rintro e wx ⟨rfl, rfl⟩
    go_wp2
    go_ret
    exact ⟨rfl, Below.refl _ _⟩
end Go.Proofs.YtecfhgfjfnjagaaDoor
