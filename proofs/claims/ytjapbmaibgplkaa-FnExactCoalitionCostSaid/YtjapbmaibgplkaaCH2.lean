/-
  Texts of the proof, merged: ChgSpec, TyApp, Raw, VerBr, Rec, RecLim, RecEq, RowIsP, VerP1, VerP2, HasSeg, QueryIsP, MaskMath, MaskWalks, EngP2, EngP3, ChgP, ChgP2, ChgFit, LawSharesOf, OpenInts, OpnT, OCharge, LawWorkDone, LawTotalWork, OChargeS, LawTenantCharge.
-/
import Derived.Test.YtjapbmaibgplkaaCH1
import Derived.Maps.AppendAt
import Derived.Deep.Upon
import Derived.Deep.Slices
import Derived.Laws.CopyOwn
import Derived.Lib.MinMax
import Derived.Laws.StructEq
import Derived.Laws.BitsLemmas
import Derived.Deep.RegionHeld3
import Derived.ProofKit
import Derived.OpenShut
import Derived.Carry
import Derived.Lib.SmallJoins
namespace Go.Proofs.Ytjapbmaibgplkaa
open Go.RowKit
set_option linter.unusedVariables false
set_option linter.unusedSimpArgs false
set_option maxHeartbeats 8000000 in
set_option maxRecDepth 100000 in
theorem specWorkDone (sg ba : Int) (v2 v3 v4 : Value) (x2 x3 x4 : List Int) (w : World) (h2 : SlR tInt w v2 x2) (h3 : SlR tInt w v3 x3) (h4 : SlR tInt w v4 x4) (n2 : x2.length ≤ 1048576) (n3 : x3.length ≤ 1048576) (n4 : x4.length ≤ 1048576) :
    Calls Try.prog 17 #[.agg #[.int .i64 sg, .int .i64 ba, v2, v3, v4]] w (fun e w' => e = .returned (.int .i64 (workX (sg, ba, x2, x3, x4))) ∧ Below w.heap.size w w') := by
  obtain ⟨p2, c2, rfl⟩ := slR_len h2
  have H2 := Lib.hid h2
  obtain ⟨p3, c3, rfl⟩ := slR_len h3
  have H3 := Lib.hid h3
  obtain ⟨p4, c4, rfl⟩ := slR_len h4
  have H4 := Lib.hid h4
  clear h2 h3 h4
  have d := Lib.hid (show Below w.heap.size w (w.alloc (.cells #[.int .i64 sg, .int .i64 ba, .slice p2 x2.length c2, .slice p3 x3.length c3, .slice p4 x4.length c4] 27)) from ((Below.refl _ w).alloc (Nat.le_refl _) _))
  have B0 : Hid ((w.alloc (.cells #[.int .i64 sg, .int .i64 ba, .slice p2 x2.length c2, .slice p3 x3.length c3, .slice p4 x4.length c4] 27)).heap[w.heap.size]? = some (.cells #[.int .i64 sg, .int .i64 ba, .slice p2 x2.length c2, .slice p3 x3.length c3, .slice p4 x4.length c4] 27 (0, 0))) := Lib.hid (by
    exact heap_alloc_new w _)
  have YW : Hid (w.heap.size + 1 ≤ (w.alloc (.cells #[.int .i64 sg, .int .i64 ba, .slice p2 x2.length c2, .slice p3 x3.length c3, .slice p4 x4.length c4] 27)).heap.size) := Lib.hid (by simp [World.size_alloc])
  go_enter Try.func17, Try.ntmps17
  go_wp2_with fail
  generalize (w.alloc (.cells #[.int .i64 sg, .int .i64 ba, .slice p2 x2.length c2, .slice p3 x3.length c3, .slice p4 x4.length c4] 27)) = W at *
  refine (specIsCharge sg ba (.slice p2 x2.length c2) (.slice p3 x3.length c3) (.slice p4 x4.length c4) x2 x3 x4 W (slR_below tInt_law H2.out d.out) (slR_below tInt_law H3.out d.out) (slR_below tInt_law H4.out d.out) n2 n3 n4).mono ?_
  rintro e W1 ⟨rfl, c⟩
  replace B0 := Lib.hid ((c.block w.heap.size (Array.getElem?_eq_some_iff.1 B0.out).1).trans B0.out)
  replace d := Lib.hid (d.out.trans (c.mono d.out.size))
  have Z_W1 := Lib.hid (show W.heap.size ≤ W1.heap.size from c.size)
  clear c
  rcases Bool.eq_false_or_eq_true (chargeB (sg, ba, x2, x3, x4)) with hch | hch
  rotate_left
  · rw [hch]
    have HF := Lib.hid (workX_no hch)
    clear hch
    have p_B0_0 := (cell_of_row W1 _ 0 _ _ _ B0.out).trans (show _ = some (Value.int .i64 sg) from rfl)
    have p_B0_1 := (cell_of_row W1 _ 1 _ _ _ B0.out).trans (show _ = some (Value.int .i64 ba) from rfl)
    have p_B0_2 := (cell_of_row W1 _ 2 _ _ _ B0.out).trans (show _ = some (Value.slice p2 x2.length c2) from rfl)
    have p_B0_3 := (cell_of_row W1 _ 3 _ _ _ B0.out).trans (show _ = some (Value.slice p3 x3.length c3) from rfl)
    have p_B0_4 := (cell_of_row W1 _ 4 _ _ _ B0.out).trans (show _ = some (Value.slice p4 x4.length c4) from rfl)
    go_wp2
    clear p_B0_0 p_B0_1 p_B0_2 p_B0_3 p_B0_4
    go_ret
    exact ⟨ret_n HF.out.symm, d.out⟩
  rw [hch]
  have HCH := Lib.hid hch
  have HP := Lib.hid (charge_iff hch).2.1
  clear hch
  have p_B0_0 := (cell_of_row W1 _ 0 _ _ _ B0.out).trans (show _ = some (Value.int .i64 sg) from rfl)
  have p_B0_1 := (cell_of_row W1 _ 1 _ _ _ B0.out).trans (show _ = some (Value.int .i64 ba) from rfl)
  have p_B0_2 := (cell_of_row W1 _ 2 _ _ _ B0.out).trans (show _ = some (Value.slice p2 x2.length c2) from rfl)
  have p_B0_3 := (cell_of_row W1 _ 3 _ _ _ B0.out).trans (show _ = some (Value.slice p3 x3.length c3) from rfl)
  have p_B0_4 := (cell_of_row W1 _ 4 _ _ _ B0.out).trans (show _ = some (Value.slice p4 x4.length c4) from rfl)
  go_wp2
  go_loop [3, 4] (fun n i => ∃ (k : Nat) (s : Int), k ≤ x4.length ∧ i = .int .i64 k ∧ n = .int .i64 s ∧ Hid (s = ba + accN (rowI (sg, ba, x2, x3, x4)) k)) (fun _ i => x4.length - (intOf i).toNat)
  case atStart => exact ⟨0, ba, Nat.zero_le _, rfl, rfl, Lib.hid (Int.add_zero ba).symm⟩
  case round =>
    obtain ⟨k, s, hk, rfl, rfl, hs⟩ := hrel
    have s1 : 0 ≤ s ∧ s ≤ 100 := by
      have q1 := rows_sum HCH.out hk
      have q2 := HP.out
      have q3 := hs.out
      obtain ⟨⟨_, q4⟩, ⟨_, q5⟩, _, q6, q7⟩ := q2
      simp only at q4 q5 q6 q7 q1 hk
      omega
    obtain ⟨s1, s2⟩ := s1
    by_cases hlt : k < x4.length
    · have i1 : (0 : Int) ≤ (k : Int) := by omega
      have i2 : (k : Int) < (x4.length : Int) := by omega
      have HY := chg_row (x := (sg, ba, x2, x3, x4)) HCH.out hlt
      have hba : ba ≤ 4 := HP.out.2.2.2.2
      have HN : Hid (s + x4.getD k 0 = ba + accN (rowI (sg, ba, x2, x3, x4)) (k + 1)) := Lib.hid (by
        have := hs.out
        show s + x4.getD k 0 = ba + (accN (rowI (sg, ba, x2, x3, x4)) k + x4.getD k 0)
        omega)
      simp only at HY
      obtain ⟨y1, y2⟩ := HY
      clear hs
      obtain ⟨be0, offe0, cape0, hv, hbl, hc⟩ := ints_cell (slR_ints (slR_below tInt_law H4.out d.out)) (by omega)
      simp only [Value.slice.injEq] at hv
      obtain ⟨rfl, _, rfl⟩ := hv
      have e0 := hc k (by omega)
      clear hc hbl
      generalize x4.getD k 0 = y at *
      have y3 : y ≤ 100 := by omega
      clear y2 hba
      go_wp2
      go_round
      case rel => exact ⟨k + 1, s + y, by omega, by go_num, rfl, HN⟩
      case measure => simp [intOf]; omega
    · obtain rfl : k = x4.length := by omega
      have HT : Hid (s = workX (sg, ba, x2, x3, x4)) := Lib.hid (by rw [workX_yes HCH.out]; exact hs.out)
      clear hs
      go_wp2
      go_ret
      exact ⟨ret_n HT.out, d.out⟩
theorem workX_bd72 (x : ChargeD) : 0 ≤ workX x ∧ workX x ≤ 72 := by have := workX_bd x; omega
set_option maxHeartbeats 8000000 in
set_option maxRecDepth 100000 in
theorem specTotalWork (v : Value) (l : List ChargeD) (w : World) (h : SlR tCharge w v l) (hs : zL tCharge l ≤ 1048576) :
    Calls Try.prog 27 #[v] w (fun e w' => e = .returned (.int .i64 (totalL workX l)) ∧ Below w.heap.size w w') := by
  have hlen := zL_len hs
  have HS := Lib.hid hs
  have H := Lib.hid h
  obtain ⟨a, cap, rfl⟩ := slR_len h
  clear h hs
  go_enter Try.func27, Try.ntmps27
  go_wp2
  go_loopw [3, 4] (fun n i wr => ∃ (k : Nat) (s : Int), k ≤ l.length ∧ i = .int .i64 k ∧ n = .int .i64 s ∧ Hid (s = totalTo workX l k) ∧ Below w.heap.size w wr) (fun _ i _ => l.length - (intOf i).toNat)
  case atStart => exact ⟨0, 0, Nat.zero_le _, rfl, rfl, Lib.hid rfl, Below.refl _ _⟩
  case round =>
    obtain ⟨k, s, hk, rfl, rfl, hsum, c⟩ := hrel
    have cw := Lib.hid c
    have s1 := totalTo_bd (f := workX) workX_bd72 l k
    rw [← hsum.out] at s1
    obtain ⟨s1, s2'⟩ := s1
    have s2 : s ≤ 100000000 := by omega
    clear s2'
    by_cases hlt : k < l.length
    · have i1 : (0 : Int) ≤ (k : Int) := by omega
      have i2 : (k : Int) < (l.length : Int) := by omega
      have hz := zL_at HS.out hlt
      change tCharge.sz (l.getD k x0D) ≤ 1048576 at hz
      have HN : Hid (s + workX (l.getD k x0D) = totalTo workX l (k + 1)) := Lib.hid (by rw [totalTo_succ, hsum.out])
      obtain ⟨b, off, cap', p2, c2, p3, c3, p4, c4, hv, hbl, e0, e1, e2, e3, e4, s2, s3, s4⟩ := chg_at (slR_below tCharge_law H.out c) hlt
      simp only [Value.slice.injEq] at hv
      obtain ⟨rfl, _, rfl⟩ := hv
      have HBL := Lib.hid (show b < wr.heap.size from hbl)
      generalize l.getD k x0D = x at *
      obtain ⟨sg, ba, x2, x3, x4⟩ := x
      rw [tCharge_sz] at hz
      dsimp only at *
      clear hbl
      have HC := Lib.hid (specWorkDone sg ba (.slice p2 x2.length c2) (.slice p3 x3.length c3) (.slice p4 x4.length c4) x2 x3 x4 wr s2 s3 s4 (zL_len (show zL tInt x2 ≤ 1048576 by omega)) (zL_len (show zL tInt x3 ≤ 1048576 by omega)) (zL_len (show zL tInt x4 ≤ 1048576 by omega)))
      have hy := workX_bd (sg, ba, x2, x3, x4)
      clear hsum c s2 s3 s4 hz
      generalize workX (sg, ba, x2, x3, x4) = y at *
      obtain ⟨y1, y2⟩ := hy
      go_wp2_with fail
      refine HC.out.mono ?_
      rintro e w2 ⟨rfl, c2⟩
      have cw2 := Lib.hid (cw.out.trans (c2.mono cw.out.size))
      clear c2 HC e0 e1 e2 e3 e4
      go_wp2
      go_roundw
      case rel => exact ⟨k + 1, s + y, by omega, by go_num, rfl, HN, cw2.out⟩
      case measure => simp [intOf]; omega
    · obtain rfl : k = l.length := by omega
      have HT : Hid (s = totalL workX l) := Lib.hid hsum.out
      clear hsum c
      go_wp2
      go_ret
      exact ⟨ret_n HT.out, cw.out⟩
set_option maxHeartbeats 8000000 in
set_option maxRecDepth 100000 in
theorem specSharesOf (sg ba : Int) (v2 v3 v4 : Value) (x2 x3 x4 : List Int) (w : World) (h2 : SlR tInt w v2 x2) (h3 : SlR tInt w v3 x3) (h4 : SlR tInt w v4 x4) (n2 : x2.length ≤ 1048576) (n3 : x3.length ≤ 1048576) (n4 : x4.length ≤ 1048576) :
    Calls Try.prog 9 #[.agg #[.int .i64 sg, .int .i64 ba, v2, v3, v4]] w (FreshInts w (sharesX (sg, ba, x2, x3, x4))) := by
  obtain ⟨p2, c2, rfl⟩ := slR_len h2
  have H2 := Lib.hid h2
  obtain ⟨p3, c3, rfl⟩ := slR_len h3
  have H3 := Lib.hid h3
  obtain ⟨p4, c4, rfl⟩ := slR_len h4
  have H4 := Lib.hid h4
  clear h2 h3 h4
  have YE : Hid ((w.alloc (.cells #[.int .i64 sg, .int .i64 ba, .slice p2 x2.length c2, .slice p3 x3.length c3, .slice p4 x4.length c4] 27)).heap.size = w.heap.size + 1) := Lib.hid (by simp [World.size_alloc])
  have d := Lib.hid (show Below w.heap.size w (w.alloc (.cells #[.int .i64 sg, .int .i64 ba, .slice p2 x2.length c2, .slice p3 x3.length c3, .slice p4 x4.length c4] 27)) from ((Below.refl _ w).alloc (Nat.le_refl _) _))
  have B0 : Hid ((w.alloc (.cells #[.int .i64 sg, .int .i64 ba, .slice p2 x2.length c2, .slice p3 x3.length c3, .slice p4 x4.length c4] 27)).heap[w.heap.size]? = some (.cells #[.int .i64 sg, .int .i64 ba, .slice p2 x2.length c2, .slice p3 x3.length c3, .slice p4 x4.length c4] 27 (0, 0))) := Lib.hid (by
    exact heap_alloc_new w _)
  have YW : Hid (w.heap.size + 1 ≤ (w.alloc (.cells #[.int .i64 sg, .int .i64 ba, .slice p2 x2.length c2, .slice p3 x3.length c3, .slice p4 x4.length c4] 27)).heap.size) := Lib.hid (by simp [World.size_alloc])
  rcases Bool.eq_false_or_eq_true (chargeB (sg, ba, x2, x3, x4)) with hch | hch
  rotate_left
  · have HCH := Lib.hid hch
    rw [sharesX_no hch]
    clear hch
    go_enter Try.func9, Try.ntmps9
    go_wp2
    generalize (w.alloc (.cells #[.int .i64 sg, .int .i64 ba, .slice p2 x2.length c2, .slice p3 x3.length c3, .slice p4 x4.length c4] 27)) = W at *
    go_loopw [3, 5] (fun v i wr => i = .int .i64 0 ∧ OwnsN wr (w.heap.size + 1) v [] ∧ Below (w.heap.size + 1) W wr) (fun _ i _ => x2.length - (intOf i).toNat)
    case atStart => exact ⟨rfl, (by have q := ownsN_lit W _ YW.out #[] 0 [] rfl rfl (by decide); rw [YE.out] at q; exact q), (Below.refl _ _).alloc YW.out _⟩
    case round =>
      obtain ⟨rfl, hown, c⟩ := hrel
      replace B0 := Lib.hid ((c.block w.heap.size (Nat.lt_succ_self _)).trans B0.out)
      have Z_wr := Lib.hid (Nat.le_trans YW.out c.size)
      replace d := Lib.hid (d.out.trans (c.mono (Nat.le_succ _)))
      have CW := Lib.hid c
      clear c
      by_cases hlt : 0 < x2.length
      · have i2 : (0 : Int) < (x2.length : Int) := by omega
        have p_B0_0 := (cell_of_row wr _ 0 _ _ _ B0.out).trans (show _ = some (Value.int .i64 sg) from rfl)
        have p_B0_1 := (cell_of_row wr _ 1 _ _ _ B0.out).trans (show _ = some (Value.int .i64 ba) from rfl)
        have p_B0_2 := (cell_of_row wr _ 2 _ _ _ B0.out).trans (show _ = some (Value.slice p2 x2.length c2) from rfl)
        have p_B0_3 := (cell_of_row wr _ 3 _ _ _ B0.out).trans (show _ = some (Value.slice p3 x3.length c3) from rfl)
        have p_B0_4 := (cell_of_row wr _ 4 _ _ _ B0.out).trans (show _ = some (Value.slice p4 x4.length c4) from rfl)
        go_wp2_with fail
        clear p_B0_0 p_B0_1 p_B0_2 p_B0_3 p_B0_4
        refine (specIsCharge sg ba (.slice p2 x2.length c2) (.slice p3 x3.length c3) (.slice p4 x4.length c4) x2 x3 x4 wr (slR_below tInt_law H2.out d.out) (slR_below tInt_law H3.out d.out) (slR_below tInt_law H4.out d.out) n2 n3 n4).mono ?_
        rintro e W1 ⟨rfl, c⟩
        rw [HCH.out]
        replace hown := ownsN_below hown c
        replace B0 := Lib.hid ((c.block w.heap.size (Array.getElem?_eq_some_iff.1 B0.out).1).trans B0.out)
        replace d := Lib.hid (d.out.trans (c.mono d.out.size))
        have Z_W1 := Lib.hid (show wr.heap.size ≤ W1.heap.size from c.size)
        clear c
        have p_B0_0 := (cell_of_row W1 _ 0 _ _ _ B0.out).trans (show _ = some (Value.int .i64 sg) from rfl)
        have p_B0_1 := (cell_of_row W1 _ 1 _ _ _ B0.out).trans (show _ = some (Value.int .i64 ba) from rfl)
        have p_B0_2 := (cell_of_row W1 _ 2 _ _ _ B0.out).trans (show _ = some (Value.slice p2 x2.length c2) from rfl)
        have p_B0_3 := (cell_of_row W1 _ 3 _ _ _ B0.out).trans (show _ = some (Value.slice p3 x3.length c3) from rfl)
        have p_B0_4 := (cell_of_row W1 _ 4 _ _ _ B0.out).trans (show _ = some (Value.slice p4 x4.length c4) from rfl)
        go_wp2
        clear p_B0_0 p_B0_1 p_B0_2 p_B0_3 p_B0_4
        go_ret
        exact ⟨_, rfl, row_low hown (Nat.le_succ _), d.out⟩
      · have i2 : decide ((0 : Int) < (x2.length : Int)) = false := decide_eq_false (by omega)
        have i3 : decide (0 < x2.length) = false := decide_eq_false hlt
        clear hlt
        have p_B0_0 := (cell_of_row wr _ 0 _ _ _ B0.out).trans (show _ = some (Value.int .i64 sg) from rfl)
        have p_B0_1 := (cell_of_row wr _ 1 _ _ _ B0.out).trans (show _ = some (Value.int .i64 ba) from rfl)
        have p_B0_2 := (cell_of_row wr _ 2 _ _ _ B0.out).trans (show _ = some (Value.slice p2 x2.length c2) from rfl)
        have p_B0_3 := (cell_of_row wr _ 3 _ _ _ B0.out).trans (show _ = some (Value.slice p3 x3.length c3) from rfl)
        have p_B0_4 := (cell_of_row wr _ 4 _ _ _ B0.out).trans (show _ = some (Value.slice p4 x4.length c4) from rfl)
        go_wp2
        clear p_B0_0 p_B0_1 p_B0_2 p_B0_3 p_B0_4
        go_ret
        exact ⟨_, rfl, row_low hown (Nat.le_succ _), d.out⟩
  have HCH := Lib.hid hch
  have HP := Lib.hid (charge_iff hch).2.1
  have HSL := Lib.hid (sharesX_yes hch)
  rw [HSL.out]
  have hdv := base_div (x := (sg, ba, x2, x3, x4)) hch
  dsimp only at hdv
  have hba : 0 ≤ ba ∧ ba ≤ 4 := HP.out.2.2.2
  have hl8 : 1 ≤ x2.length ∧ x2.length ≤ 8 := HP.out.1
  have HL4 : Hid (x4.length = x2.length) := Lib.hid HP.out.2.1.2
  clear hch
  have t1 : Hid (ba.tdiv (x2.length : Int) = ba / (x2.length : Int)) := Lib.hid (Int.tdiv_eq_ediv_of_nonneg hba.1)
  have t2 : Hid (ba.tmod (x2.length : Int) = ba % (x2.length : Int)) := Lib.hid (Int.tmod_eq_emod_of_nonneg hba.1)
  obtain ⟨q, hq⟩ : ∃ q, q = ba / (x2.length : Int) := ⟨_, rfl⟩
  obtain ⟨r, hr⟩ : ∃ r, r = ba % (x2.length : Int) := ⟨_, rfl⟩
  rw [← hq] at t1 hdv
  rw [← hr] at t2 hdv
  have HQ := Lib.hid hq
  have HR := Lib.hid hr
  clear hq hr
  obtain ⟨q1, q2, r1, r2⟩ := hdv
  obtain ⟨a1, a2⟩ := hba
  obtain ⟨l1, l2⟩ := hl8
  go_enter Try.func9, Try.ntmps9
  go_wp2
  generalize (w.alloc (.cells #[.int .i64 sg, .int .i64 ba, .slice p2 x2.length c2, .slice p3 x3.length c3, .slice p4 x4.length c4] 27)) = W at *
  go_loopw [3, 5] (fun v i wr => ∃ k : Nat, k ≤ x2.length ∧ i = .int .i64 k ∧ OwnsN wr (w.heap.size + 1) v (sharesTo (sg, ba, x2, x3, x4) k) ∧ Below (w.heap.size + 1) W wr) (fun _ i _ => x2.length - (intOf i).toNat)
  case atStart => exact ⟨0, Nat.zero_le _, rfl, (by have q := ownsN_lit W _ YW.out #[] 0 [] rfl rfl (by decide); rw [YE.out] at q; exact q), (Below.refl _ _).alloc YW.out _⟩
  case round =>
    obtain ⟨k, hk, rfl, hown, c⟩ := hrel
    replace B0 := Lib.hid ((c.block w.heap.size (Nat.lt_succ_self _)).trans B0.out)
    have Z_wr := Lib.hid (Nat.le_trans YW.out c.size)
    replace d := Lib.hid (d.out.trans (c.mono (Nat.le_succ _)))
    have CW := Lib.hid c
    clear c
    by_cases hlt : k < x2.length
    · have i1 : (0 : Int) ≤ (k : Int) := by omega
      have i2 : (k : Int) < (x2.length : Int) := by omega
      have p_B0_0 := (cell_of_row wr _ 0 _ _ _ B0.out).trans (show _ = some (Value.int .i64 sg) from rfl)
      have p_B0_1 := (cell_of_row wr _ 1 _ _ _ B0.out).trans (show _ = some (Value.int .i64 ba) from rfl)
      have p_B0_2 := (cell_of_row wr _ 2 _ _ _ B0.out).trans (show _ = some (Value.slice p2 x2.length c2) from rfl)
      have p_B0_3 := (cell_of_row wr _ 3 _ _ _ B0.out).trans (show _ = some (Value.slice p3 x3.length c3) from rfl)
      have p_B0_4 := (cell_of_row wr _ 4 _ _ _ B0.out).trans (show _ = some (Value.slice p4 x4.length c4) from rfl)
      go_wp2_with fail
      clear p_B0_0 p_B0_1 p_B0_2 p_B0_3 p_B0_4
      refine (specIsCharge sg ba (.slice p2 x2.length c2) (.slice p3 x3.length c3) (.slice p4 x4.length c4) x2 x3 x4 wr (slR_below tInt_law H2.out d.out) (slR_below tInt_law H3.out d.out) (slR_below tInt_law H4.out d.out) n2 n3 n4).mono ?_
      rintro e W1 ⟨rfl, c⟩
      rw [HCH.out]
      replace hown := ownsN_below hown c
      have HC1 := Lib.hid c
      replace B0 := Lib.hid ((c.block w.heap.size (Array.getElem?_eq_some_iff.1 B0.out).1).trans B0.out)
      replace d := Lib.hid (d.out.trans (c.mono d.out.size))
      have Z_W1 := Lib.hid (show wr.heap.size ≤ W1.heap.size from c.size)
      clear c
      have i3 : k < x4.length := by have := HL4.out; omega
      have i4 : (k : Int) < (x4.length : Int) := by omega
      have HY := chg_row (x := (sg, ba, x2, x3, x4)) HCH.out i3
      dsimp only at HY
      obtain ⟨be0, offe0, cape0, hv, hbl, hc⟩ := ints_cell (slR_ints (slR_below tInt_law H4.out d.out)) (by omega)
      simp only [Value.slice.injEq] at hv
      obtain ⟨rfl, _, rfl⟩ := hv
      have e0 := hc k (by omega)
      clear hc hbl
      have HSH : Hid (q + x4.getD k 0 + (if (k : Int) < r then 1 else 0) = shareI (sg, ba, x2, x3, x4) k) := Lib.hid (by rw [HQ.out, HR.out]; rfl)
      generalize x4.getD k 0 = y at *
      obtain ⟨y1, y2'⟩ := HY
      have y2 : y ≤ 4 := by omega
      clear y2'
      have g1 := t1.out
      have g2 : IntKind.i64.wrap q = q := IntWalk.i64_in _ (by omega)
      have g3 : IntKind.i64.wrap (q + y) = q + y := IntWalk.i64_in _ (by omega)
      have g4 : ((x2.length : Int) == 0) = false := by rw [beq_eq_false_iff_ne]; omega
      have g5 : ¬ (x2.length : Int) = 0 := by omega
      have g6 : (x2.length = 0) = False := eq_false (by omega)
      have p_B0_0 := (cell_of_row W1 _ 0 _ _ _ B0.out).trans (show _ = some (Value.int .i64 sg) from rfl)
      have p_B0_1 := (cell_of_row W1 _ 1 _ _ _ B0.out).trans (show _ = some (Value.int .i64 ba) from rfl)
      have p_B0_2 := (cell_of_row W1 _ 2 _ _ _ B0.out).trans (show _ = some (Value.slice p2 x2.length c2) from rfl)
      have p_B0_3 := (cell_of_row W1 _ 3 _ _ _ B0.out).trans (show _ = some (Value.slice p3 x3.length c3) from rfl)
      have p_B0_4 := (cell_of_row W1 _ 4 _ _ _ B0.out).trans (show _ = some (Value.slice (some ⟨be0, offe0, none⟩) x4.length c4) from rfl)
      go_wp2_with fail
      go_quiet (fail)
      clear p_B0_0 p_B0_1 p_B0_2 p_B0_3 p_B0_4 g1 g2 g3 g4 g5 g6
      have cq : Below W1.heap.size W1 (W1.drewN nq) := ⟨rfl, rfl, rfl, Nat.le_refl _, fun _ _ => rfl⟩
      replace hown := ownsN_below hown cq
      replace B0 := Lib.hid ((cq.block w.heap.size (Array.getElem?_eq_some_iff.1 B0.out).1).trans B0.out)
      replace d := Lib.hid (d.out.trans (cq.mono d.out.size))
      have CW2 := Lib.hid (CW.out.trans ((show Below wr.heap.size wr (W1.drewN nq) from HC1.out.trans (cq.mono HC1.out.size)).mono Z_wr.out))
      clear cq
      have ZB : w.heap.size + 1 ≤ (W1.drewN nq).heap.size := Nat.le_trans Z_wr.out (Nat.le_trans HC1.out.size (Nat.le_refl _))
      have HZB := Lib.hid ZB
      clear ZB
      generalize W1.drewN nq = Wd at *
      have HLS : Hid ((sharesTo (sg, ba, x2, x3, x4) k).length ≤ 8) := Lib.hid (by rw [sharesTo_len]; omega)
      have HSC := Lib.hid (sharesTo_succ (sg, ba, x2, x3, x4) k)
      generalize sharesTo (sg, ba, x2, x3, x4) k = acc at *
      by_cases hkr : (k : Int) < r
      · rw [if_pos hkr] at HSH
        have g1 := t2.out
        have g2 := HR.out.symm
        have g3 : decide ((k : Int) < r) = true := decide_eq_true hkr
        clear hkr
        have p_B0_0 := (cell_of_row Wd _ 0 _ _ _ B0.out).trans (show _ = some (Value.int .i64 sg) from rfl)
        have p_B0_1 := (cell_of_row Wd _ 1 _ _ _ B0.out).trans (show _ = some (Value.int .i64 ba) from rfl)
        have p_B0_2 := (cell_of_row Wd _ 2 _ _ _ B0.out).trans (show _ = some (Value.slice p2 x2.length c2) from rfl)
        have p_B0_3 := (cell_of_row Wd _ 3 _ _ _ B0.out).trans (show _ = some (Value.slice p3 x3.length c3) from rfl)
        have p_B0_4 := (cell_of_row Wd _ 4 _ _ _ B0.out).trans (show _ = some (Value.slice (some ⟨be0, offe0, none⟩) x4.length c4) from rfl)
        go_wp2_with (at_builtin; refine append_ints rfl (.tmp 38) (.tmp 40) rfl (w.heap.size + 1) _ _ rfl hown HZB.out _ [q + y + 1] 1 _ rfl (by first | rfl | (simp; done)) rfl (by have := HLS.out; simp; omega) ?_)
        intro v' w4 hown4 hb4
        have hb5 := Lib.hid (CW2.out.trans hb4)
        have HO4 : Hid (OwnsN w4 (w.heap.size + 1) v' (sharesTo (sg, ba, x2, x3, x4) (k + 1))) := Lib.hid (by rw [HSC.out, ← HSH.out]; exact hown4)
        clear hown hb4 hown4
        go_wp2
        go_roundw
        case rel => exact ⟨k + 1, by omega, by go_num, HO4.out, hb5.out⟩
        case measure => simp [intOf]; omega
      · rw [if_neg hkr, Int.add_zero] at HSH
        have g1 := t2.out
        have g2 := HR.out.symm
        have g3 : decide ((k : Int) < r) = false := decide_eq_false hkr
        clear hkr
        have p_B0_0 := (cell_of_row Wd _ 0 _ _ _ B0.out).trans (show _ = some (Value.int .i64 sg) from rfl)
        have p_B0_1 := (cell_of_row Wd _ 1 _ _ _ B0.out).trans (show _ = some (Value.int .i64 ba) from rfl)
        have p_B0_2 := (cell_of_row Wd _ 2 _ _ _ B0.out).trans (show _ = some (Value.slice p2 x2.length c2) from rfl)
        have p_B0_3 := (cell_of_row Wd _ 3 _ _ _ B0.out).trans (show _ = some (Value.slice p3 x3.length c3) from rfl)
        have p_B0_4 := (cell_of_row Wd _ 4 _ _ _ B0.out).trans (show _ = some (Value.slice (some ⟨be0, offe0, none⟩) x4.length c4) from rfl)
        go_wp2_with (at_builtin; refine append_ints rfl (.tmp 38) (.tmp 40) rfl (w.heap.size + 1) _ _ rfl hown HZB.out _ [q + y] 1 _ rfl (by first | rfl | (simp; done)) rfl (by have := HLS.out; simp; omega) ?_)
        intro v' w4 hown4 hb4
        have hb5 := Lib.hid (CW2.out.trans hb4)
        have HO4 : Hid (OwnsN w4 (w.heap.size + 1) v' (sharesTo (sg, ba, x2, x3, x4) (k + 1))) := Lib.hid (by rw [HSC.out, ← HSH.out]; exact hown4)
        clear hown hb4 hown4
        go_wp2
        go_roundw
        case rel => exact ⟨k + 1, by omega, by go_num, HO4.out, hb5.out⟩
        case measure => simp [intOf]; omega
    · obtain rfl : k = x2.length := by omega
      have p_B0_0 := (cell_of_row wr _ 0 _ _ _ B0.out).trans (show _ = some (Value.int .i64 sg) from rfl)
      have p_B0_1 := (cell_of_row wr _ 1 _ _ _ B0.out).trans (show _ = some (Value.int .i64 ba) from rfl)
      have p_B0_2 := (cell_of_row wr _ 2 _ _ _ B0.out).trans (show _ = some (Value.slice p2 x2.length c2) from rfl)
      have p_B0_3 := (cell_of_row wr _ 3 _ _ _ B0.out).trans (show _ = some (Value.slice p3 x3.length c3) from rfl)
      have p_B0_4 := (cell_of_row wr _ 4 _ _ _ B0.out).trans (show _ = some (Value.slice p4 x4.length c4) from rfl)
      go_wp2
      clear p_B0_0 p_B0_1 p_B0_2 p_B0_3 p_B0_4
      go_ret
      exact ⟨_, rfl, row_low hown (Nat.le_succ _), d.out⟩
set_option maxHeartbeats 8000000 in
set_option maxRecDepth 100000 in
theorem specTenantCharge (t : Int) (v : Value) (l : List ChargeD) (w : World) (h : SlR tCharge w v l) (hs : zL tCharge l ≤ 1048576) :
    Calls Try.prog 20 #[v, .int .i64 t] w (fun e w' => e = .returned (.int .i64 (totalL (tenX t) l)) ∧ Below w.heap.size w w') := by
  have hlen := zL_len hs
  have HS := Lib.hid hs
  have H := Lib.hid h
  obtain ⟨a, cap, rfl⟩ := slR_len h
  clear h hs
  go_enter Try.func20, Try.ntmps20
  go_wp2
  go_loopw [5, 6] (fun n i wr => ∃ (k : Nat) (s : Int), k ≤ l.length ∧ i = .int .i64 k ∧ n = .int .i64 s ∧ Hid (s = totalTo (tenX t) l k) ∧ Below w.heap.size w wr) (fun _ i _ => l.length - (intOf i).toNat)
  case atStart => exact ⟨0, 0, Nat.zero_le _, rfl, rfl, Lib.hid rfl, Below.refl _ _⟩
  case round =>
    obtain ⟨k, s, hk, rfl, rfl, hsum, c⟩ := hrel
    have cw := Lib.hid c
    have s1 := totalTo_bd (f := (tenX t)) (tenX_bd t) l k
    rw [← hsum.out] at s1
    obtain ⟨s1, s2'⟩ := s1
    have s2 : s ≤ 100000000 := by omega
    clear s2'
    by_cases hlt : k < l.length
    · have i1 : (0 : Int) ≤ (k : Int) := by omega
      have i2 : (k : Int) < (l.length : Int) := by omega
      have hz := zL_at HS.out hlt
      change tCharge.sz (l.getD k x0D) ≤ 1048576 at hz
      have HN : Hid (s + (tenX t) (l.getD k x0D) = totalTo (tenX t) l (k + 1)) := Lib.hid (by rw [totalTo_succ, hsum.out])
      obtain ⟨b, off, cap', p2, c2, p3, c3, p4, c4, hv, hbl, e0, e1, e2, e3, e4, s2, s3, s4⟩ := chg_at (slR_below tCharge_law H.out c) hlt
      simp only [Value.slice.injEq] at hv
      obtain ⟨rfl, _, rfl⟩ := hv
      have HBL := Lib.hid (show b < wr.heap.size from hbl)
      generalize l.getD k x0D = x at *
      obtain ⟨sg, ba, x2, x3, x4⟩ := x
      rw [tCharge_sz] at hz
      dsimp only at *
      clear hbl
      have HC := Lib.hid (specSharesOf sg ba (.slice p2 x2.length c2) (.slice p3 x3.length c3) (.slice p4 x4.length c4) x2 x3 x4 wr s2 s3 s4 (zL_len (show zL tInt x2 ≤ 1048576 by omega)) (zL_len (show zL tInt x3 ≤ 1048576 by omega)) (zL_len (show zL tInt x4 ≤ 1048576 by omega)))
      have HSX := Lib.hid (@sharesX_len (sg, ba, x2, x3, x4))
      have HLE := Lib.hid (@sharesX_le (sg, ba, x2, x3, x4))
      have HBT := Lib.hid (tenTo_bd (sg, ba, x2, x3, x4) t)
      have HBS := Lib.hid (@shares_bd (sg, ba, x2, x3, x4))
      have HNE : Hid (tenX t (sg, ba, x2, x3, x4) = accN (tenI x3 (sharesX (sg, ba, x2, x3, x4)) t) (sharesX (sg, ba, x2, x3, x4)).length) := Lib.hid rfl
      have S3 := Lib.hid s3
      clear hsum c s2 s3 s4 hz
      dsimp only at HLE HBT
      generalize sharesX (sg, ba, x2, x3, x4) = sh at *
      generalize tenX t (sg, ba, x2, x3, x4) = tx at *
      go_wp2_with fail
      refine HC.out.mono ?_
      rintro e w2 ⟨u, rfl, ho, c2⟩
      obtain ⟨ua, uc, rfl⟩ := ints_len (ownsN_ints ho)
      have HU := Lib.hid (ownsN_ints ho)
      clear ho
      have cw2 := Lib.hid (cw.out.trans (c2.mono cw.out.size))
      have T3 := Lib.hid (slR_below tInt_law S3.out c2)
      replace e0 := (c2.cell (p := ⟨b, off + k * 5, none⟩) HBL.out).trans e0
      replace e1 := (c2.cell (p := ⟨b, off + k * 5 + 1, none⟩) HBL.out).trans e1
      replace e2 := (c2.cell (p := ⟨b, off + k * 5 + 2, none⟩) HBL.out).trans e2
      replace e3 := (c2.cell (p := ⟨b, off + k * 5 + 3, none⟩) HBL.out).trans e3
      replace e4 := (c2.cell (p := ⟨b, off + k * 5 + 4, none⟩) HBL.out).trans e4
      have E3 := Lib.hid e3
      clear c2 HC S3 e0 e1 e2 e3 e4
      go_wp2
      go_loop [5, 8] (fun n i => ∃ (j : Nat) (z : Int), j ≤ sh.length ∧ i = .int .i64 j ∧ n = .int .i64 z ∧ Hid (z = s + accN (tenI x3 sh t) j)) (fun _ i => sh.length - (intOf i).toNat)
      case atStart => exact ⟨0, s, Nat.zero_le _, rfl, rfl, Lib.hid (Int.add_zero s).symm⟩
      case round =>
        obtain ⟨j, z, hj, rfl, rfl, hz⟩ := hrel
        have z1 := HBT.out j
        have z2 := HSX.out
        have z3 := hz.out
        have z4 : 0 ≤ z ∧ z ≤ 200000000 := by omega
        obtain ⟨z5, z6⟩ := z4
        clear z1 z2 z3
        by_cases hjl : j < sh.length
        · have j5 := HSX.out
          have j1 : (0 : Int) ≤ (j : Int) := by omega
          have j2 : (j : Int) < (sh.length : Int) := by omega
          have j3 : j < x3.length := by have := HLE.out; omega
          have j4 : (j : Int) < (x3.length : Int) := by omega
          obtain ⟨bu, offu, capu, hv, hbl, hc⟩ := ints_cell HU.out (by omega)
          simp only [Value.slice.injEq] at hv
          obtain ⟨rfl, _, rfl⟩ := hv
          have f0 := hc j (by omega)
          clear hc hbl
          obtain ⟨bt, offt, capt, hv, hbl, hc⟩ := ints_cell (slR_ints T3.out) (by omega)
          simp only [Value.slice.injEq] at hv
          obtain ⟨rfl, _, rfl⟩ := hv
          have f1 := hc j (by omega)
          clear hc hbl
          have HBJ := HBS.out j
          have HA1 : Hid (x3.getD j 0 = t → z + sh.getD j 0 = s + accN (tenI x3 sh t) (j + 1)) := Lib.hid (fun g => by rw [accN_succ, tenI_yes g]; have := hz.out; omega)
          have HA2 : Hid (¬ x3.getD j 0 = t → z = s + accN (tenI x3 sh t) (j + 1)) := Lib.hid (fun g => by rw [accN_succ, tenI_no g]; have := hz.out; omega)
          clear hz
          generalize x3.getD j 0 = y at *
          generalize sh.getD j 0 = sv at *
          obtain ⟨v1, v2⟩ := HBJ
          have e3 := E3.out
          by_cases hyt : y = t
          · have HZ := Lib.hid (HA1.out hyt)
            have g1 : (y == t) = true := by simpa using hyt
            clear HA1 HA2 hyt
            go_wp2
            go_round
            case rel => exact ⟨j + 1, z + sv, by omega, by go_num, rfl, HZ⟩
            case measure => simp [intOf]; omega
          · have HZ := Lib.hid (HA2.out hyt)
            have g1 : (y == t) = false := by rw [beq_eq_false_iff_ne]; exact hyt
            clear HA1 HA2 hyt
            go_wp2
            go_round
            case rel => exact ⟨j + 1, z, by omega, by go_num, rfl, HZ⟩
            case measure => simp [intOf]; omega
        · obtain rfl : j = sh.length := by omega
          have HZ : Hid (z = totalTo (tenX t) l (k + 1)) := Lib.hid (by rw [← HN.out, HNE.out]; exact hz.out)
          clear hz
          go_wp2
          go_roundw
          case rel => exact ⟨k + 1, z, by omega, by go_num, rfl, HZ, cw2.out⟩
          case measure => simp [intOf]; omega
    · obtain rfl : k = l.length := by omega
      have HT : Hid (s = totalL (tenX t) l) := Lib.hid hsum.out
      clear hsum c
      go_wp2
      go_ret
      exact ⟨ret_n HT.out, cw.out⟩
set_option maxHeartbeats 8000000 in
set_option maxRecDepth 100000 in
theorem specCoalitionCost (v : Value) (l : List ChargeD) (w : World) (tv : Value) (ts : List Int) (ht : SlR tInt w tv ts) (hnt : ts.length ≤ 1048576) (h : SlR tCharge w v l) (hs : zL tCharge l ≤ 1048576) :
    Calls Try.prog 24 #[v, tv] w (fun e w' => e = .returned (.int .i64 (totalL (coX (memB ts)) l)) ∧ Below w.heap.size w w') := by
  have hlen := zL_len hs
  have HS := Lib.hid hs
  have H := Lib.hid h
  obtain ⟨a, cap, rfl⟩ := slR_len h
  clear h hs
  have HTS := Lib.hid ht
  clear ht
  go_enter Try.func24, Try.ntmps24
  go_wp2
  go_loopw [5, 6] (fun n i wr => ∃ (k : Nat) (s : Int), k ≤ l.length ∧ i = .int .i64 k ∧ n = .int .i64 s ∧ Hid (s = totalTo (coX (memB ts)) l k) ∧ Below w.heap.size w wr) (fun _ i _ => l.length - (intOf i).toNat)
  case atStart => exact ⟨0, 0, Nat.zero_le _, rfl, rfl, Lib.hid rfl, Below.refl _ _⟩
  case round =>
    obtain ⟨k, s, hk, rfl, rfl, hsum, c⟩ := hrel
    generalize wr = wo at *
    have cw := Lib.hid c
    have s1 := totalTo_bd (f := (coX (memB ts))) (coX_bd (memB ts)) l k
    rw [← hsum.out] at s1
    obtain ⟨s1, s2'⟩ := s1
    have s2 : s ≤ 100000000 := by omega
    clear s2'
    by_cases hlt : k < l.length
    · have i1 : (0 : Int) ≤ (k : Int) := by omega
      have i2 : (k : Int) < (l.length : Int) := by omega
      have hz := zL_at HS.out hlt
      change tCharge.sz (l.getD k x0D) ≤ 1048576 at hz
      have HN : Hid (s + (coX (memB ts)) (l.getD k x0D) = totalTo (coX (memB ts)) l (k + 1)) := Lib.hid (by rw [totalTo_succ, hsum.out])
      obtain ⟨b, off, cap', p2, c2, p3, c3, p4, c4, hv, hbl, e0, e1, e2, e3, e4, s2, s3, s4⟩ := chg_at (slR_below tCharge_law H.out c) hlt
      simp only [Value.slice.injEq] at hv
      obtain ⟨rfl, _, rfl⟩ := hv
      have HBL := Lib.hid (show b < wo.heap.size from hbl)
      generalize l.getD k x0D = x at *
      obtain ⟨sg, ba, x2, x3, x4⟩ := x
      rw [tCharge_sz] at hz
      dsimp only at *
      clear hbl
      have S2 := Lib.hid s2; have S3 := Lib.hid s3; have S4 := Lib.hid s4
      have n2 := zL_len (show zL tInt x2 ≤ 1048576 by omega)
      have n3 := zL_len (show zL tInt x3 ≤ 1048576 by omega)
      have n4 := zL_len (show zL tInt x4 ≤ 1048576 by omega)
      have E0 := Lib.hid e0
      have E1 := Lib.hid e1
      have E2 := Lib.hid e2
      have E3 := Lib.hid e3
      have E4 := Lib.hid e4
      clear s2 s3 s4 e0 e1 e2 e3 e4 hsum c hz
      rcases Bool.eq_false_or_eq_true (chargeB (sg, ba, x2, x3, x4)) with hch | hch
      · have HCH := Lib.hid hch
        have HP := Lib.hid (charge_iff hch).2.1
        have HYES : Hid (anyTo (memB ts) x3 x2.length = true → s + coRows (memB ts) (sg, ba, x2, x3, x4) x2.length + ba = totalTo (coX (memB ts)) l (k + 1)) := Lib.hid (fun g => by rw [← HN.out, coX_yes hch g]; show s + coRows (memB ts) (sg, ba, x2, x3, x4) x2.length + ba = s + (coRows (memB ts) (sg, ba, x2, x3, x4) x2.length + ba); omega)
        have HNO : Hid (anyTo (memB ts) x3 x2.length = false → s = totalTo (coX (memB ts)) l (k + 1)) := Lib.hid (fun g => by rw [← HN.out, coX_no2 g]; exact (Int.add_zero s).symm)
        have hl8 : x2.length ≤ 8 := HP.out.1.2
        have hba : 0 ≤ ba ∧ ba ≤ 4 := HP.out.2.2.2
        obtain ⟨ba1, ba2⟩ := hba
        have L3 : x3.length = x2.length := HP.out.2.1.1
        have L4 : x4.length = x2.length := HP.out.2.1.2
        have HL3 := Lib.hid L3
        have HL4 := Lib.hid L4
        clear L3 L4 hch HN
        have d0 := Lib.hid (Below.refl wo.heap.size wo)
        have e0 := (d0.out.cell (p := ⟨b, off + k * 5, none⟩) HBL.out).trans E0.out
        have e1 := (d0.out.cell (p := ⟨b, off + k * 5 + 1, none⟩) HBL.out).trans E1.out
        have e2 := (d0.out.cell (p := ⟨b, off + k * 5 + 2, none⟩) HBL.out).trans E2.out
        have e3 := (d0.out.cell (p := ⟨b, off + k * 5 + 3, none⟩) HBL.out).trans E3.out
        have e4 := (d0.out.cell (p := ⟨b, off + k * 5 + 4, none⟩) HBL.out).trans E4.out
        go_wp2
        clear e0 e1 e2 e3 e4
        go_loopw [5, 7, 8] (fun n th i wi => ∃ (j : Nat) (z : Int) (bb : Bool), j ≤ x2.length ∧ i = .int .i64 j ∧ n = .int .i64 z ∧ th = .bool bb ∧ Hid (z = s + coRows (memB ts) (sg, ba, x2, x3, x4) j) ∧ Hid (bb = anyTo (memB ts) x3 j) ∧ Below wo.heap.size wo wi) (fun _ _ i _ => x2.length - (intOf i).toNat)
        case atStart => exact ⟨0, s, false, Nat.zero_le _, rfl, rfl, rfl, Lib.hid (Int.add_zero s).symm, Lib.hid rfl, Below.refl _ _⟩
        case round =>
          obtain ⟨j, z, bb, hj, rfl, rfl, rfl, hz, hbb, cj⟩ := hrel
          have CJ := Lib.hid cj
          have z1 := coRows_bd (m := memB ts) HCH.out hj
          have z3 := hz.out
          have z4 : 0 ≤ z ∧ z ≤ 200000000 := by omega
          obtain ⟨z5, z6⟩ := z4
          clear z1 z3 cj
          by_cases hjl : j < x2.length
          · have j1 : (0 : Int) ≤ (j : Int) := by omega
            have j2 : (j : Int) < (x2.length : Int) := by omega
            have j3 : j < x3.length := by have := HL3.out; omega
            have j4 : (j : Int) < (x3.length : Int) := by omega
            have j5 : j < x4.length := by have := HL4.out; omega
            have j6 : (j : Int) < (x4.length : Int) := by omega
            have e0 := (CJ.out.cell (p := ⟨b, off + k * 5, none⟩) HBL.out).trans E0.out
            have e1 := (CJ.out.cell (p := ⟨b, off + k * 5 + 1, none⟩) HBL.out).trans E1.out
            have e2 := (CJ.out.cell (p := ⟨b, off + k * 5 + 2, none⟩) HBL.out).trans E2.out
            have e3 := (CJ.out.cell (p := ⟨b, off + k * 5 + 3, none⟩) HBL.out).trans E3.out
            have e4 := (CJ.out.cell (p := ⟨b, off + k * 5 + 4, none⟩) HBL.out).trans E4.out
            go_wp2_with fail
            clear e0 e1 e2 e3 e4
            refine (specIsCharge sg ba (.slice p2 x2.length c2) (.slice p3 x3.length c3) (.slice p4 x4.length c4) x2 x3 x4 wr (slR_below tInt_law S2.out CJ.out) (slR_below tInt_law S3.out CJ.out) (slR_below tInt_law S4.out CJ.out) n2 n3 n4).mono ?_
            rintro e w3 ⟨rfl, c3⟩
            rw [HCH.out]
            have C3 := Lib.hid (CJ.out.trans (c3.mono CJ.out.size))
            clear c3
            obtain ⟨bt, offt, capt, hv, hbl, hc⟩ := ints_cell (slR_ints (slR_below tInt_law S3.out C3.out)) (by omega)
            simp only [Value.slice.injEq] at hv
            obtain ⟨rfl, _, rfl⟩ := hv
            have f3 := hc j (by omega)
            clear hc hbl
            have HR := chg_row (x := (sg, ba, x2, x3, x4)) HCH.out j5
            dsimp only at HR
            have F3 := Lib.hid f3
            clear f3
            have HA1 : Hid (memB ts (x3.getD j 0) = true → z + x4.getD j 0 = s + coRows (memB ts) (sg, ba, x2, x3, x4) (j + 1) ∧ true = anyTo (memB ts) x3 (j + 1)) := Lib.hid (fun g => ⟨by rw [coRows_yes (x := (sg, ba, x2, x3, x4)) g]; have := hz.out; dsimp only; omega, (anyTo_yes g).symm⟩)
            have HA2 : Hid (memB ts (x3.getD j 0) = false → z = s + coRows (memB ts) (sg, ba, x2, x3, x4) (j + 1) ∧ bb = anyTo (memB ts) x3 (j + 1)) := Lib.hid (fun g => ⟨by rw [coRows_no (x := (sg, ba, x2, x3, x4)) g]; exact hz.out, by rw [anyTo_no g]; exact hbb.out⟩)
            clear hz hbb
            have F4 := Lib.hid (show (x4.getD j 0 : Int) = x4.getD j 0 from rfl)
            clear F4
            obtain ⟨br, offr, capr, hv, hbl, hc⟩ := ints_cell (slR_ints (slR_below tInt_law S4.out C3.out)) (by omega)
            simp only [Value.slice.injEq] at hv
            obtain ⟨rfl, _, rfl⟩ := hv
            have f4 := hc j (by omega)
            have HBR := Lib.hid (show br < w3.heap.size from hbl)
            clear hc hbl
            have F4 := Lib.hid f4
            clear f4
            generalize x3.getD j 0 = y at *
            generalize x4.getD j 0 = rv at *
            obtain ⟨rv1, rv2'⟩ := HR
            have rv2 : rv ≤ 4 := by omega
            clear rv2'
            have e0 := (C3.out.cell (p := ⟨b, off + k * 5, none⟩) HBL.out).trans E0.out
            have e1 := (C3.out.cell (p := ⟨b, off + k * 5 + 1, none⟩) HBL.out).trans E1.out
            have e2 := (C3.out.cell (p := ⟨b, off + k * 5 + 2, none⟩) HBL.out).trans E2.out
            have e3 := (C3.out.cell (p := ⟨b, off + k * 5 + 3, none⟩) HBL.out).trans E3.out
            have e4 := (C3.out.cell (p := ⟨b, off + k * 5 + 4, none⟩) HBL.out).trans E4.out
            have f3 := F3.out
            have f4 := F4.out
            have HH := Lib.hid (specHasB tv ts y w3 (slR_ints (slR_below tInt_law HTS.out (cw.out.trans (C3.out.mono cw.out.size)))) hnt)
            go_wp2_with fail
            refine HH.out.mono ?_
            rintro e w4 ⟨rfl, c4'⟩
            have C4 := Lib.hid (C3.out.trans (c4'.mono C3.out.size))
            replace f4 := (c4'.cell (p := ⟨br, offr + j, none⟩) HBR.out).trans f4
            clear c4' HH e0 e1 e2 e3 e4 f3
            have e0 := (C4.out.cell (p := ⟨b, off + k * 5, none⟩) HBL.out).trans E0.out
            have e1 := (C4.out.cell (p := ⟨b, off + k * 5 + 1, none⟩) HBL.out).trans E1.out
            have e2 := (C4.out.cell (p := ⟨b, off + k * 5 + 2, none⟩) HBL.out).trans E2.out
            have e3 := (C4.out.cell (p := ⟨b, off + k * 5 + 3, none⟩) HBL.out).trans E3.out
            have e4 := (C4.out.cell (p := ⟨b, off + k * 5 + 4, none⟩) HBL.out).trans E4.out
            rcases Bool.eq_false_or_eq_true (memB ts y) with hm | hm
            · have HZ := Lib.hid (HA1.out hm).1
              have HB := Lib.hid (HA1.out hm).2
              rw [show decide (y ∈ ts) = true from hm]
              clear HA1 HA2 hm
              go_wp2
              go_roundw
              case rel => exact ⟨j + 1, z + rv, true, by omega, by go_num, rfl, rfl, HZ, HB, C4.out⟩
              case measure => simp [intOf]; omega
            · have HZ := Lib.hid (HA2.out hm).1
              have HB := Lib.hid (HA2.out hm).2
              rw [show decide (y ∈ ts) = false from hm]
              clear HA1 HA2 hm
              go_wp2
              go_roundw
              case rel => exact ⟨j + 1, z, bb, by omega, by go_num, rfl, rfl, HZ, HB, C4.out⟩
              case measure => simp [intOf]; omega
          · obtain rfl : j = x2.length := by omega
            cases bb with
            | true =>
              have HZ : Hid (z + ba = totalTo (coX (memB ts)) l (k + 1)) := Lib.hid (by rw [← HYES.out hbb.out.symm, ← hz.out])
              clear hz hbb HYES HNO
              have e0 := (CJ.out.cell (p := ⟨b, off + k * 5, none⟩) HBL.out).trans E0.out
              have e1 := (CJ.out.cell (p := ⟨b, off + k * 5 + 1, none⟩) HBL.out).trans E1.out
              have e2 := (CJ.out.cell (p := ⟨b, off + k * 5 + 2, none⟩) HBL.out).trans E2.out
              have e3 := (CJ.out.cell (p := ⟨b, off + k * 5 + 3, none⟩) HBL.out).trans E3.out
              have e4 := (CJ.out.cell (p := ⟨b, off + k * 5 + 4, none⟩) HBL.out).trans E4.out
              go_wp2
              go_roundw
              case rel => exact ⟨k + 1, z + ba, by omega, by go_num, rfl, HZ, cw.out.trans (CJ.out.mono cw.out.size)⟩
              case measure => simp [intOf]; omega
            | false =>
              have HZ : Hid (z = totalTo (coX (memB ts)) l (k + 1)) := Lib.hid (by rw [← HNO.out hbb.out.symm, hz.out, anyTo_none (x := (sg, ba, x2, x3, x4)) hbb.out.symm]; exact Int.add_zero s)
              clear hz hbb HYES HNO
              have e0 := (CJ.out.cell (p := ⟨b, off + k * 5, none⟩) HBL.out).trans E0.out
              have e1 := (CJ.out.cell (p := ⟨b, off + k * 5 + 1, none⟩) HBL.out).trans E1.out
              have e2 := (CJ.out.cell (p := ⟨b, off + k * 5 + 2, none⟩) HBL.out).trans E2.out
              have e3 := (CJ.out.cell (p := ⟨b, off + k * 5 + 3, none⟩) HBL.out).trans E3.out
              have e4 := (CJ.out.cell (p := ⟨b, off + k * 5 + 4, none⟩) HBL.out).trans E4.out
              go_wp2
              go_roundw
              case rel => exact ⟨k + 1, z, by omega, by go_num, rfl, HZ, cw.out.trans (CJ.out.mono cw.out.size)⟩
              case measure => simp [intOf]; omega
      · have HCH := Lib.hid hch
        have HZ : Hid (s = totalTo (coX (memB ts)) l (k + 1)) := Lib.hid (by rw [← HN.out, coX_no1 hch]; exact (Int.add_zero s).symm)
        clear hch HN
        have d0 := Lib.hid (Below.refl wo.heap.size wo)
        have e0 := (d0.out.cell (p := ⟨b, off + k * 5, none⟩) HBL.out).trans E0.out
        have e1 := (d0.out.cell (p := ⟨b, off + k * 5 + 1, none⟩) HBL.out).trans E1.out
        have e2 := (d0.out.cell (p := ⟨b, off + k * 5 + 2, none⟩) HBL.out).trans E2.out
        have e3 := (d0.out.cell (p := ⟨b, off + k * 5 + 3, none⟩) HBL.out).trans E3.out
        have e4 := (d0.out.cell (p := ⟨b, off + k * 5 + 4, none⟩) HBL.out).trans E4.out
        go_wp2
        clear e0 e1 e2 e3 e4
        go_loopw [5, 7, 8] (fun n th i wi => i = .int .i64 0 ∧ n = .int .i64 s ∧ th = .bool false ∧ Below wo.heap.size wo wi) (fun _ _ i _ => x2.length - (intOf i).toNat)
        case atStart => exact ⟨rfl, rfl, rfl, Below.refl _ _⟩
        case round =>
          obtain ⟨rfl, rfl, rfl, cj⟩ := hrel
          by_cases hj : 0 < x2.length
          · have i3 : (0 : Int) < (x2.length : Int) := by omega
            clear hj
            have e0 := (cj.cell (p := ⟨b, off + k * 5, none⟩) HBL.out).trans E0.out
            have e1 := (cj.cell (p := ⟨b, off + k * 5 + 1, none⟩) HBL.out).trans E1.out
            have e2 := (cj.cell (p := ⟨b, off + k * 5 + 2, none⟩) HBL.out).trans E2.out
            have e3 := (cj.cell (p := ⟨b, off + k * 5 + 3, none⟩) HBL.out).trans E3.out
            have e4 := (cj.cell (p := ⟨b, off + k * 5 + 4, none⟩) HBL.out).trans E4.out
            have CJ := Lib.hid cj
            clear cj
            go_wp2_with fail
            clear e0 e1 e2 e3 e4
            refine (specIsCharge sg ba (.slice p2 x2.length c2) (.slice p3 x3.length c3) (.slice p4 x4.length c4) x2 x3 x4 wr (slR_below tInt_law S2.out CJ.out) (slR_below tInt_law S3.out CJ.out) (slR_below tInt_law S4.out CJ.out) n2 n3 n4).mono ?_
            rintro e w3 ⟨rfl, c3⟩
            rw [HCH.out]
            have C3 := Lib.hid (CJ.out.trans (c3.mono CJ.out.size))
            clear c3
            have e0 := (C3.out.cell (p := ⟨b, off + k * 5, none⟩) HBL.out).trans E0.out
            have e1 := (C3.out.cell (p := ⟨b, off + k * 5 + 1, none⟩) HBL.out).trans E1.out
            have e2 := (C3.out.cell (p := ⟨b, off + k * 5 + 2, none⟩) HBL.out).trans E2.out
            have e3 := (C3.out.cell (p := ⟨b, off + k * 5 + 3, none⟩) HBL.out).trans E3.out
            have e4 := (C3.out.cell (p := ⟨b, off + k * 5 + 4, none⟩) HBL.out).trans E4.out
            go_wp2
            go_roundw
            case rel => exact ⟨k + 1, s, by omega, by go_num, rfl, HZ, cw.out.trans (C3.out.mono cw.out.size)⟩
            case measure => simp [intOf]; omega
          · have i3 : decide ((0 : Int) < (x2.length : Int)) = false := decide_eq_false (by omega)
            have i4 : decide (0 < x2.length) = false := decide_eq_false hj
            clear hj
            have e0 := (cj.cell (p := ⟨b, off + k * 5, none⟩) HBL.out).trans E0.out
            have e1 := (cj.cell (p := ⟨b, off + k * 5 + 1, none⟩) HBL.out).trans E1.out
            have e2 := (cj.cell (p := ⟨b, off + k * 5 + 2, none⟩) HBL.out).trans E2.out
            have e3 := (cj.cell (p := ⟨b, off + k * 5 + 3, none⟩) HBL.out).trans E3.out
            have e4 := (cj.cell (p := ⟨b, off + k * 5 + 4, none⟩) HBL.out).trans E4.out
            have C3 := Lib.hid cj
            clear cj
            go_wp2
            go_roundw
            case rel => exact ⟨k + 1, s, by omega, by go_num, rfl, HZ, cw.out.trans (C3.out.mono cw.out.size)⟩
            case measure => simp [intOf]; omega
    · obtain rfl : k = l.length := by omega
      have HT : Hid (s = totalL (coX (memB ts)) l) := Lib.hid hsum.out
      clear hsum c
      go_wp2
      go_ret
      exact ⟨ret_n HT.out, cw.out⟩
end Go.Proofs.Ytjapbmaibgplkaa
namespace Go.Proofs.Ytjapbmaibgplkaa
open Go.RowKit
set_option linter.unusedVariables false
set_option linter.unusedSimpArgs false
end Go.Proofs.Ytjapbmaibgplkaa
namespace Go.Proofs.Ytjapbmaibgplkaa
open Go.RowKit
set_option linter.unusedVariables false
set_option linter.unusedSimpArgs false
section
variable {α : Type} {T : Ty α}
end
end Go.Proofs.Ytjapbmaibgplkaa
namespace Go.Proofs.Ytjapbmaibgplkaa
open Go.RowKit
set_option linter.unusedVariables false
set_option linter.unusedSimpArgs false
end Go.Proofs.Ytjapbmaibgplkaa
namespace Go.Proofs.Ytjapbmaibgplkaa
open Go.RowKit
set_option linter.unusedVariables false
set_option linter.unusedSimpArgs false
end Go.Proofs.Ytjapbmaibgplkaa
namespace Go.Proofs.Ytjapbmaibgplkaa
open Go.RowKit
set_option linter.unusedVariables false
set_option linter.unusedSimpArgs false
end Go.Proofs.Ytjapbmaibgplkaa
namespace Go.Proofs.Ytjapbmaibgplkaa
open Go.RowKit
set_option linter.unusedVariables false
set_option linter.unusedSimpArgs false
end Go.Proofs.Ytjapbmaibgplkaa
namespace Go.Proofs.Ytjapbmaibgplkaa
open Go.RowKit
set_option linter.unusedVariables false
set_option linter.unusedSimpArgs false
end Go.Proofs.Ytjapbmaibgplkaa
namespace Go.Proofs.Ytjapbmaibgplkaa
open Go.RowKit
set_option linter.unusedVariables false
set_option linter.unusedSimpArgs false
end Go.Proofs.Ytjapbmaibgplkaa
namespace Go.Proofs.Ytjapbmaibgplkaa
open Go.RowKit
set_option linter.unusedVariables false
set_option linter.unusedSimpArgs false
end Go.Proofs.Ytjapbmaibgplkaa
namespace Go.Proofs.Ytjapbmaibgplkaa
open Go.RowKit
set_option linter.unusedVariables false
set_option linter.unusedSimpArgs false
end Go.Proofs.Ytjapbmaibgplkaa
namespace Go.Proofs.Ytjapbmaibgplkaa
open Go.RowKit
set_option linter.unusedVariables false
set_option linter.unusedSimpArgs false
theorem isTenant_yes (n : Int) (w : World) (h1 : 0 ≤ n) (h2 : n < 4) : Calls Try.prog 43 #[.int .i64 n] w fun e w' => e = .returned (.bool true) ∧ w' = w := by
  go_enter Try.func43, Try.ntmps43
  go_wp2
  go_ret
  exact ⟨rfl, rfl⟩
theorem isTenant_no (n : Int) (w : World) (h : ¬ (0 ≤ n ∧ n < 4)) : Calls Try.prog 43 #[.int .i64 n] w fun e w' => e = .returned (.bool false) ∧ w' = w := by
  by_cases h1 : 0 ≤ n
  · have h2 : ¬ n < 4 := fun g => h ⟨h1, g⟩
    clear h
    go_enter Try.func43, Try.ntmps43
    go_wp2
    go_ret
    exact ⟨rfl, rfl⟩
  · clear h
    go_enter Try.func43, Try.ntmps43
    go_wp2
    go_ret
    exact ⟨rfl, rfl⟩
end Go.Proofs.Ytjapbmaibgplkaa
namespace Go.Proofs.Ytjapbmaibgplkaa
set_option linter.unusedVariables false
/-- The mask of the first k numbers. -/
def maskTo (l : List Int) (k : Nat) : Nat := (l.take k).foldl (fun m x => m ||| 2 ^ x.toNat) 0
theorem maskTo_zero (l : List Int) : maskTo l 0 = 0 := by simp [maskTo]
theorem maskTo_step {l : List Int} {k : Nat} (hk : k < l.length) : maskTo l (k + 1) = maskTo l k ||| 2 ^ (l.getD k 0).toNat := by
  unfold maskTo
  have e : l.getD k 0 = l[k] := by simp [List.getD, hk]
  rw [e, List.take_succ_eq_append_getElem hk, List.foldl_append]
  rfl
theorem setTo_pred {l : List Int} {k : Nat} (h : SetTo l (k + 1)) : SetTo l k := ⟨fun i hi => h.1 i (by omega), fun i hi => h.2 i (by omega)⟩
theorem bit_maskTo {l : List Int} : ∀ {k : Nat}, k ≤ l.length → SetTo l k → ∀ i : Nat, (maskTo l k).testBit i = true ↔ ∃ j, j < k ∧ l.getD j 0 = (i : Int) := by
  intro k
  induction k with
  | zero => intro _ _ i; simp [maskTo_zero]
  | succ k ih =>
    intro hk hs i
    rw [maskTo_step (by omega), Nat.testBit_or, Bool.or_eq_true, ih (by omega) (setTo_pred hs), Nat.testBit_two_pow]
    have h0 := hs.1 k (by omega)
    constructor
    · rintro (⟨j, hj, e⟩ | h)
      · exact ⟨j, by omega, e⟩
      · have := of_decide_eq_true h
        exact ⟨k, by omega, by omega⟩
    · rintro ⟨j, hj, e⟩
      by_cases ej : j = k
      · subst ej; right; rw [decide_eq_true_eq]; omega
      · exact Or.inl ⟨j, by omega, e⟩
theorem maskTo_lt {l : List Int} {k : Nat} (hk : k ≤ l.length) (hs : SetTo l k) (x : Nat) (h : ∀ j, j < k → l.getD j 0 < (x : Int)) : maskTo l k < 2 ^ x := by
  refine Nat.lt_pow_two_of_testBit _ fun i hi => ?_
  rw [Bool.eq_false_iff]
  intro g
  obtain ⟨j, hj, e⟩ := (bit_maskTo hk hs i).1 g
  have := h j hj
  omega
theorem maskTo_lt24 {l : List Int} {k : Nat} (hk : k ≤ l.length) (hs : SetTo l k) : maskTo l k < 16777216 :=
  maskTo_lt hk hs 24 (fun j hj => by have := (hs.1 j hj).2; omega)
theorem maskTo_ge {l : List Int} {k : Nat} (hk : k ≤ l.length) (hs : SetTo l k) {x : Nat} {j : Nat} (hj : j < k) (h : (x : Int) ≤ l.getD j 0) : 2 ^ x ≤ maskTo l k := by
  have h0 := (hs.1 j hj).1
  have := (bit_maskTo hk hs (l.getD j 0).toNat).2 ⟨j, hj, by omega⟩
  exact Nat.le_trans (Nat.pow_le_pow_right (by omega) (by omega)) (Nat.ge_two_pow_of_testBit this)
theorem setTo_mono {l : List Int} {k : Nat} (h : SetTo l k) : ∀ {i j : Nat}, i < j → j < k → l.getD i 0 < l.getD j 0 := by
  intro i j hij
  obtain ⟨d, rfl⟩ : ∃ d, j = i + d + 1 := ⟨j - i - 1, by omega⟩
  clear hij
  induction d with
  | zero => intro hj; exact h.2 i hj
  | succ d ih => intro hj; exact Int.lt_trans (ih (by omega)) (h.2 (i + d + 1) hj)
/-- The bit test of maskOf: no bit from x on, just where x goes on the ascent. -/
theorem maskTo_next {l : List Int} {k : Nat} (hk : k < l.length) (hs : SetTo l k) {x : Nat} (hx : l.getD k 0 = (x : Int)) (hx23 : x ≤ 23) : maskTo l k / 2 ^ x = 0 ↔ SetTo l (k + 1) := by
  rw [Nat.div_eq_zero_iff]
  constructor
  · rintro (h | h)
    · exact absurd h (Nat.ne_of_gt (Nat.two_pow_pos x))
    · refine setTo_step hs (by omega) (by omega) fun h0 => ?_
      apply Int.not_le.1
      intro g
      rw [hx] at g
      have := maskTo_ge (Nat.le_of_lt hk) hs (j := k - 1) (by omega) g
      omega
  · intro h
    right
    refine maskTo_lt (Nat.le_of_lt hk) hs x fun j hj => ?_
    rw [← hx]
    exact setTo_mono h hj (by omega)
/-- The mask of a set, 0 of any other list. -/
def maskL (l : List Int) : Nat := if setB l = true then maskTo l l.length else 0
theorem maskL_yes {l : List Int} (h : SetL l) : maskL l = maskTo l l.length := by unfold maskL; rw [if_pos ((setB_iff l).2 h)]
theorem maskL_no {l : List Int} (h : setB l = false) : maskL l = 0 := by unfold maskL; rw [h]; rfl
end Go.Proofs.Ytjapbmaibgplkaa
namespace Go.Proofs.Ytjapbmaibgplkaa
open Go.RowKit
set_option linter.unusedVariables false
theorem nat_u32 (a : Nat) (ha : a < 4294967296) : (BitVec.ofInt 32 (a : Int)).toNat = a := by
  rw [BitVec.ofInt_natCast, BitVec.toNat_ofNat]; exact Nat.mod_eq_of_lt (by omega)
theorem or_u32 (a b : Nat) (ha : a < 4294967296) (hb : b < 4294967296) : bits .or .u32 (a : Int) (b : Int) = ((a ||| b : Nat) : Int) := by
  have hx : a ||| b < 2 ^ 32 := Nat.or_lt_two_pow (by omega) (by omega)
  show IntKind.u32.wrap ((BitVec.ofInt 32 (a : Int) ||| BitVec.ofInt 32 (b : Int)).toNat : Int) = _
  rw [BitVec.toNat_or, nat_u32 a ha, nat_u32 b hb, IntKind.wrap_u32]
  omega
theorem isQuery (x : Int) (w : World) : Calls Try.prog 47 #[.int .i64 x] w fun e w' => e = .returned (.bool (decide (0 ≤ x ∧ x ≤ 23))) ∧ w' = w := by
  by_cases h0 : 0 ≤ x
  · by_cases h1 : x ≤ 23
    · rw [decide_eq_true (show 0 ≤ x ∧ x ≤ 23 from ⟨h0, h1⟩)]
      have h2 : x < 24 := by omega
      go_enter Try.func47, Try.ntmps47
      go_wp2
      go_ret
      exact ⟨rfl, rfl⟩
    · rw [decide_eq_false (show ¬ (0 ≤ x ∧ x ≤ 23) by omega)]
      have h2 : ¬ x < 24 := by omega
      go_enter Try.func47, Try.ntmps47
      go_wp2
      go_ret
      exact ⟨rfl, rfl⟩
  · rw [decide_eq_false (show ¬ (0 ≤ x ∧ x ≤ 23) by omega)]
    go_enter Try.func47, Try.ntmps47
    go_wp2
    go_ret
    exact ⟨rfl, rfl⟩
theorem pair_eq {a b : Nat} {x y : Bool} (h1 : a = b) (h2 : x = y) : Ending.returned (.tuple #[.int .u32 (a : Int), .bool x]) = .returned (.tuple #[.int .u32 (b : Int), .bool y]) := by rw [h1, h2]
set_option maxHeartbeats 2000000 in
set_option maxRecDepth 100000 in
theorem implMaskOf (va : Value) (a : List Int) (w : World) (h : Ints w va a) (hn : a.length ≤ 1073741824) :
    Calls Try.prog 46 #[va] w fun e w' => e = .returned (.tuple #[.int .u32 (maskL a : Nat), .bool (setB a)]) ∧ Below w.heap.size w w' := by
  obtain ⟨ap, cap, hva⟩ := ints_len h
  have HA := Lib.hid h
  have HN := Lib.hid hn
  clear h hn
  subst hva
  go_enter Try.func46, Try.ntmps46
  go_wp2
  go_loopw [4, 9] (fun m i wr => ∃ k : Nat, k ≤ a.length ∧ i = .int .i64 k ∧ Hid (SetTo a k) ∧ m = .int .u32 (maskTo a k : Nat) ∧ wr = w) (fun _ i _ => a.length - (intOf i).toNat)
  case atStart => exact ⟨0, Nat.zero_le _, rfl, Lib.hid ⟨fun i hi => by omega, fun i hi => by omega⟩, by rw [maskTo_zero]; rfl, rfl⟩
  case round =>
    obtain ⟨k, hk, rfl, hset, rfl, rfl⟩ := hrel
    by_cases hlt : k < a.length
    · obtain ⟨b, off, cap', hv, hbl, hc⟩ := ints_cell HA.out (by omega)
      simp only [Value.slice.injEq] at hv
      obtain ⟨rfl, _, rfl⟩ := hv
      have hcell := hc k hlt
      have i1 : (0 : Int) ≤ (k : Int) := by omega
      have i2 : (k : Int) < (a.length : Int) := by omega
      clear hc
      by_cases hr : 0 ≤ a.getD k 0 ∧ a.getD k 0 ≤ 23
      · obtain ⟨x, hx⟩ : ∃ x : Nat, a.getD k 0 = (x : Int) := ⟨(a.getD k 0).toNat, by omega⟩
        have hx23 : x ≤ 23 := by omega
        have HQ := Lib.hid (show decide (0 ≤ (x : Int) ∧ (x : Int) ≤ 23) = true from decide_eq_true (by omega))
        have hnext := maskTo_next hlt hset.out hx hx23
        have HST := Lib.hid (maskTo_step hlt)
        rw [hx] at hcell HST
        have HM0 := Lib.hid (maskTo_lt24 (Nat.le_of_lt hlt) hset.out)
        have hdiv : ((maskTo a k : Nat) : Int) / 2 ^ x = ((maskTo a k / 2 ^ x : Nat) : Int) := by norm_cast
        by_cases hz : maskTo a k / 2 ^ x = 0
        · have HS1 := Lib.hid (hnext.1 hz)
          have HB : ((maskTo a k : Int) / 2 ^ x != 0) = false := by rw [hdiv, hz]; rfl
          have HP : Hid (2 ^ x < 16777216 ∧ ((2 : Int) ^ x % 4294967296 = ((2 ^ x : Nat) : Int))) := by
            have h2 : 2 ^ x < 2 ^ 24 := Nat.pow_lt_pow_right (by omega) (show x < 24 by omega)
            have h3 : (2 : Int) ^ x = ((2 ^ x : Nat) : Int) := by norm_cast
            exact Lib.hid ⟨h2, by rw [h3]; clear h3; generalize 2 ^ x = q at *; omega⟩
          have HK := Lib.hid hlt
          clear hr hnext hx hz hset hk hlt hdiv
          generalize maskTo a k = m at *
          go_wp2_with fail
          refine (isQuery _ _).mono ?_
          rintro e w1 ⟨rfl, rfl⟩
          rw [HQ.out]
          have hn := HN.out
          go_wp2
          go_roundw
          case rel => exact ⟨k + 1, HK.out, by go_num, HS1, by rw [HP.out.2, or_u32 m _ (by have := HM0.out; omega) (by have := HP.out.1; omega), HST.out]; rfl, by first | rfl | trivial⟩
          case measure => have := HK.out; simp [intOf]; omega
        · have HF := Lib.hid (setB_no (l := a) (fun g => hz (hnext.2 ⟨fun i hi => g.1 i (by omega), fun i hi => g.2 i (by omega)⟩)))
          have HB : ((maskTo a k : Int) / 2 ^ x != 0) = true := by rw [hdiv, bne_iff_ne]; omega
          clear hr hnext hx hz hset hk hlt hdiv
          generalize maskTo a k = m at *
          go_wp2_with fail
          refine (isQuery _ _).mono ?_
          rintro e w1 ⟨rfl, rfl⟩
          rw [HQ.out]
          go_wp2
          go_ret2
          exact ⟨pair_eq (a := 0) (maskL_no HF.out).symm HF.out.symm, Below.refl _ _⟩
      · have HF := Lib.hid (setB_no (not_set_range hlt hr))
        have HQ := Lib.hid (show decide (0 ≤ a.getD k 0 ∧ a.getD k 0 ≤ 23) = false from decide_eq_false hr)
        clear hr hset hk hlt
        generalize maskTo a k = m at *
        generalize a.getD k 0 = x at *
        go_wp2_with fail
        refine (isQuery _ _).mono ?_
        rintro e w1 ⟨rfl, rfl⟩
        rw [HQ.out]
        go_wp2
        go_ret2
        exact ⟨pair_eq (a := 0) (maskL_no HF.out).symm HF.out.symm, Below.refl _ _⟩
    · obtain rfl : k = a.length := by omega
      have HS := Lib.hid ((setTo_all a).1 hset.out)
      have HE := Lib.hid (maskL_yes HS.out)
      clear hset hk hlt
      generalize maskTo a a.length = m at *
      go_wp2
      go_ret2
      exact ⟨pair_eq HE.out.symm ((setB_iff a).2 HS.out).symm, Below.refl _ _⟩
set_option maxHeartbeats 2000000 in
set_option maxRecDepth 100000 in
theorem implIsSet (va : Value) (a : List Int) (w : World) (h : Ints w va a) (hn : a.length ≤ 1048576) :
    Calls Try.prog 41 #[va] w fun e w' => e = .returned (.bool (setB a)) ∧ Below w.heap.size w w' := by
  have H := Lib.hid (fun w h => implMaskOf va a w h (by omega))
  have HA := Lib.hid h
  clear h hn
  go_enter Try.func41, Try.ntmps41
  go_wp2_with fail
  refine (H.out _ HA.out).mono ?_
  rintro e w1 ⟨rfl, b1⟩
  go_wp2
  go_ret
  exact ⟨rfl, b1⟩
end Go.Proofs.Ytjapbmaibgplkaa
namespace Go.Proofs.Ytjapbmaibgplkaa
open Go.RowKit
set_option linter.unusedVariables false
set_option linter.unusedSimpArgs false
set_option maxHeartbeats 4000000 in
set_option maxRecDepth 100000 in
theorem canGet_any (sg ba : Int) (p2 p3 p4 : Option Addr) (n2 c2 n3 c3 n4 c4 : Nat) (y : Int) (w : World) :
    Calls Try.prog 44 #[.agg #[.int .i64 sg, .int .i64 ba, .slice p2 n2 c2, .slice p3 n3 c3, .slice p4 n4 c4], .int .i64 y] w (fun e w' => e = .returned (.bool (decide (0 ≤ y ∧ y ≤ ba))) ∧ Below w.heap.size w w') := by
  have d := Lib.hid (show Below w.heap.size w (w.alloc (.cells #[.int .i64 sg, .int .i64 ba, .slice p2 n2 c2, .slice p3 n3 c3, .slice p4 n4 c4] 27)) from (Below.refl _ _).alloc (Nat.le_refl _) _)
  by_cases h1 : 0 ≤ y
  · by_cases h2 : y ≤ ba
    · have HF : Hid (decide (0 ≤ y ∧ y ≤ ba) = true) := Lib.hid (decide_eq_true ⟨h1, h2⟩)
      have f1 : decide (0 ≤ y) = true := decide_eq_true h1
      have f2 : decide (y ≤ ba) = true := decide_eq_true h2
      rw [HF.out]
      clear h1 h2
      go_enter Try.func44, Try.ntmps44
      go_wp2
      go_ret
      exact ⟨rfl, d.out⟩
    · have HF : Hid (decide (0 ≤ y ∧ y ≤ ba) = false) := Lib.hid (decide_eq_false (fun q => h2 q.2))
      have f1 : decide (0 ≤ y) = true := decide_eq_true h1
      have f2 : decide (y ≤ ba) = false := decide_eq_false h2
      rw [HF.out]
      clear h1 h2
      go_enter Try.func44, Try.ntmps44
      go_wp2
      go_ret
      exact ⟨rfl, d.out⟩
  · have HF : Hid (decide (0 ≤ y ∧ y ≤ ba) = false) := Lib.hid (decide_eq_false (fun q => h1 q.1))
    have f1 : decide (0 ≤ y) = false := decide_eq_false h1
    rw [HF.out]
    clear h1
    go_enter Try.func44, Try.ntmps44
    go_wp2
    go_ret
    exact ⟨rfl, d.out⟩
theorem isTenant_ten (n : Int) (w : World) : Calls Try.prog 43 #[.int .i64 n] w fun e w' => e = .returned (.bool (tenB n)) ∧ Below w.heap.size w w' := by
  by_cases h : 0 ≤ n ∧ n < 4
  · have e : tenB n = true := decide_eq_true ⟨h.1, by omega⟩
    rw [e]
    exact (isTenant_yes n w h.1 h.2).mono (fun e w' hh => ⟨hh.1, by rw [hh.2]; exact Below.refl _ _⟩)
  · have e : tenB n = false := decide_eq_false (fun g => h ⟨g.1, by omega⟩)
    rw [e]
    exact (isTenant_no n w h).mono (fun e w' hh => ⟨hh.1, by rw [hh.2]; exact Below.refl _ _⟩)
set_option maxHeartbeats 8000000 in
set_option maxRecDepth 100000 in
theorem allTen  (v : Value) (l : List Int) (w : World)  (h : SlR tInt w v l) (hs : zL tInt l ≤ 1048576) :
    Calls Try.prog 42 #[v, .func (.func 43) #[] #[]] w (fun e w' => e = .returned (.bool (l.all (tenB))) ∧ Below w.heap.size w w') := by
  have hlen := zL_len hs
  have HS := Lib.hid hs
  have H := Lib.hid h
  obtain ⟨a, cap, rfl⟩ := slR_len h
  clear h hs
  go_enter Try.func42, Try.ntmps42
  go_wp2
  go_loopw [9] (fun i wr => ∃ k : Nat, k ≤ l.length ∧ i = .int .i64 k ∧ Hid (AllTo (tenB) 0 l k) ∧ Below w.heap.size w wr) (fun i _ => l.length - (intOf i).toNat)
  case atStart => exact ⟨0, Nat.zero_le _, rfl, Lib.hid (allTo_zero _ _ _), Below.refl _ _⟩
  case round =>
    obtain ⟨k, hk, rfl, hno, c⟩ := hrel
    have cw := Lib.hid c
    by_cases hlt : k < l.length
    · have i1 : (0 : Int) ≤ (k : Int) := by omega
      have i2 : (k : Int) < (l.length : Int) := by omega
      have hz := zL_at HS.out hlt
      change tInt.sz (l.getD k 0) ≤ 1048576 at hz
      have HST : Hid ((tenB) (l.getD k 0) = true → AllTo (tenB) 0 l (k + 1)) := Lib.hid (fun g => allTo_step hno.out g)
      have HNO : Hid ((tenB) (l.getD k 0) = false → l.all (tenB) = false) := Lib.hid (fun g => allB_no 0 hlt g)
      obtain ⟨b, off, cap', hv, hbl, hc⟩ := ints_cell (slR_ints (slR_below tInt_law H.out c)) (by omega)
      simp only [Value.slice.injEq] at hv
      obtain ⟨rfl, _, rfl⟩ := hv
      have e0 := hc k hlt
      clear hc hbl hz
      generalize l.getD k 0 = y at *
      have HC := Lib.hid (isTenant_ten y wr)
      clear hno c
      obtain ⟨bv, hbv⟩ : ∃ bv, bv = tenB y := ⟨_, rfl⟩
      rw [← hbv] at HC HST HNO
      clear hbv
      cases bv with
      | true =>
        have HT := Lib.hid (HST.out rfl)
        clear HST HNO
        go_wp2_with fail
        refine HC.out.mono ?_
        rintro e w2 ⟨rfl, c2⟩
        have cw2 := Lib.hid (cw.out.trans (c2.mono cw.out.size))
        clear c2 HC e0
        go_wp2
        go_roundw
        case rel => exact ⟨k + 1, by omega, by go_num, HT, cw2.out⟩
        case measure => simp [intOf]; omega
      | false =>
        have HF := Lib.hid (HNO.out rfl)
        clear HST HNO
        go_wp2_with fail
        refine HC.out.mono ?_
        rintro e w2 ⟨rfl, c2⟩
        have cw2 := Lib.hid (cw.out.trans (c2.mono cw.out.size))
        clear c2 HC e0
        go_wp2
        go_ret
        exact ⟨ret_b HF.out.symm, cw2.out⟩
    · obtain rfl : k = l.length := by omega
      have HA := Lib.hid (allB_yes (p := tenB) 0 hno.out)
      clear hno c
      go_wp2
      go_ret
      exact ⟨ret_b HA.out.symm, cw.out⟩
set_option maxHeartbeats 8000000 in
set_option maxRecDepth 100000 in
theorem allGet (sg ba : Int) (p2 p3 p4 : Option Addr) (n2 c2 n3 c3 n4 c4 : Nat) (v : Value) (l : List Int) (w : World)  (h : SlR tInt w v l) (hs : zL tInt l ≤ 1048576) :
    Calls Try.prog 42 #[v, .func (.func 44) #[.agg #[.int .i64 sg, .int .i64 ba, .slice p2 n2 c2, .slice p3 n3 c3, .slice p4 n4 c4]] #[]] w (fun e w' => e = .returned (.bool (l.all (getB ba))) ∧ Below w.heap.size w w') := by
  have hlen := zL_len hs
  have HS := Lib.hid hs
  have H := Lib.hid h
  obtain ⟨a, cap, rfl⟩ := slR_len h
  clear h hs
  go_enter Try.func42, Try.ntmps42
  go_wp2
  go_loopw [9] (fun i wr => ∃ k : Nat, k ≤ l.length ∧ i = .int .i64 k ∧ Hid (AllTo (getB ba) 0 l k) ∧ Below w.heap.size w wr) (fun i _ => l.length - (intOf i).toNat)
  case atStart => exact ⟨0, Nat.zero_le _, rfl, Lib.hid (allTo_zero _ _ _), Below.refl _ _⟩
  case round =>
    obtain ⟨k, hk, rfl, hno, c⟩ := hrel
    have cw := Lib.hid c
    by_cases hlt : k < l.length
    · have i1 : (0 : Int) ≤ (k : Int) := by omega
      have i2 : (k : Int) < (l.length : Int) := by omega
      have hz := zL_at HS.out hlt
      change tInt.sz (l.getD k 0) ≤ 1048576 at hz
      have HST : Hid ((getB ba) (l.getD k 0) = true → AllTo (getB ba) 0 l (k + 1)) := Lib.hid (fun g => allTo_step hno.out g)
      have HNO : Hid ((getB ba) (l.getD k 0) = false → l.all (getB ba) = false) := Lib.hid (fun g => allB_no 0 hlt g)
      obtain ⟨b, off, cap', hv, hbl, hc⟩ := ints_cell (slR_ints (slR_below tInt_law H.out c)) (by omega)
      simp only [Value.slice.injEq] at hv
      obtain ⟨rfl, _, rfl⟩ := hv
      have e0 := hc k hlt
      clear hc hbl hz
      generalize l.getD k 0 = y at *
      have HC : Hid (Calls Try.prog 44 #[.agg #[.int .i64 sg, .int .i64 ba, .slice p2 n2 c2, .slice p3 n3 c3, .slice p4 n4 c4], .int .i64 y] wr (fun e w' => e = .returned (.bool (getB ba y)) ∧ Below wr.heap.size wr w')) := Lib.hid (canGet_any sg ba p2 p3 p4 n2 c2 n3 c3 n4 c4 y wr)
      clear hno c
      obtain ⟨bv, hbv⟩ : ∃ bv, bv = getB ba y := ⟨_, rfl⟩
      rw [← hbv] at HC HST HNO
      clear hbv
      cases bv with
      | true =>
        have HT := Lib.hid (HST.out rfl)
        clear HST HNO
        go_wp2_with fail
        refine HC.out.mono ?_
        rintro e w2 ⟨rfl, c2⟩
        have cw2 := Lib.hid (cw.out.trans (c2.mono cw.out.size))
        clear c2 HC e0
        go_wp2
        go_roundw
        case rel => exact ⟨k + 1, by omega, by go_num, HT, cw2.out⟩
        case measure => simp [intOf]; omega
      | false =>
        have HF := Lib.hid (HNO.out rfl)
        clear HST HNO
        go_wp2_with fail
        refine HC.out.mono ?_
        rintro e w2 ⟨rfl, c2⟩
        have cw2 := Lib.hid (cw.out.trans (c2.mono cw.out.size))
        clear c2 HC e0
        go_wp2
        go_ret
        exact ⟨ret_b HF.out.symm, cw2.out⟩
    · obtain rfl : k = l.length := by omega
      have HA := Lib.hid (allB_yes (p := getB ba) 0 hno.out)
      clear hno c
      go_wp2
      go_ret
      exact ⟨ret_b HA.out.symm, cw.out⟩
end Go.Proofs.Ytjapbmaibgplkaa
namespace Go.Proofs.Ytjapbmaibgplkaa
open Go.RowKit
set_option linter.unusedVariables false
set_option linter.unusedSimpArgs false
set_option maxHeartbeats 8000000 in
set_option maxRecDepth 100000 in
theorem implIsCharge (sg ba : Int) (v2 v3 v4 : Value) (x2 x3 x4 : List Int) (w : World) (h2 : SlR tInt w v2 x2) (h3 : SlR tInt w v3 x3) (h4 : SlR tInt w v4 x4) (s2 : zL tInt x2 ≤ 1048576) (s3 : zL tInt x3 ≤ 1048576) (s4 : zL tInt x4 ≤ 1048576) :
    Calls Try.prog 31 #[.agg #[.int .i64 sg, .int .i64 ba, v2, v3, v4]] w (fun e w' => e = .returned (.bool (chargeB (sg, ba, x2, x3, x4))) ∧ Below w.heap.size w w') := by
  obtain ⟨p2, c2, rfl⟩ := slR_len h2
  have H2 := Lib.hid h2; have S2 := Lib.hid s2; have n2 := zL_len s2
  obtain ⟨p3, c3, rfl⟩ := slR_len h3
  have H3 := Lib.hid h3; have S3 := Lib.hid s3; have n3 := zL_len s3
  obtain ⟨p4, c4, rfl⟩ := slR_len h4
  have H4 := Lib.hid h4; have S4 := Lib.hid s4; have n4 := zL_len s4
  have HMF : Hid (∀ (fn : Fn) (first cap : Array Value) (w : World), (Instr.makeFunc fn first cap).run Try.prog w = .ok (.func fn first cap) w) := Lib.hid (fun _ _ _ _ => rfl)
  clear h2 h3 h4 s2 s3 s4
  have d := Lib.hid (show Below w.heap.size w (w.alloc (.cells #[.int .i64 sg, .int .i64 ba, .slice p2 x2.length c2, .slice p3 x3.length c3, .slice p4 x4.length c4] 27)) from ((Below.refl _ w).alloc (Nat.le_refl _) _))
  have B0 : Hid ((w.alloc (.cells #[.int .i64 sg, .int .i64 ba, .slice p2 x2.length c2, .slice p3 x3.length c3, .slice p4 x4.length c4] 27)).heap[w.heap.size]? = some (.cells #[.int .i64 sg, .int .i64 ba, .slice p2 x2.length c2, .slice p3 x3.length c3, .slice p4 x4.length c4] 27 (0, 0))) := Lib.hid (by
    exact heap_alloc_new w _)
  have YW : Hid (w.heap.size + 1 ≤ (w.alloc (.cells #[.int .i64 sg, .int .i64 ba, .slice p2 x2.length c2, .slice p3 x3.length c3, .slice p4 x4.length c4] 27)).heap.size) := Lib.hid (by simp [World.size_alloc])
  go_enter Try.func31, Try.ntmps31
  go_wp2_with fail
  generalize (w.alloc (.cells #[.int .i64 sg, .int .i64 ba, .slice p2 x2.length c2, .slice p3 x3.length c3, .slice p4 x4.length c4] 27)) = W at *
  refine (implIsSet (.slice p2 x2.length c2) x2 W (slR_ints (slR_below tInt_law H2.out d.out)) n2).mono ?_
  rintro e W1 ⟨rfl, c⟩
  replace B0 := Lib.hid ((c.block w.heap.size (Array.getElem?_eq_some_iff.1 B0.out).1).trans B0.out)
  replace d := Lib.hid (d.out.trans (c.mono d.out.size))
  have Z_W1 := Lib.hid (show W.heap.size ≤ W1.heap.size from c.size)
  clear c
  rcases Bool.eq_false_or_eq_true (setB x2) with hset | hset
  rotate_left
  · rw [hset]
    have HF := Lib.hid (charge_no1 (x := (sg, ba, x2, x3, x4)) hset)
    clear hset
    have p_B0_0 := (cell_of_row W1 _ 0 _ _ _ B0.out).trans (show _ = some (Value.int .i64 sg) from rfl)
    have p_B0_1 := (cell_of_row W1 _ 1 _ _ _ B0.out).trans (show _ = some (Value.int .i64 ba) from rfl)
    have p_B0_2 := (cell_of_row W1 _ 2 _ _ _ B0.out).trans (show _ = some (Value.slice p2 x2.length c2) from rfl)
    have p_B0_3 := (cell_of_row W1 _ 3 _ _ _ B0.out).trans (show _ = some (Value.slice p3 x3.length c3) from rfl)
    have p_B0_4 := (cell_of_row W1 _ 4 _ _ _ B0.out).trans (show _ = some (Value.slice p4 x4.length c4) from rfl)
    go_wp2
    clear p_B0_0 p_B0_1 p_B0_2 p_B0_3 p_B0_4
    go_ret
    exact ⟨ret_b HF.out.symm, d.out⟩
  rw [hset]
  have HSET := Lib.hid hset
  clear hset
  by_cases hp1 : 1 ≤ x2.length
  rotate_left
  · have HF := Lib.hid (charge_no2 (x := (sg, ba, x2, x3, x4)) (fun g => hp1 g.1.1))
    have f1 : decide (1 ≤ (x2.length : Int)) = false := decide_eq_false (by omega)
    clear hp1
    have p_B0_0 := (cell_of_row W1 _ 0 _ _ _ B0.out).trans (show _ = some (Value.int .i64 sg) from rfl)
    have p_B0_1 := (cell_of_row W1 _ 1 _ _ _ B0.out).trans (show _ = some (Value.int .i64 ba) from rfl)
    have p_B0_2 := (cell_of_row W1 _ 2 _ _ _ B0.out).trans (show _ = some (Value.slice p2 x2.length c2) from rfl)
    have p_B0_3 := (cell_of_row W1 _ 3 _ _ _ B0.out).trans (show _ = some (Value.slice p3 x3.length c3) from rfl)
    have p_B0_4 := (cell_of_row W1 _ 4 _ _ _ B0.out).trans (show _ = some (Value.slice p4 x4.length c4) from rfl)
    go_wp2
    clear p_B0_0 p_B0_1 p_B0_2 p_B0_3 p_B0_4
    go_ret
    exact ⟨ret_b HF.out.symm, d.out⟩
  have f1 : decide (1 ≤ (x2.length : Int)) = true := decide_eq_true (by omega)
  have HP1 := Lib.hid hp1
  clear hp1
  by_cases hp2 : x2.length ≤ 8
  rotate_left
  · have HF := Lib.hid (charge_no2 (x := (sg, ba, x2, x3, x4)) (fun g => hp2 g.1.2))
    have f2 : decide ((x2.length : Int) ≤ 8) = false := decide_eq_false (by omega)
    clear hp2
    have p_B0_0 := (cell_of_row W1 _ 0 _ _ _ B0.out).trans (show _ = some (Value.int .i64 sg) from rfl)
    have p_B0_1 := (cell_of_row W1 _ 1 _ _ _ B0.out).trans (show _ = some (Value.int .i64 ba) from rfl)
    have p_B0_2 := (cell_of_row W1 _ 2 _ _ _ B0.out).trans (show _ = some (Value.slice p2 x2.length c2) from rfl)
    have p_B0_3 := (cell_of_row W1 _ 3 _ _ _ B0.out).trans (show _ = some (Value.slice p3 x3.length c3) from rfl)
    have p_B0_4 := (cell_of_row W1 _ 4 _ _ _ B0.out).trans (show _ = some (Value.slice p4 x4.length c4) from rfl)
    go_wp2
    clear p_B0_0 p_B0_1 p_B0_2 p_B0_3 p_B0_4
    go_ret
    exact ⟨ret_b HF.out.symm, d.out⟩
  have f2 : decide ((x2.length : Int) ≤ 8) = true := decide_eq_true (by omega)
  have HP2 := Lib.hid hp2
  clear hp2
  by_cases hp3 : x3.length = x2.length
  rotate_left
  · have HF := Lib.hid (charge_no2 (x := (sg, ba, x2, x3, x4)) (fun g => hp3 g.2.1.1))
    have f3 : ((x3.length : Int) == (x2.length : Int)) = false := by simp only [beq_eq_false_iff_ne, ne_eq]; omega
    clear hp3
    have p_B0_0 := (cell_of_row W1 _ 0 _ _ _ B0.out).trans (show _ = some (Value.int .i64 sg) from rfl)
    have p_B0_1 := (cell_of_row W1 _ 1 _ _ _ B0.out).trans (show _ = some (Value.int .i64 ba) from rfl)
    have p_B0_2 := (cell_of_row W1 _ 2 _ _ _ B0.out).trans (show _ = some (Value.slice p2 x2.length c2) from rfl)
    have p_B0_3 := (cell_of_row W1 _ 3 _ _ _ B0.out).trans (show _ = some (Value.slice p3 x3.length c3) from rfl)
    have p_B0_4 := (cell_of_row W1 _ 4 _ _ _ B0.out).trans (show _ = some (Value.slice p4 x4.length c4) from rfl)
    go_wp2
    clear p_B0_0 p_B0_1 p_B0_2 p_B0_3 p_B0_4
    go_ret
    exact ⟨ret_b HF.out.symm, d.out⟩
  have f3 : ((x3.length : Int) == (x2.length : Int)) = true := by simp only [beq_iff_eq]; omega
  have HP3 := Lib.hid hp3
  clear hp3
  by_cases hp4 : x4.length = x2.length
  rotate_left
  · have HF := Lib.hid (charge_no2 (x := (sg, ba, x2, x3, x4)) (fun g => hp4 g.2.1.2))
    have f4 : ((x4.length : Int) == (x2.length : Int)) = false := by simp only [beq_eq_false_iff_ne, ne_eq]; omega
    clear hp4
    have p_B0_0 := (cell_of_row W1 _ 0 _ _ _ B0.out).trans (show _ = some (Value.int .i64 sg) from rfl)
    have p_B0_1 := (cell_of_row W1 _ 1 _ _ _ B0.out).trans (show _ = some (Value.int .i64 ba) from rfl)
    have p_B0_2 := (cell_of_row W1 _ 2 _ _ _ B0.out).trans (show _ = some (Value.slice p2 x2.length c2) from rfl)
    have p_B0_3 := (cell_of_row W1 _ 3 _ _ _ B0.out).trans (show _ = some (Value.slice p3 x3.length c3) from rfl)
    have p_B0_4 := (cell_of_row W1 _ 4 _ _ _ B0.out).trans (show _ = some (Value.slice p4 x4.length c4) from rfl)
    go_wp2
    clear p_B0_0 p_B0_1 p_B0_2 p_B0_3 p_B0_4
    go_ret
    exact ⟨ret_b HF.out.symm, d.out⟩
  have f4 : ((x4.length : Int) == (x2.length : Int)) = true := by simp only [beq_iff_eq]; omega
  have HP4 := Lib.hid hp4
  clear hp4
  by_cases hp5 : 0 ≤ sg
  rotate_left
  · have HF := Lib.hid (charge_no2 (x := (sg, ba, x2, x3, x4)) (fun g => hp5 g.2.2.1.1))
    have f5 : decide (0 ≤ sg) = false := decide_eq_false (by omega)
    clear hp5
    have p_B0_0 := (cell_of_row W1 _ 0 _ _ _ B0.out).trans (show _ = some (Value.int .i64 sg) from rfl)
    have p_B0_1 := (cell_of_row W1 _ 1 _ _ _ B0.out).trans (show _ = some (Value.int .i64 ba) from rfl)
    have p_B0_2 := (cell_of_row W1 _ 2 _ _ _ B0.out).trans (show _ = some (Value.slice p2 x2.length c2) from rfl)
    have p_B0_3 := (cell_of_row W1 _ 3 _ _ _ B0.out).trans (show _ = some (Value.slice p3 x3.length c3) from rfl)
    have p_B0_4 := (cell_of_row W1 _ 4 _ _ _ B0.out).trans (show _ = some (Value.slice p4 x4.length c4) from rfl)
    go_wp2
    clear p_B0_0 p_B0_1 p_B0_2 p_B0_3 p_B0_4
    go_ret
    exact ⟨ret_b HF.out.symm, d.out⟩
  have f5 : decide (0 ≤ sg) = true := decide_eq_true (by omega)
  have HP5 := Lib.hid hp5
  clear hp5
  by_cases hp6 : sg < 8
  rotate_left
  · have HF := Lib.hid (charge_no2 (x := (sg, ba, x2, x3, x4)) (fun g => hp6 (by have := g.2.2.1.2; show sg < 8; simp only at this; omega)))
    have f6 : decide (sg < 8) = false := decide_eq_false (by omega)
    clear hp6
    have p_B0_0 := (cell_of_row W1 _ 0 _ _ _ B0.out).trans (show _ = some (Value.int .i64 sg) from rfl)
    have p_B0_1 := (cell_of_row W1 _ 1 _ _ _ B0.out).trans (show _ = some (Value.int .i64 ba) from rfl)
    have p_B0_2 := (cell_of_row W1 _ 2 _ _ _ B0.out).trans (show _ = some (Value.slice p2 x2.length c2) from rfl)
    have p_B0_3 := (cell_of_row W1 _ 3 _ _ _ B0.out).trans (show _ = some (Value.slice p3 x3.length c3) from rfl)
    have p_B0_4 := (cell_of_row W1 _ 4 _ _ _ B0.out).trans (show _ = some (Value.slice p4 x4.length c4) from rfl)
    go_wp2
    clear p_B0_0 p_B0_1 p_B0_2 p_B0_3 p_B0_4
    go_ret
    exact ⟨ret_b HF.out.symm, d.out⟩
  have f6 : decide (sg < 8) = true := decide_eq_true (by omega)
  have HP6 := Lib.hid hp6
  clear hp6
  by_cases hp7 : 0 ≤ ba
  rotate_left
  · have HF := Lib.hid (charge_no2 (x := (sg, ba, x2, x3, x4)) (fun g => hp7 g.2.2.2.1))
    have f7 : decide (0 ≤ ba) = false := decide_eq_false (by omega)
    clear hp7
    have p_B0_0 := (cell_of_row W1 _ 0 _ _ _ B0.out).trans (show _ = some (Value.int .i64 sg) from rfl)
    have p_B0_1 := (cell_of_row W1 _ 1 _ _ _ B0.out).trans (show _ = some (Value.int .i64 ba) from rfl)
    have p_B0_2 := (cell_of_row W1 _ 2 _ _ _ B0.out).trans (show _ = some (Value.slice p2 x2.length c2) from rfl)
    have p_B0_3 := (cell_of_row W1 _ 3 _ _ _ B0.out).trans (show _ = some (Value.slice p3 x3.length c3) from rfl)
    have p_B0_4 := (cell_of_row W1 _ 4 _ _ _ B0.out).trans (show _ = some (Value.slice p4 x4.length c4) from rfl)
    go_wp2
    clear p_B0_0 p_B0_1 p_B0_2 p_B0_3 p_B0_4
    go_ret
    exact ⟨ret_b HF.out.symm, d.out⟩
  have f7 : decide (0 ≤ ba) = true := decide_eq_true (by omega)
  have HP7 := Lib.hid hp7
  clear hp7
  by_cases hp8 : ba ≤ 4
  rotate_left
  · have HF := Lib.hid (charge_no2 (x := (sg, ba, x2, x3, x4)) (fun g => hp8 g.2.2.2.2))
    have f8 : decide (ba ≤ 4) = false := decide_eq_false (by omega)
    clear hp8
    have p_B0_0 := (cell_of_row W1 _ 0 _ _ _ B0.out).trans (show _ = some (Value.int .i64 sg) from rfl)
    have p_B0_1 := (cell_of_row W1 _ 1 _ _ _ B0.out).trans (show _ = some (Value.int .i64 ba) from rfl)
    have p_B0_2 := (cell_of_row W1 _ 2 _ _ _ B0.out).trans (show _ = some (Value.slice p2 x2.length c2) from rfl)
    have p_B0_3 := (cell_of_row W1 _ 3 _ _ _ B0.out).trans (show _ = some (Value.slice p3 x3.length c3) from rfl)
    have p_B0_4 := (cell_of_row W1 _ 4 _ _ _ B0.out).trans (show _ = some (Value.slice p4 x4.length c4) from rfl)
    go_wp2
    clear p_B0_0 p_B0_1 p_B0_2 p_B0_3 p_B0_4
    go_ret
    exact ⟨ret_b HF.out.symm, d.out⟩
  have f8 : decide (ba ≤ 4) = true := decide_eq_true (by omega)
  have HP8 := Lib.hid hp8
  clear hp8
  have HH : Hid (chargeHP (sg, ba, x2, x3, x4)) := Lib.hid ⟨⟨HP1.out, HP2.out⟩, ⟨HP3.out, HP4.out⟩, ⟨HP5.out, by have := HP6.out; show sg ≤ 7; omega⟩, ⟨HP7.out, HP8.out⟩⟩
  have p_B0_0 := (cell_of_row W1 _ 0 _ _ _ B0.out).trans (show _ = some (Value.int .i64 sg) from rfl)
  have p_B0_1 := (cell_of_row W1 _ 1 _ _ _ B0.out).trans (show _ = some (Value.int .i64 ba) from rfl)
  have p_B0_2 := (cell_of_row W1 _ 2 _ _ _ B0.out).trans (show _ = some (Value.slice p2 x2.length c2) from rfl)
  have p_B0_3 := (cell_of_row W1 _ 3 _ _ _ B0.out).trans (show _ = some (Value.slice p3 x3.length c3) from rfl)
  have p_B0_4 := (cell_of_row W1 _ 4 _ _ _ B0.out).trans (show _ = some (Value.slice p4 x4.length c4) from rfl)
  go_wp2_with fail
  clear p_B0_0 p_B0_1 p_B0_2 p_B0_3 p_B0_4 f1 f2 f3 f4 f5 f6 f7 f8
  refine (allTen (.slice p3 x3.length c3) x3 W1 (slR_below tInt_law H3.out d.out) S3.out).mono ?_
  rintro e W8 ⟨rfl, c⟩
  replace B0 := Lib.hid ((c.block w.heap.size (Array.getElem?_eq_some_iff.1 B0.out).1).trans B0.out)
  replace d := Lib.hid (d.out.trans (c.mono d.out.size))
  have Z_W8 := Lib.hid (show W1.heap.size ≤ W8.heap.size from c.size)
  clear c
  rcases Bool.eq_false_or_eq_true (x3.all tenB) with hten | hten
  rotate_left
  · rw [hten]
    have HF := Lib.hid (charge_no3 (x := (sg, ba, x2, x3, x4)) hten)
    clear hten
    have p_B0_0 := (cell_of_row W8 _ 0 _ _ _ B0.out).trans (show _ = some (Value.int .i64 sg) from rfl)
    have p_B0_1 := (cell_of_row W8 _ 1 _ _ _ B0.out).trans (show _ = some (Value.int .i64 ba) from rfl)
    have p_B0_2 := (cell_of_row W8 _ 2 _ _ _ B0.out).trans (show _ = some (Value.slice p2 x2.length c2) from rfl)
    have p_B0_3 := (cell_of_row W8 _ 3 _ _ _ B0.out).trans (show _ = some (Value.slice p3 x3.length c3) from rfl)
    have p_B0_4 := (cell_of_row W8 _ 4 _ _ _ B0.out).trans (show _ = some (Value.slice p4 x4.length c4) from rfl)
    go_wp2
    clear p_B0_0 p_B0_1 p_B0_2 p_B0_3 p_B0_4
    go_ret
    exact ⟨ret_b HF.out.symm, d.out⟩
  rw [hten]
  have HTEN := Lib.hid hten
  clear hten
  have p_B0_0 := (cell_of_row W8 _ 0 _ _ _ B0.out).trans (show _ = some (Value.int .i64 sg) from rfl)
  have p_B0_1 := (cell_of_row W8 _ 1 _ _ _ B0.out).trans (show _ = some (Value.int .i64 ba) from rfl)
  have p_B0_2 := (cell_of_row W8 _ 2 _ _ _ B0.out).trans (show _ = some (Value.slice p2 x2.length c2) from rfl)
  have p_B0_3 := (cell_of_row W8 _ 3 _ _ _ B0.out).trans (show _ = some (Value.slice p3 x3.length c3) from rfl)
  have p_B0_4 := (cell_of_row W8 _ 4 _ _ _ B0.out).trans (show _ = some (Value.slice p4 x4.length c4) from rfl)
  have hmf := HMF.out
  go_wp2_with fail
  clear p_B0_0 p_B0_1 p_B0_2 p_B0_3 p_B0_4 hmf
  refine (allGet sg ba p2 p3 p4 x2.length c2 x3.length c3 x4.length c4 (.slice p4 x4.length c4) x4 W8 (slR_below tInt_law H4.out d.out) S4.out).mono ?_
  rintro e W9 ⟨rfl, c⟩
  replace B0 := Lib.hid ((c.block w.heap.size (Array.getElem?_eq_some_iff.1 B0.out).1).trans B0.out)
  replace d := Lib.hid (d.out.trans (c.mono d.out.size))
  have Z_W9 := Lib.hid (show W8.heap.size ≤ W9.heap.size from c.size)
  clear c
  have HT : Hid (x4.all (getB ba) = chargeB (sg, ba, x2, x3, x4)) := Lib.hid (by
    rcases Bool.eq_false_or_eq_true (x4.all (getB ba)) with g | g
    · rw [g]; exact (charge_yes (x := (sg, ba, x2, x3, x4)) HSET.out HH.out HTEN.out g).symm
    · rw [g]; exact (charge_no4 (x := (sg, ba, x2, x3, x4)) g).symm)
  rw [HT.out]
  have p_B0_0 := (cell_of_row W9 _ 0 _ _ _ B0.out).trans (show _ = some (Value.int .i64 sg) from rfl)
  have p_B0_1 := (cell_of_row W9 _ 1 _ _ _ B0.out).trans (show _ = some (Value.int .i64 ba) from rfl)
  have p_B0_2 := (cell_of_row W9 _ 2 _ _ _ B0.out).trans (show _ = some (Value.slice p2 x2.length c2) from rfl)
  have p_B0_3 := (cell_of_row W9 _ 3 _ _ _ B0.out).trans (show _ = some (Value.slice p3 x3.length c3) from rfl)
  have p_B0_4 := (cell_of_row W9 _ 4 _ _ _ B0.out).trans (show _ = some (Value.slice p4 x4.length c4) from rfl)
  go_wp2
  clear p_B0_0 p_B0_1 p_B0_2 p_B0_3 p_B0_4
  go_ret
  exact ⟨rfl, d.out⟩
end Go.Proofs.Ytjapbmaibgplkaa
namespace Go.Proofs.Ytjapbmaibgplkaa
open Go.RowKit
set_option linter.unusedVariables false
set_option linter.unusedSimpArgs false
set_option maxHeartbeats 8000000 in
set_option maxRecDepth 100000 in
theorem implWorkDone (sg ba : Int) (v2 v3 v4 : Value) (x2 x3 x4 : List Int) (w : World) (h2 : SlR tInt w v2 x2) (h3 : SlR tInt w v3 x3) (h4 : SlR tInt w v4 x4) (s2 : zL tInt x2 ≤ 1048576) (s3 : zL tInt x3 ≤ 1048576) (s4 : zL tInt x4 ≤ 1048576) :
    Calls Try.prog 18 #[.agg #[.int .i64 sg, .int .i64 ba, v2, v3, v4]] w (fun e w' => e = .returned (.int .i64 (workX (sg, ba, x2, x3, x4))) ∧ Below w.heap.size w w') := by
  obtain ⟨p2, c2, rfl⟩ := slR_len h2
  have H2 := Lib.hid h2
  obtain ⟨p3, c3, rfl⟩ := slR_len h3
  have H3 := Lib.hid h3
  obtain ⟨p4, c4, rfl⟩ := slR_len h4
  have H4 := Lib.hid h4
  clear h2 h3 h4
  have S2 := Lib.hid s2; have S3 := Lib.hid s3; have S4 := Lib.hid s4; have n2 := zL_len s2; have n3 := zL_len s3; have n4 := zL_len s4
  clear s2 s3 s4
  have d := Lib.hid (show Below w.heap.size w (w.alloc (.cells #[.int .i64 sg, .int .i64 ba, .slice p2 x2.length c2, .slice p3 x3.length c3, .slice p4 x4.length c4] 27)) from ((Below.refl _ w).alloc (Nat.le_refl _) _))
  have B0 : Hid ((w.alloc (.cells #[.int .i64 sg, .int .i64 ba, .slice p2 x2.length c2, .slice p3 x3.length c3, .slice p4 x4.length c4] 27)).heap[w.heap.size]? = some (.cells #[.int .i64 sg, .int .i64 ba, .slice p2 x2.length c2, .slice p3 x3.length c3, .slice p4 x4.length c4] 27 (0, 0))) := Lib.hid (by
    exact heap_alloc_new w _)
  have YW : Hid (w.heap.size + 1 ≤ (w.alloc (.cells #[.int .i64 sg, .int .i64 ba, .slice p2 x2.length c2, .slice p3 x3.length c3, .slice p4 x4.length c4] 27)).heap.size) := Lib.hid (by simp [World.size_alloc])
  go_enter Try.func18, Try.ntmps18
  go_wp2_with fail
  generalize (w.alloc (.cells #[.int .i64 sg, .int .i64 ba, .slice p2 x2.length c2, .slice p3 x3.length c3, .slice p4 x4.length c4] 27)) = W at *
  refine (implIsCharge sg ba (.slice p2 x2.length c2) (.slice p3 x3.length c3) (.slice p4 x4.length c4) x2 x3 x4 W (slR_below tInt_law H2.out d.out) (slR_below tInt_law H3.out d.out) (slR_below tInt_law H4.out d.out) S2.out S3.out S4.out).mono ?_
  rintro e W1 ⟨rfl, c⟩
  replace B0 := Lib.hid ((c.block w.heap.size (Array.getElem?_eq_some_iff.1 B0.out).1).trans B0.out)
  replace d := Lib.hid (d.out.trans (c.mono d.out.size))
  have Z_W1 := Lib.hid (show W.heap.size ≤ W1.heap.size from c.size)
  clear c
  rcases Bool.eq_false_or_eq_true (chargeB (sg, ba, x2, x3, x4)) with hch | hch
  rotate_left
  · rw [hch]
    have HF := Lib.hid (workX_no hch)
    clear hch
    have p_B0_0 := (cell_of_row W1 _ 0 _ _ _ B0.out).trans (show _ = some (Value.int .i64 sg) from rfl)
    have p_B0_1 := (cell_of_row W1 _ 1 _ _ _ B0.out).trans (show _ = some (Value.int .i64 ba) from rfl)
    have p_B0_2 := (cell_of_row W1 _ 2 _ _ _ B0.out).trans (show _ = some (Value.slice p2 x2.length c2) from rfl)
    have p_B0_3 := (cell_of_row W1 _ 3 _ _ _ B0.out).trans (show _ = some (Value.slice p3 x3.length c3) from rfl)
    have p_B0_4 := (cell_of_row W1 _ 4 _ _ _ B0.out).trans (show _ = some (Value.slice p4 x4.length c4) from rfl)
    go_wp2
    clear p_B0_0 p_B0_1 p_B0_2 p_B0_3 p_B0_4
    go_ret
    exact ⟨ret_n HF.out.symm, d.out⟩
  rw [hch]
  have HCH := Lib.hid hch
  have HP := Lib.hid (charge_iff hch).2.1
  clear hch
  have p_B0_0 := (cell_of_row W1 _ 0 _ _ _ B0.out).trans (show _ = some (Value.int .i64 sg) from rfl)
  have p_B0_1 := (cell_of_row W1 _ 1 _ _ _ B0.out).trans (show _ = some (Value.int .i64 ba) from rfl)
  have p_B0_2 := (cell_of_row W1 _ 2 _ _ _ B0.out).trans (show _ = some (Value.slice p2 x2.length c2) from rfl)
  have p_B0_3 := (cell_of_row W1 _ 3 _ _ _ B0.out).trans (show _ = some (Value.slice p3 x3.length c3) from rfl)
  have p_B0_4 := (cell_of_row W1 _ 4 _ _ _ B0.out).trans (show _ = some (Value.slice p4 x4.length c4) from rfl)
  go_wp2
  go_loop [3, 14] (fun n i => ∃ (k : Nat) (s : Int), k ≤ x4.length ∧ i = .int .i64 k ∧ n = .int .i64 s ∧ Hid (s = ba + accN (rowI (sg, ba, x2, x3, x4)) k)) (fun _ i => x4.length - (intOf i).toNat)
  case atStart => exact ⟨0, ba, Nat.zero_le _, rfl, rfl, Lib.hid (Int.add_zero ba).symm⟩
  case round =>
    obtain ⟨k, s, hk, rfl, rfl, hs⟩ := hrel
    have s1 : 0 ≤ s ∧ s ≤ 100 := by
      have q1 := rows_sum HCH.out hk
      have q2 := HP.out
      have q3 := hs.out
      obtain ⟨⟨_, q4⟩, ⟨_, q5⟩, _, q6, q7⟩ := q2
      simp only at q4 q5 q6 q7 q1 hk
      omega
    obtain ⟨s1, s2⟩ := s1
    by_cases hlt : k < x4.length
    · have i1 : (0 : Int) ≤ (k : Int) := by omega
      have i2 : (k : Int) < (x4.length : Int) := by omega
      have HY := chg_row (x := (sg, ba, x2, x3, x4)) HCH.out hlt
      have hba : ba ≤ 4 := HP.out.2.2.2.2
      have HN : Hid (s + x4.getD k 0 = ba + accN (rowI (sg, ba, x2, x3, x4)) (k + 1)) := Lib.hid (by
        have := hs.out
        show s + x4.getD k 0 = ba + (accN (rowI (sg, ba, x2, x3, x4)) k + x4.getD k 0)
        omega)
      simp only at HY
      obtain ⟨y1, y2⟩ := HY
      clear hs
      obtain ⟨be0, offe0, cape0, hv, hbl, hc⟩ := ints_cell (slR_ints (slR_below tInt_law H4.out d.out)) (by omega)
      simp only [Value.slice.injEq] at hv
      obtain ⟨rfl, _, rfl⟩ := hv
      have e0 := hc k (by omega)
      clear hc hbl
      generalize x4.getD k 0 = y at *
      have y3 : y ≤ 100 := by omega
      clear y2 hba
      go_wp2
      go_round
      case rel => exact ⟨k + 1, s + y, by omega, by go_num, rfl, HN⟩
      case measure => simp [intOf]; omega
    · obtain rfl : k = x4.length := by omega
      have HT : Hid (s = workX (sg, ba, x2, x3, x4)) := Lib.hid (by rw [workX_yes HCH.out]; exact hs.out)
      clear hs
      go_wp2
      go_ret
      exact ⟨ret_n HT.out, d.out⟩
end Go.Proofs.Ytjapbmaibgplkaa
namespace Go.Proofs.Ytjapbmaibgplkaa
open Go.RowKit
set_option linter.unusedVariables false
set_option linter.unusedSimpArgs false
set_option maxHeartbeats 8000000 in
set_option maxRecDepth 100000 in
theorem divClos (i q r : Int) (g h : Nat) (w : World) (hq : 0 ≤ q ∧ q ≤ 4) (hg : w.heap[g]? = some (.cells #[.int .i64 q] 3 (0, 0))) (hh : w.heap[h]? = some (.cells #[.int .i64 r] 3 (0, 0))) :
    Calls Try.prog 45 #[.int .i64 i, .pointer (some ⟨h, 0, none⟩), .pointer (some ⟨g, 0, none⟩)] w (fun e w' => e = .returned (.int .i64 (shB q r i)) ∧ Below w.heap.size w w') := by
  have cg := (cell_of_row w _ 0 _ _ _ hg).trans (show _ = some (Value.int .i64 q) from rfl)
  have ch := (cell_of_row w _ 0 _ _ _ hh).trans (show _ = some (Value.int .i64 r) from rfl)
  have d := Lib.hid (Below.refl w.heap.size w)
  obtain ⟨q1, q2⟩ := hq
  clear hg hh
  by_cases hlt : i < r
  · have HF := Lib.hid (shB_yes (q := q) hlt)
    have f1 : decide (i < r) = true := decide_eq_true hlt
    clear hlt
    go_enter Try.func45, Try.ntmps45
    go_wp2
    go_ret
    exact ⟨ret_n HF.out.symm, d.out⟩
  · have HF := Lib.hid (shB_no (q := q) hlt)
    have f1 : decide (i < r) = false := decide_eq_false hlt
    clear hlt
    go_enter Try.func45, Try.ntmps45
    go_wp2
    go_ret
    exact ⟨ret_n HF.out.symm, d.out⟩
/-- The closure of the shares, and what it captured. -/
def DivFn (w : World) (q r : Int) (e : Ending) (w' : World) : Prop := ∃ g h : Nat, e = .returned (.func (.func 45) #[] #[.pointer (some ⟨h, 0, none⟩), .pointer (some ⟨g, 0, none⟩)]) ∧ w'.heap[g]? = some (.cells #[.int .i64 q] 3 (0, 0)) ∧ w'.heap[h]? = some (.cells #[.int .i64 r] 3 (0, 0)) ∧ Below w.heap.size w w'
set_option maxHeartbeats 8000000 in
set_option maxRecDepth 100000 in
theorem divideBase_any (sg ba : Int) (v2 v3 v4 : Value) (x2 x3 x4 : List Int) (w : World) (h2 : SlR tInt w v2 x2) (h3 : SlR tInt w v3 x3) (h4 : SlR tInt w v4 x4) (s2 : zL tInt x2 ≤ 1048576) (s3 : zL tInt x3 ≤ 1048576) (s4 : zL tInt x4 ≤ 1048576) (hch : chargeB (sg, ba, x2, x3, x4) = true) :
    Calls Try.prog 32 #[.agg #[.int .i64 sg, .int .i64 ba, v2, v3, v4]] w (DivFn w (ba / (x2.length : Int)) (ba % (x2.length : Int))) := by
  obtain ⟨p2, c2, rfl⟩ := slR_len h2
  have H2 := Lib.hid h2
  obtain ⟨p3, c3, rfl⟩ := slR_len h3
  have H3 := Lib.hid h3
  obtain ⟨p4, c4, rfl⟩ := slR_len h4
  have H4 := Lib.hid h4
  clear h2 h3 h4
  have S2 := Lib.hid s2; have S3 := Lib.hid s3; have S4 := Lib.hid s4
  have n2 := zL_len s2; have n3 := zL_len s3; have n4 := zL_len s4
  clear s2 s3 s4
  have HP := Lib.hid (charge_iff hch).2.1
  have hba : 0 ≤ ba ∧ ba ≤ 4 := HP.out.2.2.2
  have hl8 : 1 ≤ x2.length ∧ x2.length ≤ 8 := HP.out.1
  have hdv := base_div (x := (sg, ba, x2, x3, x4)) hch
  dsimp only at hdv
  have t1 : ba.tdiv (x2.length : Int) = ba / (x2.length : Int) := Int.tdiv_eq_ediv_of_nonneg hba.1
  have t2 : ba.tmod (x2.length : Int) = ba % (x2.length : Int) := Int.tmod_eq_emod_of_nonneg hba.1
  generalize ba / (x2.length : Int) = q at *
  generalize ba % (x2.length : Int) = r at *
  obtain ⟨q1, q2, r1, r2⟩ := hdv
  obtain ⟨a1, a2⟩ := hba
  obtain ⟨l1, l2⟩ := hl8
  have T1 := Lib.hid t1; have T2 := Lib.hid t2
  have HMF : Hid (∀ (fn : Fn) (first cap : Array Value) (w : World), (Instr.makeFunc fn first cap).run Try.prog w = .ok (.func fn first cap) w) := Lib.hid (fun _ _ _ _ => rfl)
  clear t1 t2 hch
  have d := Lib.hid (show Below w.heap.size w (w.alloc (.cells #[.int .i64 sg, .int .i64 ba, .slice p2 x2.length c2, .slice p3 x3.length c3, .slice p4 x4.length c4] 27)) from ((Below.refl _ w).alloc (Nat.le_refl _) _))
  have B0 : Hid ((w.alloc (.cells #[.int .i64 sg, .int .i64 ba, .slice p2 x2.length c2, .slice p3 x3.length c3, .slice p4 x4.length c4] 27)).heap[w.heap.size]? = some (.cells #[.int .i64 sg, .int .i64 ba, .slice p2 x2.length c2, .slice p3 x3.length c3, .slice p4 x4.length c4] 27 (0, 0))) := Lib.hid (by
    exact heap_alloc_new w _)
  have YW : Hid (w.heap.size + 1 ≤ (w.alloc (.cells #[.int .i64 sg, .int .i64 ba, .slice p2 x2.length c2, .slice p3 x3.length c3, .slice p4 x4.length c4] 27)).heap.size) := Lib.hid (by simp [World.size_alloc])
  go_enter Try.func32, Try.ntmps32
  go_wp2
  generalize (w.alloc (.cells #[.int .i64 sg, .int .i64 ba, .slice p2 x2.length c2, .slice p3 x3.length c3, .slice p4 x4.length c4] 27)) = W at *
  have g1 := T1.out; have g2 := T2.out
  have g3 : IntKind.i64.wrap q = q := IntWalk.i64_in _ (by omega)
  have g4 : ((x2.length : Int) == 0) = false := by rw [beq_eq_false_iff_ne]; omega
  have g5 : ¬ (x2.length : Int) = 0 := by omega
  have g6 : ¬ x2 = [] := fun h => by rw [h] at l1; simp at l1
  have g7 : IntKind.i64.wrap r = r := IntWalk.i64_in _ (by omega)
  have p_B0_0 := (cell_of_row W _ 0 _ _ _ B0.out).trans (show _ = some (Value.int .i64 sg) from rfl)
  have p_B0_1 := (cell_of_row W _ 1 _ _ _ B0.out).trans (show _ = some (Value.int .i64 ba) from rfl)
  have p_B0_2 := (cell_of_row W _ 2 _ _ _ B0.out).trans (show _ = some (Value.slice p2 x2.length c2) from rfl)
  have p_B0_3 := (cell_of_row W _ 3 _ _ _ B0.out).trans (show _ = some (Value.slice p3 x3.length c3) from rfl)
  have p_B0_4 := (cell_of_row W _ 4 _ _ _ B0.out).trans (show _ = some (Value.slice p4 x4.length c4) from rfl)
  refine wp_region_held_drew (S := fun w' => w'.cell? ⟨w.heap.size, 0, none⟩ = some (Value.int .i64 sg) ∧ w'.cell? ⟨w.heap.size, 1, none⟩ = some (Value.int .i64 ba) ∧ w'.cell? ⟨w.heap.size, 2, none⟩ = some (Value.slice p2 x2.length c2) ∧ w'.cell? ⟨w.heap.size, 3, none⟩ = some (Value.slice p3 x3.length c3) ∧ w'.cell? ⟨w.heap.size, 4, none⟩ = some (Value.slice p4 x4.length c4)) (by kernel_rfl) ⟨p_B0_0, p_B0_1, p_B0_2, p_B0_3, p_B0_4⟩ (fun hHeld => ?_)
  clear p_B0_0 p_B0_1 p_B0_2 p_B0_3 p_B0_4
  have cdr : Below W.heap.size W W.drew := below_drew (Below.refl _ _)
  replace B0 := Lib.hid ((cdr.block w.heap.size (Array.getElem?_eq_some_iff.1 B0.out).1).trans B0.out)
  replace d := Lib.hid (d.out.trans (cdr.mono d.out.size))
  clear cdr
  have Z_dr := Lib.hid (show W.heap.size ≤ W.drew.heap.size from Nat.le_refl _)
  generalize W.drew = Wd at *
  refine take_runs (i := 0) (v := ?_) (by simp only [List.getElem?_toArray, List.getElem?_cons_succ, List.getElem?_cons_zero]; rfl) (by kernel_rfl) (by kernel_rfl) (by kernel_rfl) rfl (by exact fun _ _ _ h => h) (by rfl) ?_ (by assumption) ?_
  rotate_left
  · intro w hSw; (try dsimp only at hSw); go_simp; try (with_reducible rfl)
  try simp only [Act.put, List.setIfInBounds_toArray, List.set_cons_zero, List.set_cons_succ]
  refine take_runs (i := 1) (v := ?_) (by simp only [List.getElem?_toArray, List.getElem?_cons_succ, List.getElem?_cons_zero]; rfl) (by kernel_rfl) (by kernel_rfl) (by kernel_rfl) rfl (by exact fun _ _ _ h => h) (by rfl) ?_ (by assumption) ?_
  rotate_left
  · intro w hSw; (try dsimp only at hSw); go_simp; try (with_reducible rfl)
  try simp only [Act.put, List.setIfInBounds_toArray, List.set_cons_zero, List.set_cons_succ]
  refine take_runs (i := 2) (v := ?_) (by simp only [List.getElem?_toArray, List.getElem?_cons_succ, List.getElem?_cons_zero]; rfl) (by kernel_rfl) (by kernel_rfl) (by kernel_rfl) rfl (by exact fun _ _ _ h => h) (by rfl) ?_ (by assumption) ?_
  rotate_left
  · intro w hSw; (try dsimp only at hSw); go_simp; try (with_reducible rfl)
  try simp only [Act.put, List.setIfInBounds_toArray, List.set_cons_zero, List.set_cons_succ]
  refine take_runs (i := 3) (v := ?_) (by simp only [List.getElem?_toArray, List.getElem?_cons_succ, List.getElem?_cons_zero]; rfl) (by kernel_rfl) (by kernel_rfl) (by kernel_rfl) rfl (by exact fun _ _ _ h => h) (by rfl) ?_ (by assumption) ?_
  rotate_left
  · intro w hSw; (try dsimp only at hSw); go_simp; try (with_reducible rfl)
  try simp only [Act.put, List.setIfInBounds_toArray, List.set_cons_zero, List.set_cons_succ]
  refine take_runs (i := 4) (v := ?_) (by simp only [List.getElem?_toArray, List.getElem?_cons_succ, List.getElem?_cons_zero]; rfl) (by kernel_rfl) (by kernel_rfl) (by kernel_rfl) rfl (by exact fun _ _ _ h => h) (by rfl) ?_ (by assumption) ?_
  rotate_left
  · intro w hSw; (try dsimp only at hSw); go_simp; try (with_reducible rfl)
  try simp only [Act.put, List.setIfInBounds_toArray, List.set_cons_zero, List.set_cons_succ]
  refine take_runs (i := 5) (v := ?_) (by simp only [List.getElem?_toArray, List.getElem?_cons_succ, List.getElem?_cons_zero]; rfl) (by kernel_rfl) (by kernel_rfl) (by kernel_rfl) rfl (by exact fun _ _ _ h => h) (by rfl) ?_ (by assumption) ?_
  rotate_left
  · intro w hSw; (try dsimp only at hSw); go_simp; try (with_reducible rfl)
  try simp only [Act.put, List.setIfInBounds_toArray, List.set_cons_zero, List.set_cons_succ]
  refine take_runs (i := 6) (v := ?_) (by simp only [List.getElem?_toArray, List.getElem?_cons_succ, List.getElem?_cons_zero]; rfl) (by kernel_rfl) (by kernel_rfl) (by kernel_rfl) rfl (by exact fun _ _ _ h => h) (by rfl) ?_ (by assumption) ?_
  rotate_left
  · intro w hSw; (try dsimp only at hSw); go_simp; try (with_reducible rfl)
  try simp only [Act.put, List.setIfInBounds_toArray, List.set_cons_zero, List.set_cons_succ]
  refine take_runs (i := 7) (v := ?_) (by simp only [List.getElem?_toArray, List.getElem?_cons_succ, List.getElem?_cons_zero]; rfl) (by kernel_rfl) (by kernel_rfl) (by kernel_rfl) rfl (by exact fun _ _ _ h => h) (by rfl) ?_ (by assumption) ?_
  rotate_left
  · intro w hSw; (try dsimp only at hSw); go_simp; try (with_reducible rfl)
  try simp only [Act.put, List.setIfInBounds_toArray, List.set_cons_zero, List.set_cons_succ]
  refine wpAnyH_ready (rs := [8, 9]) (by kernel_rfl) (by simp) ?_
  refine (AllReadyH.cons (o := _) (by simp only [List.getElem?_toArray, List.getElem?_cons_succ, List.getElem?_cons_zero]; rfl) (fun K hK => ?_) (AllReadyH.cons (o := _) (by simp only [List.getElem?_toArray, List.getElem?_cons_succ, List.getElem?_cons_zero]; rfl) (fun K hK => ?_) AllReadyH.nil))
  · go_simp
    have hal : Below Wd.heap.size Wd (Wd.alloc (.cells #[.int .i64 0] 3)) := (Below.refl _ _).alloc (Nat.le_refl _) _
    have Xg := Lib.hid (heap_alloc_new Wd (.cells #[.int .i64 0] 3))
    have Yg := Lib.hid (show Wd.heap.size < (Wd.alloc (.cells #[.int .i64 0] 3)).heap.size by simp [World.size_alloc])
    replace B0 := Lib.hid ((hal.block w.heap.size (Array.getElem?_eq_some_iff.1 B0.out).1).trans B0.out)
    replace d := Lib.hid (d.out.trans (hal.mono d.out.size))
    clear hal
    generalize (Wd.alloc (.cells #[.int .i64 0] 3)) = v1 at *
    have p_B0_0 := (cell_of_row v1 _ 0 _ _ _ B0.out).trans (show _ = some (Value.int .i64 sg) from rfl)
    have p_B0_1 := (cell_of_row v1 _ 1 _ _ _ B0.out).trans (show _ = some (Value.int .i64 ba) from rfl)
    have p_B0_2 := (cell_of_row v1 _ 2 _ _ _ B0.out).trans (show _ = some (Value.slice p2 x2.length c2) from rfl)
    have p_B0_3 := (cell_of_row v1 _ 3 _ _ _ B0.out).trans (show _ = some (Value.slice p3 x3.length c3) from rfl)
    have p_B0_4 := (cell_of_row v1 _ 4 _ _ _ B0.out).trans (show _ = some (Value.slice p4 x4.length c4) from rfl)
    refine hK.out _ _ ⟨p_B0_0, p_B0_1, p_B0_2, p_B0_3, p_B0_4⟩ (fun hHeld => ?_)
    clear p_B0_0 p_B0_1 p_B0_2 p_B0_3 p_B0_4
    clear hK K
    try simp only [Act.put, List.setIfInBounds_toArray, List.set_cons_zero, List.set_cons_succ]
    refine wpAnyH_ready (rs := [9]) (by kernel_rfl) (by simp) ?_
    refine (AllReadyH.cons (o := _) (by simp only [List.getElem?_toArray, List.getElem?_cons_succ, List.getElem?_cons_zero]; rfl) (fun K hK => ?_) AllReadyH.nil)
    go_simp
    have hal : Below v1.heap.size v1 (v1.alloc (.cells #[.int .i64 0] 3)) := (Below.refl _ _).alloc (Nat.le_refl _) _
    have Xh := Lib.hid (heap_alloc_new v1 (.cells #[.int .i64 0] 3))
    have Yh := Lib.hid (show v1.heap.size < (v1.alloc (.cells #[.int .i64 0] 3)).heap.size by simp [World.size_alloc])
    replace B0 := Lib.hid ((hal.block w.heap.size (Array.getElem?_eq_some_iff.1 B0.out).1).trans B0.out)
    replace Xg := Lib.hid ((hal.block Wd.heap.size (Array.getElem?_eq_some_iff.1 Xg.out).1).trans Xg.out)
    replace d := Lib.hid (d.out.trans (hal.mono d.out.size))
    clear hal
    generalize (v1.alloc (.cells #[.int .i64 0] 3)) = v2 at *
    have p_B0_0 := (cell_of_row v2 _ 0 _ _ _ B0.out).trans (show _ = some (Value.int .i64 sg) from rfl)
    have p_B0_1 := (cell_of_row v2 _ 1 _ _ _ B0.out).trans (show _ = some (Value.int .i64 ba) from rfl)
    have p_B0_2 := (cell_of_row v2 _ 2 _ _ _ B0.out).trans (show _ = some (Value.slice p2 x2.length c2) from rfl)
    have p_B0_3 := (cell_of_row v2 _ 3 _ _ _ B0.out).trans (show _ = some (Value.slice p3 x3.length c3) from rfl)
    have p_B0_4 := (cell_of_row v2 _ 4 _ _ _ B0.out).trans (show _ = some (Value.slice p4 x4.length c4) from rfl)
    refine hK.out _ _ ⟨p_B0_0, p_B0_1, p_B0_2, p_B0_3, p_B0_4⟩ (fun hHeld => ?_)
    clear p_B0_0 p_B0_1 p_B0_2 p_B0_3 p_B0_4
    clear hK K
    try simp only [Act.put, List.setIfInBounds_toArray, List.set_cons_zero, List.set_cons_succ]
    refine wpAnyH_ready (rs := [10]) (by kernel_rfl) (by simp) ?_
    refine (AllReadyH.cons (o := _) (by simp only [List.getElem?_toArray, List.getElem?_cons_succ, List.getElem?_cons_zero]; rfl) (fun K hK => ?_) AllReadyH.nil)
    have p_Xg_0 := (cell_of_row v2 _ 0 _ _ _ Xg.out).trans (show _ = some (Value.int .i64 0) from rfl)
    have fz := frozen_of_row v2 _ 0 _ _ Xg.out
    go_simp
    clear fz p_Xg_0
    have y0 := YW.out
    have y1 := Z_dr.out
    have y2 := Yg.out
    have y3 := Yh.out
    have yd := d.out.size
    have tt : Turn (fun b => b = Wd.heap.size) v2 (v2.setCell ⟨Wd.heap.size, 0, none⟩ (.int .i64 q)) := (Turn.refl (fun b => b = Wd.heap.size) v2).trans (turn_set (G := fun b => b = Wd.heap.size) (g := Wd.heap.size) (j := 0) (u := .int .i64 q) rfl)
    have rr := heap_setCell_same v2 (Wd.heap.size) 0 _ _ (.int .i64 q) Xg.out
    simp at rr
    replace B0 := Lib.hid ((tt.block w.heap.size (Array.getElem?_eq_some_iff.1 B0.out).1 (fun h => by omega)).trans B0.out)
    replace Xh := Lib.hid ((tt.block v1.heap.size (Array.getElem?_eq_some_iff.1 Xh.out).1 (fun h => by omega)).trans Xh.out)
    replace d := Lib.hid (below_turn d.out tt (fun b h => by omega) yd)
    replace Xg : Hid ((v2.setCell ⟨Wd.heap.size, 0, none⟩ (.int .i64 q)).heap[Wd.heap.size]? = some (.cells #[.int .i64 q] 3 (0, 0))) := Lib.hid rr
    have Zv3g := Lib.hid (show v2.heap.size ≤ (v2.setCell ⟨Wd.heap.size, 0, none⟩ (.int .i64 q)).heap.size from tt.size)
    clear tt rr yd y0 y1 y2 y3
    generalize (v2.setCell ⟨Wd.heap.size, 0, none⟩ (.int .i64 q)) = v3 at *
    have p_B0_0 := (cell_of_row v3 _ 0 _ _ _ B0.out).trans (show _ = some (Value.int .i64 sg) from rfl)
    have p_B0_1 := (cell_of_row v3 _ 1 _ _ _ B0.out).trans (show _ = some (Value.int .i64 ba) from rfl)
    have p_B0_2 := (cell_of_row v3 _ 2 _ _ _ B0.out).trans (show _ = some (Value.slice p2 x2.length c2) from rfl)
    have p_B0_3 := (cell_of_row v3 _ 3 _ _ _ B0.out).trans (show _ = some (Value.slice p3 x3.length c3) from rfl)
    have p_B0_4 := (cell_of_row v3 _ 4 _ _ _ B0.out).trans (show _ = some (Value.slice p4 x4.length c4) from rfl)
    refine hK.out _ _ ⟨p_B0_0, p_B0_1, p_B0_2, p_B0_3, p_B0_4⟩ (fun hHeld => ?_)
    clear p_B0_0 p_B0_1 p_B0_2 p_B0_3 p_B0_4
    clear hK K
    try simp only [Act.put, List.setIfInBounds_toArray, List.set_cons_zero, List.set_cons_succ]
    refine wpAnyH_ready (rs := [11]) (by kernel_rfl) (by simp) ?_
    refine (AllReadyH.cons (o := _) (by simp only [List.getElem?_toArray, List.getElem?_cons_succ, List.getElem?_cons_zero]; rfl) (fun K hK => ?_) AllReadyH.nil)
    have p_Xh_0 := (cell_of_row v3 _ 0 _ _ _ Xh.out).trans (show _ = some (Value.int .i64 0) from rfl)
    have fz := frozen_of_row v3 _ 0 _ _ Xh.out
    go_simp
    clear fz p_Xh_0
    have y0 := YW.out
    have y1 := Z_dr.out
    have y2 := Yg.out
    have y3 := Yh.out
    have y4 := Zv3g.out
    have yd := d.out.size
    have tt : Turn (fun b => b = v1.heap.size) v3 (v3.setCell ⟨v1.heap.size, 0, none⟩ (.int .i64 r)) := (Turn.refl (fun b => b = v1.heap.size) v3).trans (turn_set (G := fun b => b = v1.heap.size) (g := v1.heap.size) (j := 0) (u := .int .i64 r) rfl)
    have rr := heap_setCell_same v3 (v1.heap.size) 0 _ _ (.int .i64 r) Xh.out
    simp at rr
    replace B0 := Lib.hid ((tt.block w.heap.size (Array.getElem?_eq_some_iff.1 B0.out).1 (fun h => by omega)).trans B0.out)
    replace Xg := Lib.hid ((tt.block Wd.heap.size (Array.getElem?_eq_some_iff.1 Xg.out).1 (fun h => by omega)).trans Xg.out)
    replace d := Lib.hid (below_turn d.out tt (fun b h => by omega) yd)
    replace Xh : Hid ((v3.setCell ⟨v1.heap.size, 0, none⟩ (.int .i64 r)).heap[v1.heap.size]? = some (.cells #[.int .i64 r] 3 (0, 0))) := Lib.hid rr
    have Zv4h := Lib.hid (show v3.heap.size ≤ (v3.setCell ⟨v1.heap.size, 0, none⟩ (.int .i64 r)).heap.size from tt.size)
    clear tt rr yd y0 y1 y2 y3 y4
    generalize (v3.setCell ⟨v1.heap.size, 0, none⟩ (.int .i64 r)) = v4 at *
    have p_B0_0 := (cell_of_row v4 _ 0 _ _ _ B0.out).trans (show _ = some (Value.int .i64 sg) from rfl)
    have p_B0_1 := (cell_of_row v4 _ 1 _ _ _ B0.out).trans (show _ = some (Value.int .i64 ba) from rfl)
    have p_B0_2 := (cell_of_row v4 _ 2 _ _ _ B0.out).trans (show _ = some (Value.slice p2 x2.length c2) from rfl)
    have p_B0_3 := (cell_of_row v4 _ 3 _ _ _ B0.out).trans (show _ = some (Value.slice p3 x3.length c3) from rfl)
    have p_B0_4 := (cell_of_row v4 _ 4 _ _ _ B0.out).trans (show _ = some (Value.slice p4 x4.length c4) from rfl)
    refine hK.out _ _ ⟨p_B0_0, p_B0_1, p_B0_2, p_B0_3, p_B0_4⟩ (fun hHeld => ?_)
    clear p_B0_0 p_B0_1 p_B0_2 p_B0_3 p_B0_4
    clear hK K
    try simp only [Act.put, List.setIfInBounds_toArray, List.set_cons_zero, List.set_cons_succ]
    refine wpAnyH_done (by kernel_rfl) ?_ _
    clear hHeld
    have hmf := HMF.out
    go_wp2
    clear hmf
    go_ret
    exact ⟨_, _, rfl, Xg.out, Xh.out, d.out⟩
  · go_simp
    have hal : Below Wd.heap.size Wd (Wd.alloc (.cells #[.int .i64 0] 3)) := (Below.refl _ _).alloc (Nat.le_refl _) _
    have Xh := Lib.hid (heap_alloc_new Wd (.cells #[.int .i64 0] 3))
    have Yh := Lib.hid (show Wd.heap.size < (Wd.alloc (.cells #[.int .i64 0] 3)).heap.size by simp [World.size_alloc])
    replace B0 := Lib.hid ((hal.block w.heap.size (Array.getElem?_eq_some_iff.1 B0.out).1).trans B0.out)
    replace d := Lib.hid (d.out.trans (hal.mono d.out.size))
    clear hal
    generalize (Wd.alloc (.cells #[.int .i64 0] 3)) = v1 at *
    have p_B0_0 := (cell_of_row v1 _ 0 _ _ _ B0.out).trans (show _ = some (Value.int .i64 sg) from rfl)
    have p_B0_1 := (cell_of_row v1 _ 1 _ _ _ B0.out).trans (show _ = some (Value.int .i64 ba) from rfl)
    have p_B0_2 := (cell_of_row v1 _ 2 _ _ _ B0.out).trans (show _ = some (Value.slice p2 x2.length c2) from rfl)
    have p_B0_3 := (cell_of_row v1 _ 3 _ _ _ B0.out).trans (show _ = some (Value.slice p3 x3.length c3) from rfl)
    have p_B0_4 := (cell_of_row v1 _ 4 _ _ _ B0.out).trans (show _ = some (Value.slice p4 x4.length c4) from rfl)
    refine hK.out _ _ ⟨p_B0_0, p_B0_1, p_B0_2, p_B0_3, p_B0_4⟩ (fun hHeld => ?_)
    clear p_B0_0 p_B0_1 p_B0_2 p_B0_3 p_B0_4
    clear hK K
    try simp only [Act.put, List.setIfInBounds_toArray, List.set_cons_zero, List.set_cons_succ]
    refine wpAnyH_ready (rs := [8]) (by kernel_rfl) (by simp) ?_
    refine (AllReadyH.cons (o := _) (by simp only [List.getElem?_toArray, List.getElem?_cons_succ, List.getElem?_cons_zero]; rfl) (fun K hK => ?_) AllReadyH.nil)
    go_simp
    have hal : Below v1.heap.size v1 (v1.alloc (.cells #[.int .i64 0] 3)) := (Below.refl _ _).alloc (Nat.le_refl _) _
    have Xg := Lib.hid (heap_alloc_new v1 (.cells #[.int .i64 0] 3))
    have Yg := Lib.hid (show v1.heap.size < (v1.alloc (.cells #[.int .i64 0] 3)).heap.size by simp [World.size_alloc])
    replace B0 := Lib.hid ((hal.block w.heap.size (Array.getElem?_eq_some_iff.1 B0.out).1).trans B0.out)
    replace Xh := Lib.hid ((hal.block Wd.heap.size (Array.getElem?_eq_some_iff.1 Xh.out).1).trans Xh.out)
    replace d := Lib.hid (d.out.trans (hal.mono d.out.size))
    clear hal
    generalize (v1.alloc (.cells #[.int .i64 0] 3)) = v2 at *
    have p_B0_0 := (cell_of_row v2 _ 0 _ _ _ B0.out).trans (show _ = some (Value.int .i64 sg) from rfl)
    have p_B0_1 := (cell_of_row v2 _ 1 _ _ _ B0.out).trans (show _ = some (Value.int .i64 ba) from rfl)
    have p_B0_2 := (cell_of_row v2 _ 2 _ _ _ B0.out).trans (show _ = some (Value.slice p2 x2.length c2) from rfl)
    have p_B0_3 := (cell_of_row v2 _ 3 _ _ _ B0.out).trans (show _ = some (Value.slice p3 x3.length c3) from rfl)
    have p_B0_4 := (cell_of_row v2 _ 4 _ _ _ B0.out).trans (show _ = some (Value.slice p4 x4.length c4) from rfl)
    refine hK.out _ _ ⟨p_B0_0, p_B0_1, p_B0_2, p_B0_3, p_B0_4⟩ (fun hHeld => ?_)
    clear p_B0_0 p_B0_1 p_B0_2 p_B0_3 p_B0_4
    clear hK K
    try simp only [Act.put, List.setIfInBounds_toArray, List.set_cons_zero, List.set_cons_succ]
    refine wpAnyH_ready (rs := [10]) (by kernel_rfl) (by simp) ?_
    refine (AllReadyH.cons (o := _) (by simp only [List.getElem?_toArray, List.getElem?_cons_succ, List.getElem?_cons_zero]; rfl) (fun K hK => ?_) AllReadyH.nil)
    have p_Xg_0 := (cell_of_row v2 _ 0 _ _ _ Xg.out).trans (show _ = some (Value.int .i64 0) from rfl)
    have fz := frozen_of_row v2 _ 0 _ _ Xg.out
    go_simp
    clear fz p_Xg_0
    have y0 := YW.out
    have y1 := Z_dr.out
    have y2 := Yh.out
    have y3 := Yg.out
    have yd := d.out.size
    have tt : Turn (fun b => b = v1.heap.size) v2 (v2.setCell ⟨v1.heap.size, 0, none⟩ (.int .i64 q)) := (Turn.refl (fun b => b = v1.heap.size) v2).trans (turn_set (G := fun b => b = v1.heap.size) (g := v1.heap.size) (j := 0) (u := .int .i64 q) rfl)
    have rr := heap_setCell_same v2 (v1.heap.size) 0 _ _ (.int .i64 q) Xg.out
    simp at rr
    replace B0 := Lib.hid ((tt.block w.heap.size (Array.getElem?_eq_some_iff.1 B0.out).1 (fun h => by omega)).trans B0.out)
    replace Xh := Lib.hid ((tt.block Wd.heap.size (Array.getElem?_eq_some_iff.1 Xh.out).1 (fun h => by omega)).trans Xh.out)
    replace d := Lib.hid (below_turn d.out tt (fun b h => by omega) yd)
    replace Xg : Hid ((v2.setCell ⟨v1.heap.size, 0, none⟩ (.int .i64 q)).heap[v1.heap.size]? = some (.cells #[.int .i64 q] 3 (0, 0))) := Lib.hid rr
    have Zv3g := Lib.hid (show v2.heap.size ≤ (v2.setCell ⟨v1.heap.size, 0, none⟩ (.int .i64 q)).heap.size from tt.size)
    clear tt rr yd y0 y1 y2 y3
    generalize (v2.setCell ⟨v1.heap.size, 0, none⟩ (.int .i64 q)) = v3 at *
    have p_B0_0 := (cell_of_row v3 _ 0 _ _ _ B0.out).trans (show _ = some (Value.int .i64 sg) from rfl)
    have p_B0_1 := (cell_of_row v3 _ 1 _ _ _ B0.out).trans (show _ = some (Value.int .i64 ba) from rfl)
    have p_B0_2 := (cell_of_row v3 _ 2 _ _ _ B0.out).trans (show _ = some (Value.slice p2 x2.length c2) from rfl)
    have p_B0_3 := (cell_of_row v3 _ 3 _ _ _ B0.out).trans (show _ = some (Value.slice p3 x3.length c3) from rfl)
    have p_B0_4 := (cell_of_row v3 _ 4 _ _ _ B0.out).trans (show _ = some (Value.slice p4 x4.length c4) from rfl)
    refine hK.out _ _ ⟨p_B0_0, p_B0_1, p_B0_2, p_B0_3, p_B0_4⟩ (fun hHeld => ?_)
    clear p_B0_0 p_B0_1 p_B0_2 p_B0_3 p_B0_4
    clear hK K
    try simp only [Act.put, List.setIfInBounds_toArray, List.set_cons_zero, List.set_cons_succ]
    refine wpAnyH_ready (rs := [11]) (by kernel_rfl) (by simp) ?_
    refine (AllReadyH.cons (o := _) (by simp only [List.getElem?_toArray, List.getElem?_cons_succ, List.getElem?_cons_zero]; rfl) (fun K hK => ?_) AllReadyH.nil)
    have p_Xh_0 := (cell_of_row v3 _ 0 _ _ _ Xh.out).trans (show _ = some (Value.int .i64 0) from rfl)
    have fz := frozen_of_row v3 _ 0 _ _ Xh.out
    go_simp
    clear fz p_Xh_0
    have y0 := YW.out
    have y1 := Z_dr.out
    have y2 := Yh.out
    have y3 := Yg.out
    have y4 := Zv3g.out
    have yd := d.out.size
    have tt : Turn (fun b => b = Wd.heap.size) v3 (v3.setCell ⟨Wd.heap.size, 0, none⟩ (.int .i64 r)) := (Turn.refl (fun b => b = Wd.heap.size) v3).trans (turn_set (G := fun b => b = Wd.heap.size) (g := Wd.heap.size) (j := 0) (u := .int .i64 r) rfl)
    have rr := heap_setCell_same v3 (Wd.heap.size) 0 _ _ (.int .i64 r) Xh.out
    simp at rr
    replace B0 := Lib.hid ((tt.block w.heap.size (Array.getElem?_eq_some_iff.1 B0.out).1 (fun h => by omega)).trans B0.out)
    replace Xg := Lib.hid ((tt.block v1.heap.size (Array.getElem?_eq_some_iff.1 Xg.out).1 (fun h => by omega)).trans Xg.out)
    replace d := Lib.hid (below_turn d.out tt (fun b h => by omega) yd)
    replace Xh : Hid ((v3.setCell ⟨Wd.heap.size, 0, none⟩ (.int .i64 r)).heap[Wd.heap.size]? = some (.cells #[.int .i64 r] 3 (0, 0))) := Lib.hid rr
    have Zv4h := Lib.hid (show v3.heap.size ≤ (v3.setCell ⟨Wd.heap.size, 0, none⟩ (.int .i64 r)).heap.size from tt.size)
    clear tt rr yd y0 y1 y2 y3 y4
    generalize (v3.setCell ⟨Wd.heap.size, 0, none⟩ (.int .i64 r)) = v4 at *
    have p_B0_0 := (cell_of_row v4 _ 0 _ _ _ B0.out).trans (show _ = some (Value.int .i64 sg) from rfl)
    have p_B0_1 := (cell_of_row v4 _ 1 _ _ _ B0.out).trans (show _ = some (Value.int .i64 ba) from rfl)
    have p_B0_2 := (cell_of_row v4 _ 2 _ _ _ B0.out).trans (show _ = some (Value.slice p2 x2.length c2) from rfl)
    have p_B0_3 := (cell_of_row v4 _ 3 _ _ _ B0.out).trans (show _ = some (Value.slice p3 x3.length c3) from rfl)
    have p_B0_4 := (cell_of_row v4 _ 4 _ _ _ B0.out).trans (show _ = some (Value.slice p4 x4.length c4) from rfl)
    refine hK.out _ _ ⟨p_B0_0, p_B0_1, p_B0_2, p_B0_3, p_B0_4⟩ (fun hHeld => ?_)
    clear p_B0_0 p_B0_1 p_B0_2 p_B0_3 p_B0_4
    clear hK K
    try simp only [Act.put, List.setIfInBounds_toArray, List.set_cons_zero, List.set_cons_succ]
    refine wpAnyH_done (by kernel_rfl) ?_ _
    clear hHeld
    have hmf := HMF.out
    go_wp2
    clear hmf
    go_ret
    exact ⟨_, _, rfl, Xg.out, Xh.out, d.out⟩
set_option maxHeartbeats 8000000 in
set_option maxRecDepth 100000 in
theorem implSharesOf (sg ba : Int) (v2 v3 v4 : Value) (x2 x3 x4 : List Int) (w : World) (h2 : SlR tInt w v2 x2) (h3 : SlR tInt w v3 x3) (h4 : SlR tInt w v4 x4) (s2 : zL tInt x2 ≤ 1048576) (s3 : zL tInt x3 ≤ 1048576) (s4 : zL tInt x4 ≤ 1048576) :
    Calls Try.prog 11 #[.agg #[.int .i64 sg, .int .i64 ba, v2, v3, v4]] w (FreshInts w (sharesX (sg, ba, x2, x3, x4))) := by
  obtain ⟨p2, c2, rfl⟩ := slR_len h2
  have H2 := Lib.hid h2
  obtain ⟨p3, c3, rfl⟩ := slR_len h3
  have H3 := Lib.hid h3
  obtain ⟨p4, c4, rfl⟩ := slR_len h4
  have H4 := Lib.hid h4
  clear h2 h3 h4
  have S2 := Lib.hid s2; have S3 := Lib.hid s3; have S4 := Lib.hid s4
  have n2 := zL_len s2; have n3 := zL_len s3; have n4 := zL_len s4
  clear s2 s3 s4
  obtain ⟨i0, hi, hz0, hz1, hz2⟩ := info_parts Try.infoI64
  have HI := Lib.hid hi; have HZ0 := Lib.hid hz0; have HZ1 := Lib.hid hz1; have HZ2 := Lib.hid hz2
  clear hi hz0 hz1 hz2
  have d := Lib.hid (show Below w.heap.size w (w.alloc (.cells #[.int .i64 sg, .int .i64 ba, .slice p2 x2.length c2, .slice p3 x3.length c3, .slice p4 x4.length c4] 27)) from ((Below.refl _ w).alloc (Nat.le_refl _) _))
  have B0 : Hid ((w.alloc (.cells #[.int .i64 sg, .int .i64 ba, .slice p2 x2.length c2, .slice p3 x3.length c3, .slice p4 x4.length c4] 27)).heap[w.heap.size]? = some (.cells #[.int .i64 sg, .int .i64 ba, .slice p2 x2.length c2, .slice p3 x3.length c3, .slice p4 x4.length c4] 27 (0, 0))) := Lib.hid (by
    exact heap_alloc_new w _)
  have YW : Hid (w.heap.size + 1 ≤ (w.alloc (.cells #[.int .i64 sg, .int .i64 ba, .slice p2 x2.length c2, .slice p3 x3.length c3, .slice p4 x4.length c4] 27)).heap.size) := Lib.hid (by simp [World.size_alloc])
  go_enter Try.func11, Try.ntmps11
  go_wp2_with fail
  generalize (w.alloc (.cells #[.int .i64 sg, .int .i64 ba, .slice p2 x2.length c2, .slice p3 x3.length c3, .slice p4 x4.length c4] 27)) = W at *
  refine (implIsCharge sg ba (.slice p2 x2.length c2) (.slice p3 x3.length c3) (.slice p4 x4.length c4) x2 x3 x4 W (slR_below tInt_law H2.out d.out) (slR_below tInt_law H3.out d.out) (slR_below tInt_law H4.out d.out) S2.out S3.out S4.out).mono ?_
  rintro e W1 ⟨rfl, c⟩
  replace B0 := Lib.hid ((c.block w.heap.size (Array.getElem?_eq_some_iff.1 B0.out).1).trans B0.out)
  replace d := Lib.hid (d.out.trans (c.mono d.out.size))
  have Z_W1 := Lib.hid (show W.heap.size ≤ W1.heap.size from c.size)
  clear c
  rcases Bool.eq_false_or_eq_true (chargeB (sg, ba, x2, x3, x4)) with hch | hch
  rotate_left
  · rw [hch]
    have HSL := Lib.hid (sharesX_no hch)
    clear hch
    have p_B0_0 := (cell_of_row W1 _ 0 _ _ _ B0.out).trans (show _ = some (Value.int .i64 sg) from rfl)
    have p_B0_1 := (cell_of_row W1 _ 1 _ _ _ B0.out).trans (show _ = some (Value.int .i64 ba) from rfl)
    have p_B0_2 := (cell_of_row W1 _ 2 _ _ _ B0.out).trans (show _ = some (Value.slice p2 x2.length c2) from rfl)
    have p_B0_3 := (cell_of_row W1 _ 3 _ _ _ B0.out).trans (show _ = some (Value.slice p3 x3.length c3) from rfl)
    have p_B0_4 := (cell_of_row W1 _ 4 _ _ _ B0.out).trans (show _ = some (Value.slice p4 x4.length c4) from rfl)
    go_wp2
    clear p_B0_0 p_B0_1 p_B0_2 p_B0_3 p_B0_4
    go_ret
    exact ⟨.slice none 0 0, rfl, (by rw [HSL.out]; exact ownsN_nil _ _), d.out⟩
  rw [hch]
  have HCH := Lib.hid hch
  have HP := Lib.hid (charge_iff hch).2.1
  have hdv := base_div (x := (sg, ba, x2, x3, x4)) hch
  dsimp only at hdv
  have HLN : Hid ((sharesX (sg, ba, x2, x3, x4)).length = x4.length) := Lib.hid (by rw [sharesX_yes hch, sharesTo_len]; exact HP.out.2.1.2.symm)
  have HL4 : Hid (x4.length = x2.length) := Lib.hid HP.out.2.1.2
  have hl8 : x4.length ≤ 8 := by have h1 := HL4.out; have h2 := HP.out.1.2; dsimp only at h2; omega
  have hba : ba ≤ 4 := HP.out.2.2.2.2
  have HSH : Hid (∀ k, k < x4.length → (sharesX (sg, ba, x2, x3, x4)).getD k 0 = x4.getD k 0 + shB (ba / (x2.length : Int)) (ba % (x2.length : Int)) k) := Lib.hid (fun k hk => by rw [shares_getD HCH.out (by have := HL4.out; dsimp only; omega), shareI_eq])
  have HROW : Hid (∀ k, k < x4.length → 0 ≤ x4.getD k 0 ∧ x4.getD k 0 ≤ ba) := Lib.hid (fun k hk => chg_row (x := (sg, ba, x2, x3, x4)) HCH.out hk)
  clear hch
  generalize sharesX (sg, ba, x2, x3, x4) = L at *
  have p_B0_0 := (cell_of_row W1 _ 0 _ _ _ B0.out).trans (show _ = some (Value.int .i64 sg) from rfl)
  have p_B0_1 := (cell_of_row W1 _ 1 _ _ _ B0.out).trans (show _ = some (Value.int .i64 ba) from rfl)
  have p_B0_2 := (cell_of_row W1 _ 2 _ _ _ B0.out).trans (show _ = some (Value.slice p2 x2.length c2) from rfl)
  have p_B0_3 := (cell_of_row W1 _ 3 _ _ _ B0.out).trans (show _ = some (Value.slice p3 x3.length c3) from rfl)
  have p_B0_4 := (cell_of_row W1 _ 4 _ _ _ B0.out).trans (show _ = some (Value.slice p4 x4.length c4) from rfl)
  go_wp2_with fail
  clear p_B0_0 p_B0_1 p_B0_2 p_B0_3 p_B0_4
  refine (divideBase_any sg ba (.slice p2 x2.length c2) (.slice p3 x3.length c3) (.slice p4 x4.length c4) x2 x3 x4 W1 (slR_below tInt_law H2.out d.out) (slR_below tInt_law H3.out d.out) (slR_below tInt_law H4.out d.out) S2.out S3.out S4.out HCH.out).mono ?_
  rintro e W2 ⟨g, h, rfl, hg, hh, c⟩
  generalize ba / (x2.length : Int) = q at *
  generalize ba % (x2.length : Int) = r at *
  have q1 : 0 ≤ q ∧ q ≤ 4 := ⟨hdv.1, hdv.2.1⟩
  clear hdv
  replace B0 := Lib.hid ((c.block w.heap.size (Array.getElem?_eq_some_iff.1 B0.out).1).trans B0.out)
  replace d := Lib.hid (d.out.trans (c.mono d.out.size))
  have Z_W2 := Lib.hid (show W1.heap.size ≤ W2.heap.size from c.size)
  clear c
  have Xg := Lib.hid hg; have Xh := Lib.hid hh
  have Yg := Lib.hid (Array.getElem?_eq_some_iff.1 hg).1; have Yh := Lib.hid (Array.getElem?_eq_some_iff.1 hh).1
  clear hg hh
  have p_B0_0 := (cell_of_row W2 _ 0 _ _ _ B0.out).trans (show _ = some (Value.int .i64 sg) from rfl)
  have p_B0_1 := (cell_of_row W2 _ 1 _ _ _ B0.out).trans (show _ = some (Value.int .i64 ba) from rfl)
  have p_B0_2 := (cell_of_row W2 _ 2 _ _ _ B0.out).trans (show _ = some (Value.slice p2 x2.length c2) from rfl)
  have p_B0_3 := (cell_of_row W2 _ 3 _ _ _ B0.out).trans (show _ = some (Value.slice p3 x3.length c3) from rfl)
  have p_B0_4 := (cell_of_row W2 _ 4 _ _ _ B0.out).trans (show _ = some (Value.slice p4 x4.length c4) from rfl)
  go_wp2_with (at_make; refine wpList_make_full _ rfl (.tmp 14) (.tmp 14) 22 rfl W2.heap.size 3 i0 (.int .i64 0) 1 Try.underlying22 HI.out HZ0.out HZ1.out _ _ _ _ x4.length rfl rfl rfl rfl (by rw [HZ2.out]; omega) (by unfold maxLen; omega) (Nat.le_refl _) ?_)
  intro w1 hown0 hg0
  have hown1 := ownsN_made hown0
  have hbel1 := (Below.refl W2.heap.size W2).grown hg0 (Nat.le_refl _) (fun k hk => by cases hk)
  clear hown0 hg0 p_B0_0 p_B0_1 p_B0_2 p_B0_3 p_B0_4
  replace B0 := Lib.hid ((hbel1.block w.heap.size (Array.getElem?_eq_some_iff.1 B0.out).1).trans B0.out)
  replace Xg := Lib.hid ((hbel1.block g (Array.getElem?_eq_some_iff.1 Xg.out).1).trans Xg.out)
  replace Xh := Lib.hid ((hbel1.block h (Array.getElem?_eq_some_iff.1 Xh.out).1).trans Xh.out)
  replace d := Lib.hid (d.out.trans (hbel1.mono d.out.size))
  have Z_w1 := Lib.hid (show W2.heap.size ≤ w1.heap.size from hbel1.size)
  have HB1 := Lib.hid hbel1
  clear hbel1
  have p_B0_0 := (cell_of_row w1 _ 0 _ _ _ B0.out).trans (show _ = some (Value.int .i64 sg) from rfl)
  have p_B0_1 := (cell_of_row w1 _ 1 _ _ _ B0.out).trans (show _ = some (Value.int .i64 ba) from rfl)
  have p_B0_2 := (cell_of_row w1 _ 2 _ _ _ B0.out).trans (show _ = some (Value.slice p2 x2.length c2) from rfl)
  have p_B0_3 := (cell_of_row w1 _ 3 _ _ _ B0.out).trans (show _ = some (Value.slice p3 x3.length c3) from rfl)
  have p_B0_4 := (cell_of_row w1 _ 4 _ _ _ B0.out).trans (show _ = some (Value.slice p4 x4.length c4) from rfl)
  go_wp2
  clear p_B0_0 p_B0_1 p_B0_2 p_B0_3 p_B0_4
  go_loopw [19] (fun i wr => ∃ k : Nat, k ≤ x4.length ∧ i = .int .i64 k ∧ OwnsN wr W2.heap.size (.slice (some ⟨W2.heap.size, 0, none⟩) x4.length x4.length) (L.take k ++ List.replicate (x4.length - k) 0) ∧ Below W2.heap.size w1 wr) (fun i _ => x4.length - (intOf i).toNat)
  case atStart => exact ⟨0, Nat.zero_le _, rfl, by simpa using hown1, Below.refl _ _⟩
  case round =>
    clear hown1
    obtain ⟨k, hk, rfl, hown, c⟩ := hrel
    have e1 := d.out.size
    have e2 := HB1.out.size
    have HO := Lib.hid hown
    clear hown
    replace B0 := Lib.hid ((c.block w.heap.size (by have := Z_W2.out; have := Z_W1.out; have := YW.out; have := Yg.out; have := Yh.out; omega)).trans B0.out)
    replace Xg := Lib.hid ((c.block g (by have := Z_W2.out; have := Z_W1.out; have := YW.out; have := Yg.out; have := Yh.out; omega)).trans Xg.out)
    replace Xh := Lib.hid ((c.block h (by have := Z_W2.out; have := Z_W1.out; have := YW.out; have := Yg.out; have := Yh.out; omega)).trans Xh.out)
    replace d := Lib.hid (d.out.trans (c.mono (by have := Z_W2.out; have := Z_W1.out; have := YW.out; omega)))
    have CW := Lib.hid c
    clear c e1 e2
    by_cases hlt : k < x4.length
    · have i1 : (0 : Int) ≤ (k : Int) := by omega
      have i2 : (k : Int) < (x4.length : Int) := by omega
      have HS := Lib.hid (HSH.out k hlt)
      have hr := HROW.out k hlt
      have HC := Lib.hid (divClos (k : Int) q r g h wr q1 Xg.out Xh.out)
      have HSB := Lib.hid (shB_bd (r := r) (k : Int) q1)
      obtain ⟨br, offr, capr, hv, hbl, hc⟩ := ints_cell (slR_ints (slR_below tInt_law H4.out d.out)) (by omega)
      simp only [Value.slice.injEq] at hv
      obtain ⟨rfl, _, rfl⟩ := hv
      have f4 := hc k (by omega)
      clear hc hbl
      have F4 := Lib.hid f4
      clear f4
      generalize x4.getD k 0 = y at *
      obtain ⟨y1, y2'⟩ := hr
      have y2 : y ≤ 4 := by omega
      clear y2'
      generalize shB q r (k : Int) = sv at *
      have v1 := HSB.out
      obtain ⟨v1, v2⟩ := v1
      have f4 := F4.out
      go_wp2_with fail
      refine HC.out.mono ?_
      rintro e w4 ⟨rfl, c4⟩
      have HO4 := Lib.hid (ownsN_below HO.out c4)
      have CW4 := Lib.hid (CW.out.trans (c4.mono (by have := CW.out.size; have := HB1.out.size; omega)))
      have hset : Hid ((L.take k ++ List.replicate (x4.length - k) 0).set k (y + sv) = L.take (k + 1) ++ List.replicate (x4.length - (k + 1)) 0) := Lib.hid (by have := copy_step L k (by rw [HLN.out]; exact hlt); rw [HLN.out, HS.out] at this; exact this)
      have c1 := ownsN_cell HO4.out (show (L.take k ++ List.replicate (x4.length - k) 0)[k]? = some 0 by have := copy_at L k (by rw [HLN.out]; exact hlt); rw [HLN.out] at this; exact this)
      have f1 := ownsN_frozen HO4.out k
      have hst := ownsN_store HO4.out k (y + sv)
      rw [hset.out] at hst
      have hb2 := CW4.out.setCell (p := ⟨W2.heap.size, k, none⟩) (Nat.le_refl _) (.int .i64 (y + sv))
      have HST := Lib.hid hst
      have HB2 := Lib.hid hb2
      clear hst hset c4 f4 hb2 HO HO4 HC HSB HS
      go_wp2
      go_roundw
      case rel => exact ⟨k + 1, by omega, by go_num, HST.out, HB2.out⟩
      case measure => simp [intOf]; omega
    · obtain rfl : k = x4.length := by omega
      have hown := HO.out
      rw [List.take_of_length_le (by rw [HLN.out]; exact Nat.le_refl _), Nat.sub_self, List.replicate_zero, List.append_nil] at hown
      have HO2 := Lib.hid hown
      clear hown
      go_wp2
      go_ret
      exact ⟨_, rfl, row_low HO2.out (by have := Z_W2.out; have := Z_W1.out; have := YW.out; omega), d.out⟩
set_option maxHeartbeats 8000000 in
set_option maxRecDepth 100000 in
theorem shareOf_any (t : Int) (sg ba : Int) (v2 v3 v4 : Value) (x2 x3 x4 : List Int) (w : World) (h2 : SlR tInt w v2 x2) (h3 : SlR tInt w v3 x3) (h4 : SlR tInt w v4 x4) (s2 : zL tInt x2 ≤ 1048576) (s3 : zL tInt x3 ≤ 1048576) (s4 : zL tInt x4 ≤ 1048576) :
    Calls Try.prog 35 #[.agg #[.int .i64 sg, .int .i64 ba, v2, v3, v4], .int .i64 t] w (fun e w' => e = .returned (.int .i64 (tenX t (sg, ba, x2, x3, x4))) ∧ Below w.heap.size w w') := by
  obtain ⟨p2, c2, rfl⟩ := slR_len h2
  have H2 := Lib.hid h2
  obtain ⟨p3, c3, rfl⟩ := slR_len h3
  have H3 := Lib.hid h3
  obtain ⟨p4, c4, rfl⟩ := slR_len h4
  have H4 := Lib.hid h4
  clear h2 h3 h4
  have S2 := Lib.hid s2; have S3 := Lib.hid s3; have S4 := Lib.hid s4
  have n2 := zL_len s2; have n3 := zL_len s3; have n4 := zL_len s4
  clear s2 s3 s4
  have d := Lib.hid (show Below w.heap.size w (w.alloc (.cells #[.int .i64 sg, .int .i64 ba, .slice p2 x2.length c2, .slice p3 x3.length c3, .slice p4 x4.length c4] 27)) from ((Below.refl _ w).alloc (Nat.le_refl _) _))
  have B0 : Hid ((w.alloc (.cells #[.int .i64 sg, .int .i64 ba, .slice p2 x2.length c2, .slice p3 x3.length c3, .slice p4 x4.length c4] 27)).heap[w.heap.size]? = some (.cells #[.int .i64 sg, .int .i64 ba, .slice p2 x2.length c2, .slice p3 x3.length c3, .slice p4 x4.length c4] 27 (0, 0))) := Lib.hid (by
    exact heap_alloc_new w _)
  have YW : Hid (w.heap.size + 1 ≤ (w.alloc (.cells #[.int .i64 sg, .int .i64 ba, .slice p2 x2.length c2, .slice p3 x3.length c3, .slice p4 x4.length c4] 27)).heap.size) := Lib.hid (by simp [World.size_alloc])
  go_enter Try.func35, Try.ntmps35
  go_wp2_with fail
  generalize (w.alloc (.cells #[.int .i64 sg, .int .i64 ba, .slice p2 x2.length c2, .slice p3 x3.length c3, .slice p4 x4.length c4] 27)) = W at *
  have HSX := Lib.hid (@sharesX_len (sg, ba, x2, x3, x4))
  have HLE := Lib.hid (@sharesX_le (sg, ba, x2, x3, x4))
  have HBT := Lib.hid (tenTo_bd (sg, ba, x2, x3, x4) t)
  have HBS := Lib.hid (@shares_bd (sg, ba, x2, x3, x4))
  have HNE : Hid (tenX t (sg, ba, x2, x3, x4) = accN (tenI x3 (sharesX (sg, ba, x2, x3, x4)) t) (sharesX (sg, ba, x2, x3, x4)).length) := Lib.hid rfl
  dsimp only at HLE HBT
  refine (implSharesOf sg ba (.slice p2 x2.length c2) (.slice p3 x3.length c3) (.slice p4 x4.length c4) x2 x3 x4 W (slR_below tInt_law H2.out d.out) (slR_below tInt_law H3.out d.out) (slR_below tInt_law H4.out d.out) S2.out S3.out S4.out).mono ?_
  rintro e W1 ⟨u, rfl, ho, c⟩
  replace B0 := Lib.hid ((c.block w.heap.size (Array.getElem?_eq_some_iff.1 B0.out).1).trans B0.out)
  replace d := Lib.hid (d.out.trans (c.mono d.out.size))
  have Z_W1 := Lib.hid (show W.heap.size ≤ W1.heap.size from c.size)
  clear c
  generalize sharesX (sg, ba, x2, x3, x4) = sh at *
  obtain ⟨ua, uc, rfl⟩ := ints_len (ownsN_ints ho)
  have HU := Lib.hid (ownsN_ints ho)
  clear ho
  have p_B0_0 := (cell_of_row W1 _ 0 _ _ _ B0.out).trans (show _ = some (Value.int .i64 sg) from rfl)
  have p_B0_1 := (cell_of_row W1 _ 1 _ _ _ B0.out).trans (show _ = some (Value.int .i64 ba) from rfl)
  have p_B0_2 := (cell_of_row W1 _ 2 _ _ _ B0.out).trans (show _ = some (Value.slice p2 x2.length c2) from rfl)
  have p_B0_3 := (cell_of_row W1 _ 3 _ _ _ B0.out).trans (show _ = some (Value.slice p3 x3.length c3) from rfl)
  have p_B0_4 := (cell_of_row W1 _ 4 _ _ _ B0.out).trans (show _ = some (Value.slice p4 x4.length c4) from rfl)
  go_wp2
  clear p_B0_0 p_B0_1 p_B0_2 p_B0_3 p_B0_4
  go_loop [5, 11] (fun n i => ∃ (j : Nat) (z : Int), j ≤ sh.length ∧ i = .int .i64 j ∧ n = .int .i64 z ∧ Hid (z = accN (tenI x3 sh t) j)) (fun _ i => sh.length - (intOf i).toNat)
  case atStart => exact ⟨0, 0, Nat.zero_le _, rfl, rfl, Lib.hid rfl⟩
  case round =>
    obtain ⟨j, z, hj, rfl, rfl, hz⟩ := hrel
    have z1 := HBT.out j
    have z2 := HSX.out
    have z3 := hz.out
    have z4 : 0 ≤ z ∧ z ≤ 200000000 := by omega
    obtain ⟨z5, z6⟩ := z4
    clear z1 z3
    by_cases hjl : j < sh.length
    · have j1 : (0 : Int) ≤ (j : Int) := by omega
      have j2 : (j : Int) < (sh.length : Int) := by omega
      have j3 : j < x3.length := by have := HLE.out; omega
      have j4 : (j : Int) < (x3.length : Int) := by omega
      obtain ⟨bu, offu, capu, hv, hbl, hc⟩ := ints_cell HU.out (by omega)
      simp only [Value.slice.injEq] at hv
      obtain ⟨rfl, _, rfl⟩ := hv
      have f0 := hc j (by omega)
      clear hc hbl
      obtain ⟨bt, offt, capt, hv, hbl, hc⟩ := ints_cell (slR_ints (slR_below tInt_law H3.out d.out)) (by omega)
      simp only [Value.slice.injEq] at hv
      obtain ⟨rfl, _, rfl⟩ := hv
      have f1 := hc j (by omega)
      clear hc hbl
      have HBJ := HBS.out j
      have HA1 : Hid (x3.getD j 0 = t → z + sh.getD j 0 = accN (tenI x3 sh t) (j + 1)) := Lib.hid (fun g => by rw [accN_succ, tenI_yes g]; have := hz.out; omega)
      have HA2 : Hid (¬ x3.getD j 0 = t → z = accN (tenI x3 sh t) (j + 1)) := Lib.hid (fun g => by rw [accN_succ, tenI_no g]; have := hz.out; omega)
      clear hz
      generalize x3.getD j 0 = y at *
      generalize sh.getD j 0 = sv at *
      obtain ⟨v1, v2⟩ := HBJ
      have p_B0_0 := (cell_of_row W1 _ 0 _ _ _ B0.out).trans (show _ = some (Value.int .i64 sg) from rfl)
      have p_B0_1 := (cell_of_row W1 _ 1 _ _ _ B0.out).trans (show _ = some (Value.int .i64 ba) from rfl)
      have p_B0_2 := (cell_of_row W1 _ 2 _ _ _ B0.out).trans (show _ = some (Value.slice p2 x2.length c2) from rfl)
      have p_B0_3 := (cell_of_row W1 _ 3 _ _ _ B0.out).trans (show _ = some (Value.slice (some ⟨bt, offt, none⟩) x3.length c3) from rfl)
      have p_B0_4 := (cell_of_row W1 _ 4 _ _ _ B0.out).trans (show _ = some (Value.slice p4 x4.length c4) from rfl)
      by_cases hyt : y = t
      · have HZ := Lib.hid (HA1.out hyt)
        have g1 : (y == t) = true := by simpa using hyt
        clear HA1 HA2 hyt
        go_wp2
        go_round
        case rel => exact ⟨j + 1, z + sv, by omega, by go_num, rfl, HZ⟩
        case measure => simp [intOf]; omega
      · have HZ := Lib.hid (HA2.out hyt)
        have g1 : (y == t) = false := by rw [beq_eq_false_iff_ne]; exact hyt
        clear HA1 HA2 hyt
        go_wp2
        go_round
        case rel => exact ⟨j + 1, z, by omega, by go_num, rfl, HZ⟩
        case measure => simp [intOf]; omega
    · obtain rfl : j = sh.length := by omega
      have HZ : Hid (z = tenX t (sg, ba, x2, x3, x4)) := Lib.hid (by rw [HNE.out]; exact hz.out)
      clear hz
      go_wp2
      go_ret
      exact ⟨ret_n HZ.out, d.out⟩
set_option maxHeartbeats 8000000 in
set_option maxRecDepth 100000 in
theorem tenClos (t : Int) (B : Nat) (sg ba : Int) (v2 v3 v4 : Value) (x2 x3 x4 : List Int) (w : World) (h2 : SlR tInt w v2 x2) (h3 : SlR tInt w v3 x3) (h4 : SlR tInt w v4 x4) (s2 : zL tInt x2 ≤ 1048576) (s3 : zL tInt x3 ≤ 1048576) (s4 : zL tInt x4 ≤ 1048576) (hb : w.heap[B]? = some (.cells #[.int .i64 t] 3 (0, 0))) :
    Calls Try.prog 34 #[.agg #[.int .i64 sg, .int .i64 ba, v2, v3, v4], .pointer (some ⟨B, 0, none⟩)] w (fun e w' => e = .returned (.int .i64 (tenX t (sg, ba, x2, x3, x4))) ∧ Below w.heap.size w w') := by
  obtain ⟨p2, c2, rfl⟩ := slR_len h2
  have H2 := Lib.hid h2
  obtain ⟨p3, c3, rfl⟩ := slR_len h3
  have H3 := Lib.hid h3
  obtain ⟨p4, c4, rfl⟩ := slR_len h4
  have H4 := Lib.hid h4
  clear h2 h3 h4
  have S2 := Lib.hid s2; have S3 := Lib.hid s3; have S4 := Lib.hid s4
  have n2 := zL_len s2; have n3 := zL_len s3; have n4 := zL_len s4
  clear s2 s3 s4
  have CB := Lib.hid ((cell_of_row w _ 0 _ _ _ hb).trans (show _ = some (Value.int .i64 t) from rfl))
  have LB := Lib.hid (Array.getElem?_eq_some_iff.1 hb).1
  clear hb
  have d := Lib.hid (show Below w.heap.size w (w.alloc (.cells #[.int .i64 sg, .int .i64 ba, .slice p2 x2.length c2, .slice p3 x3.length c3, .slice p4 x4.length c4] 27)) from ((Below.refl _ w).alloc (Nat.le_refl _) _))
  have B0 : Hid ((w.alloc (.cells #[.int .i64 sg, .int .i64 ba, .slice p2 x2.length c2, .slice p3 x3.length c3, .slice p4 x4.length c4] 27)).heap[w.heap.size]? = some (.cells #[.int .i64 sg, .int .i64 ba, .slice p2 x2.length c2, .slice p3 x3.length c3, .slice p4 x4.length c4] 27 (0, 0))) := Lib.hid (by
    exact heap_alloc_new w _)
  have YW : Hid (w.heap.size + 1 ≤ (w.alloc (.cells #[.int .i64 sg, .int .i64 ba, .slice p2 x2.length c2, .slice p3 x3.length c3, .slice p4 x4.length c4] 27)).heap.size) := Lib.hid (by simp [World.size_alloc])
  have pc := (d.out.cell (p := ⟨B, 0, none⟩) LB.out).trans CB.out
  go_enter Try.func34, Try.ntmps34
  go_wp2_with fail
  clear pc
  generalize (w.alloc (.cells #[.int .i64 sg, .int .i64 ba, .slice p2 x2.length c2, .slice p3 x3.length c3, .slice p4 x4.length c4] 27)) = W at *
  refine (shareOf_any t sg ba (.slice p2 x2.length c2) (.slice p3 x3.length c3) (.slice p4 x4.length c4) x2 x3 x4 W (slR_below tInt_law H2.out d.out) (slR_below tInt_law H3.out d.out) (slR_below tInt_law H4.out d.out) S2.out S3.out S4.out).mono ?_
  rintro e W1 ⟨rfl, c⟩
  replace B0 := Lib.hid ((c.block w.heap.size (Array.getElem?_eq_some_iff.1 B0.out).1).trans B0.out)
  replace d := Lib.hid (d.out.trans (c.mono d.out.size))
  have Z_W1 := Lib.hid (show W.heap.size ≤ W1.heap.size from c.size)
  clear c
  have p_B0_0 := (cell_of_row W1 _ 0 _ _ _ B0.out).trans (show _ = some (Value.int .i64 sg) from rfl)
  have p_B0_1 := (cell_of_row W1 _ 1 _ _ _ B0.out).trans (show _ = some (Value.int .i64 ba) from rfl)
  have p_B0_2 := (cell_of_row W1 _ 2 _ _ _ B0.out).trans (show _ = some (Value.slice p2 x2.length c2) from rfl)
  have p_B0_3 := (cell_of_row W1 _ 3 _ _ _ B0.out).trans (show _ = some (Value.slice p3 x3.length c3) from rfl)
  have p_B0_4 := (cell_of_row W1 _ 4 _ _ _ B0.out).trans (show _ = some (Value.slice p4 x4.length c4) from rfl)
  go_wp2
  clear p_B0_0 p_B0_1 p_B0_2 p_B0_3 p_B0_4
  go_ret
  exact ⟨rfl, d.out⟩
theorem workX_bd72p (x : ChargeD) : 0 ≤ workX x ∧ workX x ≤ 72 := by have := workX_bd x; omega
set_option maxHeartbeats 8000000 in
set_option maxRecDepth 100000 in
theorem sumWork (v : Value) (l : List ChargeD) (w : World) (h : SlR tCharge w v l) (hs : zL tCharge l ≤ 1048576) :
    Calls Try.prog 33 #[v, .func (.func 18) #[] #[]] w (fun e w' => e = .returned (.int .i64 (totalL workX l)) ∧ Below w.heap.size w w') := by
  have hlen := zL_len hs
  have HS := Lib.hid hs
  have H := Lib.hid h
  obtain ⟨a, cap, rfl⟩ := slR_len h
  clear h hs
  go_enter Try.func33, Try.ntmps33
  go_wp2
  go_loopw [5, 10] (fun n i wr => ∃ (k : Nat) (s : Int), k ≤ l.length ∧ i = .int .i64 k ∧ n = .int .i64 s ∧ Hid (s = totalTo workX l k) ∧ Below w.heap.size w wr) (fun _ i _ => l.length - (intOf i).toNat)
  case atStart => exact ⟨0, 0, Nat.zero_le _, rfl, rfl, Lib.hid rfl, Below.refl _ _⟩
  case round =>
    obtain ⟨k, s, hk, rfl, rfl, hsum, c⟩ := hrel
    have cw := Lib.hid c
    have s1 := totalTo_bd (f := workX) workX_bd72p l k
    rw [← hsum.out] at s1
    obtain ⟨s1, s2'⟩ := s1
    have s2 : s ≤ 100000000 := by omega
    clear s2'
    by_cases hlt : k < l.length
    · have i1 : (0 : Int) ≤ (k : Int) := by omega
      have i2 : (k : Int) < (l.length : Int) := by omega
      have hz := zL_at HS.out hlt
      change tCharge.sz (l.getD k x0D) ≤ 1048576 at hz
      have HN : Hid (s + workX (l.getD k x0D) = totalTo workX l (k + 1)) := Lib.hid (by rw [totalTo_succ, hsum.out])
      obtain ⟨b, off, cap', p2, c2, p3, c3, p4, c4, hv, hbl, e0, e1, e2, e3, e4, s2, s3, s4⟩ := chg_at (slR_below tCharge_law H.out c) hlt
      simp only [Value.slice.injEq] at hv
      obtain ⟨rfl, _, rfl⟩ := hv
      have HBL := Lib.hid (show b < wr.heap.size from hbl)
      generalize l.getD k x0D = x at *
      obtain ⟨sg, ba, x2, x3, x4⟩ := x
      rw [tCharge_sz] at hz
      dsimp only at *
      clear hbl
      have hal : Below wr.heap.size wr (wr.alloc (.cells #[.int .i64 sg, .int .i64 ba, .slice p2 x2.length c2, .slice p3 x3.length c3, .slice p4 x4.length c4] 27)) := (Below.refl _ _).alloc (Nat.le_refl _) _
      have HC0 := implWorkDone sg ba (.slice p2 x2.length c2) (.slice p3 x3.length c3) (.slice p4 x4.length c4) x2 x3 x4 _ (slR_below tInt_law s2 hal) (slR_below tInt_law s3 hal) (slR_below tInt_law s4 hal) (by omega) (by omega) (by omega)
      have HC := Lib.hid (HC0.mono (fun e w' hh => (⟨hh.1, hal.trans (hh.2.mono hal.size)⟩ : e = .returned (.int .i64 (workX (sg, ba, x2, x3, x4))) ∧ Below wr.heap.size wr w')))
      have hy := workX_bd72p (sg, ba, x2, x3, x4)
      clear HC0 hal s2 s3 s4 hz hsum c
      generalize workX (sg, ba, x2, x3, x4) = y at *
      obtain ⟨y1, y2⟩ := hy
      go_wp2_with fail
      refine HC.out.mono ?_
      rintro e w2 ⟨rfl, c2⟩
      have cw2 := Lib.hid (cw.out.trans (c2.mono cw.out.size))
      clear c2 HC e0 e1 e2 e3 e4
      go_wp2
      go_roundw
      case rel => exact ⟨k + 1, s + y, by omega, by go_num, rfl, HN, cw2.out⟩
      case measure => simp [intOf]; omega
    · obtain rfl : k = l.length := by omega
      have HT : Hid (s = totalL workX l) := Lib.hid hsum.out
      clear hsum c
      go_wp2
      go_ret
      exact ⟨ret_n HT.out, cw.out⟩
set_option maxHeartbeats 8000000 in
set_option maxRecDepth 100000 in
theorem sumTen (t : Int) (B : Nat) (v : Value) (l : List ChargeD) (w : World) (hb : w.heap[B]? = some (.cells #[.int .i64 t] 3 (0, 0))) (h : SlR tCharge w v l) (hs : zL tCharge l ≤ 1048576) :
    Calls Try.prog 33 #[v, .func (.func 34) #[] #[.pointer (some ⟨B, 0, none⟩)]] w (fun e w' => e = .returned (.int .i64 (totalL (tenX t) l)) ∧ Below w.heap.size w w') := by
  have hlen := zL_len hs
  have HS := Lib.hid hs
  have H := Lib.hid h
  obtain ⟨a, cap, rfl⟩ := slR_len h
  clear h hs
  have BB := Lib.hid hb
  clear hb
  go_enter Try.func33, Try.ntmps33
  go_wp2
  go_loopw [5, 10] (fun n i wr => ∃ (k : Nat) (s : Int), k ≤ l.length ∧ i = .int .i64 k ∧ n = .int .i64 s ∧ Hid (s = totalTo (tenX t) l k) ∧ Below w.heap.size w wr) (fun _ i _ => l.length - (intOf i).toNat)
  case atStart => exact ⟨0, 0, Nat.zero_le _, rfl, rfl, Lib.hid rfl, Below.refl _ _⟩
  case round =>
    obtain ⟨k, s, hk, rfl, rfl, hsum, c⟩ := hrel
    have cw := Lib.hid c
    have s1 := totalTo_bd (f := (tenX t)) (tenX_bd t) l k
    rw [← hsum.out] at s1
    obtain ⟨s1, s2'⟩ := s1
    have s2 : s ≤ 100000000 := by omega
    clear s2'
    by_cases hlt : k < l.length
    · have i1 : (0 : Int) ≤ (k : Int) := by omega
      have i2 : (k : Int) < (l.length : Int) := by omega
      have hz := zL_at HS.out hlt
      change tCharge.sz (l.getD k x0D) ≤ 1048576 at hz
      have HN : Hid (s + (tenX t) (l.getD k x0D) = totalTo (tenX t) l (k + 1)) := Lib.hid (by rw [totalTo_succ, hsum.out])
      obtain ⟨b, off, cap', p2, c2, p3, c3, p4, c4, hv, hbl, e0, e1, e2, e3, e4, s2, s3, s4⟩ := chg_at (slR_below tCharge_law H.out c) hlt
      simp only [Value.slice.injEq] at hv
      obtain ⟨rfl, _, rfl⟩ := hv
      have HBL := Lib.hid (show b < wr.heap.size from hbl)
      generalize l.getD k x0D = x at *
      obtain ⟨sg, ba, x2, x3, x4⟩ := x
      rw [tCharge_sz] at hz
      dsimp only at *
      clear hbl
      have hal : Below wr.heap.size wr (wr.alloc (.cells #[.int .i64 sg, .int .i64 ba, .slice p2 x2.length c2, .slice p3 x3.length c3, .slice p4 x4.length c4] 27)) := (Below.refl _ _).alloc (Nat.le_refl _) _
      have HC0 := tenClos t B sg ba (.slice p2 x2.length c2) (.slice p3 x3.length c3) (.slice p4 x4.length c4) x2 x3 x4 _ (slR_below tInt_law s2 hal) (slR_below tInt_law s3 hal) (slR_below tInt_law s4 hal) (by omega) (by omega) (by omega) (((cw.out.trans (hal.mono cw.out.size)).block B (Array.getElem?_eq_some_iff.1 BB.out).1).trans BB.out)
      have HC := Lib.hid (HC0.mono (fun e w' hh => (⟨hh.1, hal.trans (hh.2.mono hal.size)⟩ : e = .returned (.int .i64 ((tenX t) (sg, ba, x2, x3, x4))) ∧ Below wr.heap.size wr w')))
      have hy := (tenX_bd t) (sg, ba, x2, x3, x4)
      clear HC0 hal s2 s3 s4 hz hsum c
      generalize (tenX t) (sg, ba, x2, x3, x4) = y at *
      obtain ⟨y1, y2⟩ := hy
      go_wp2_with fail
      refine HC.out.mono ?_
      rintro e w2 ⟨rfl, c2⟩
      have cw2 := Lib.hid (cw.out.trans (c2.mono cw.out.size))
      clear c2 HC e0 e1 e2 e3 e4
      go_wp2
      go_roundw
      case rel => exact ⟨k + 1, s + y, by omega, by go_num, rfl, HN, cw2.out⟩
      case measure => simp [intOf]; omega
    · obtain rfl : k = l.length := by omega
      have HT : Hid (s = totalL (tenX t) l) := Lib.hid hsum.out
      clear hsum c
      go_wp2
      go_ret
      exact ⟨ret_n HT.out, cw.out⟩
set_option maxHeartbeats 8000000 in
set_option maxRecDepth 100000 in
theorem implTotalWork (v : Value) (l : List ChargeD) (w : World) (h : SlR tCharge w v l) (hs : zL tCharge l ≤ 1048576) :
    Calls Try.prog 28 #[v] w (fun e w' => e = .returned (.int .i64 (totalL workX l)) ∧ Below w.heap.size w w') := by
  have HC := Lib.hid (sumWork v l w h hs)
  clear h hs
  go_enter Try.func28, Try.ntmps28
  go_wp2_with fail
  refine HC.out.mono ?_
  rintro e w1 ⟨rfl, c⟩
  have C := Lib.hid c
  clear c HC
  go_wp2
  go_ret
  exact ⟨rfl, C.out⟩
set_option maxHeartbeats 8000000 in
set_option maxRecDepth 100000 in
theorem implTenantCharge (t : Int) (v : Value) (l : List ChargeD) (w : World) (h : SlR tCharge w v l) (hs : zL tCharge l ≤ 1048576) :
    Calls Try.prog 22 #[v, .int .i64 t] w (fun e w' => e = .returned (.int .i64 (totalL (tenX t) l)) ∧ Below w.heap.size w w') := by
  have hal : Below w.heap.size w (w.alloc (.cells #[.int .i64 t] 3)) := (Below.refl _ _).alloc (Nat.le_refl _) _
  have d := Lib.hid hal
  have HC := Lib.hid (sumTen t w.heap.size v l _ (heap_alloc_new w (.cells #[.int .i64 t] 3)) (slR_below tCharge_law h hal) hs)
  have hmf : ∀ (fn : Fn) (first cap : Array Value) (w : World), (Instr.makeFunc fn first cap).run Try.prog w = .ok (.func fn first cap) w := fun _ _ _ _ => rfl
  clear hal h hs
  go_enter Try.func22, Try.ntmps22
  go_wp2_with fail
  refine HC.out.mono ?_
  rintro e w1 ⟨rfl, c⟩
  have d2 := Lib.hid (d.out.trans (c.mono d.out.size))
  clear c HC
  go_wp2
  go_ret
  exact ⟨rfl, d2.out⟩
end Go.Proofs.Ytjapbmaibgplkaa
namespace Go.Proofs.Ytjapbmaibgplkaa
open Go.RowKit
set_option linter.unusedVariables false
set_option linter.unusedSimpArgs false
theorem shares_size (x : ChargeD) : zL tInt (sharesX x) ≤ 1048576 := by
  rw [zL_ints]; have := @sharesX_len x; omega
/-- What the law asks of a list of numbers that is answered. -/
theorem fit_ints {w : World} {xs : List Int} {e : Ending} {w' : World} (h : FreshInts w xs e w') : ∃ (g0 : Value) (G0 : Nat → Prop), e = .returned g0 ∧ SlO 3 tInt w' G0 g0 xs ∧ (∀ b, G0 b → w.heap.size ≤ b) ∧ Below w.heap.size w w' := by
  obtain ⟨u, he, ho, hb⟩ := h
  exact ⟨u, since w, he, fresh_ints ho, fun b hb => hb, hb⟩
theorem fitSpecShares (sg ba : Int) (x2 x3 x4 : List Int) : ∀ (v2 v3 v4 : Value) (w : World), SlR tInt w v2 x2 → SlR tInt w v3 x3 → SlR tInt w v4 x4 → zL tInt x2 + zL tInt x3 + zL tInt x4 ≤ 1048576 →
    Calls Try.prog 9 #[.agg #[.int .i64 sg, .int .i64 ba, v2, v3, v4]] w (fun e w' => ∃ (g0 : Value) (G0 : Nat → Prop), e = .returned (g0) ∧ SlO 3 tInt w' G0 g0 (sharesX (sg, ba, x2, x3, x4)) ∧ (∀ b, G0 b → w.heap.size ≤ b) ∧ Below w.heap.size w w') := by
  intro v2 v3 v4 w h2 h3 h4 hz
  exact (specSharesOf sg ba v2 v3 v4 x2 x3 x4 w h2 h3 h4 (zL_len (show zL tInt x2 ≤ 1048576 by omega)) (zL_len (show zL tInt x3 ≤ 1048576 by omega)) (zL_len (show zL tInt x4 ≤ 1048576 by omega))).mono fun e w' h => fit_ints h
theorem fitImplShares (sg ba : Int) (x2 x3 x4 : List Int) : ∀ (v2 v3 v4 : Value) (w : World), SlR tInt w v2 x2 → SlR tInt w v3 x3 → SlR tInt w v4 x4 → zL tInt x2 + zL tInt x3 + zL tInt x4 ≤ 1048576 →
    Calls Try.prog 11 #[.agg #[.int .i64 sg, .int .i64 ba, v2, v3, v4]] w (fun e w' => ∃ (g0 : Value) (G0 : Nat → Prop), e = .returned (g0) ∧ SlO 3 tInt w' G0 g0 (sharesX (sg, ba, x2, x3, x4)) ∧ (∀ b, G0 b → w.heap.size ≤ b) ∧ Below w.heap.size w w') := by
  intro v2 v3 v4 w h2 h3 h4 hz
  exact (implSharesOf sg ba v2 v3 v4 x2 x3 x4 w h2 h3 h4 (by omega) (by omega) (by omega)).mono fun e w' h => fit_ints h
end Go.Proofs.Ytjapbmaibgplkaa
namespace Go.Proofs.Ytjapbmaibgplkaa
open Go.RowKit
set_option linter.unusedVariables false
set_option linter.unusedSimpArgs false
set_option maxHeartbeats 32000000 in
set_option maxRecDepth 100000 in
theorem law_fnExactSharesOf (a0_0 a0_1 : Int) (v0_2 v0_3 v0_4 : Value) (x0_2 : List Int) (x0_3 : List Int) (x0_4 : List Int) (r0 : List Int) (w : World) (h0_2 : SlR tInt w v0_2 x0_2) (h0_3 : SlR tInt w v0_3 x0_3) (h0_4 : SlR tInt w v0_4 x0_4) (o0_2 : tIntS.ok x0_2) (o0_3 : tIntS.ok x0_3) (o0_4 : tIntS.ok x0_4) (z0 : zL tInt r0 ≤ 1048576)
    (hspec : ∀ (v0_2 v0_3 v0_4 : Value) (w : World), SlR tInt w v0_2 x0_2 → SlR tInt w v0_3 x0_3 → SlR tInt w v0_4 x0_4 → zL tInt x0_2 + zL tInt x0_3 + zL tInt x0_4 ≤ 1048576 → Calls Try.prog 9 #[.agg #[.int .i64 a0_0, .int .i64 a0_1, v0_2, v0_3, v0_4]] w (fun e w' => ∃ (g0 : Value) (G0 : Nat → Prop), e = .returned (g0) ∧ SlO 3 tInt w' G0 g0 r0 ∧ (∀ b, G0 b → w.heap.size ≤ b) ∧ Below w.heap.size w w'))
    (himpl : ∀ (v0_2 v0_3 v0_4 : Value) (w : World), SlR tInt w v0_2 x0_2 → SlR tInt w v0_3 x0_3 → SlR tInt w v0_4 x0_4 → zL tInt x0_2 + zL tInt x0_3 + zL tInt x0_4 ≤ 1048576 → Calls Try.prog 11 #[.agg #[.int .i64 a0_0, .int .i64 a0_1, v0_2, v0_3, v0_4]] w (fun e w' => ∃ (g0 : Value) (G0 : Nat → Prop), e = .returned (g0) ∧ SlO 3 tInt w' G0 g0 r0 ∧ (∀ b, G0 b → w.heap.size ≤ b) ∧ Below w.heap.size w w')) :
    Calls Try.prog 3 #[.agg #[.int .i64 a0_0, .int .i64 a0_1, v0_2, v0_3, v0_4]] w fun e w' => e = .returned (.bool true) ∧ Below w.heap.size w w' := by
  obtain ⟨c0_2, k0_2, rfl⟩ := slR_len h0_2
  obtain ⟨c0_3, k0_3, rfl⟩ := slR_len h0_3
  obtain ⟨c0_4, k0_4, rfl⟩ := slR_len h0_4
  have HB0 : Hid (Below w.heap.size w (w.alloc (.cells #[.int .i64 a0_0, .int .i64 a0_1, .slice c0_2 x0_2.length k0_2, .slice c0_3 x0_3.length k0_3, .slice c0_4 x0_4.length k0_4] 24))) := Lib.hid ((Below.refl _ w).alloc (Nat.le_refl _) _)
  have B0 : Hid ((w.alloc (.cells #[.int .i64 a0_0, .int .i64 a0_1, .slice c0_2 x0_2.length k0_2, .slice c0_3 x0_3.length k0_3, .slice c0_4 x0_4.length k0_4] 24)).heap[w.heap.size]? = some (.cells #[.int .i64 a0_0, .int .i64 a0_1, .slice c0_2 x0_2.length k0_2, .slice c0_3 x0_3.length k0_3, .slice c0_4 x0_4.length k0_4] 24 (0, 0))) := Lib.hid (by have := heap_alloc_new w (.cells #[.int .i64 a0_0, .int .i64 a0_1, .slice c0_2 x0_2.length k0_2, .slice c0_3 x0_3.length k0_3, .slice c0_4 x0_4.length k0_4] 24); simpa only [World.size_alloc] using this)
  have A0_2 : Hid (SlR tInt (w.alloc (.cells #[.int .i64 a0_0, .int .i64 a0_1, .slice c0_2 x0_2.length k0_2, .slice c0_3 x0_3.length k0_3, .slice c0_4 x0_4.length k0_4] 24)) (.slice c0_2 x0_2.length k0_2) x0_2) := Lib.hid (slR_below tInt_law h0_2 HB0.out)
  have A0_3 : Hid (SlR tInt (w.alloc (.cells #[.int .i64 a0_0, .int .i64 a0_1, .slice c0_2 x0_2.length k0_2, .slice c0_3 x0_3.length k0_3, .slice c0_4 x0_4.length k0_4] 24)) (.slice c0_3 x0_3.length k0_3) x0_3) := Lib.hid (slR_below tInt_law h0_3 HB0.out)
  have A0_4 : Hid (SlR tInt (w.alloc (.cells #[.int .i64 a0_0, .int .i64 a0_1, .slice c0_2 x0_2.length k0_2, .slice c0_3 x0_3.length k0_3, .slice c0_4 x0_4.length k0_4] 24)) (.slice c0_4 x0_4.length k0_4) x0_4) := Lib.hid (slR_below tInt_law h0_4 HB0.out)
  have O0_2 := Lib.hid o0_2
  have O0_3 := Lib.hid o0_3
  have O0_4 := Lib.hid o0_4
  clear h0_2 o0_2 h0_3 o0_3 h0_4 o0_4
  have HSP := Lib.hid hspec
  have HIM := Lib.hid himpl
  clear hspec himpl
  have Z0 := Lib.hid z0
  clear z0
  by_cases c0 : ((zL tInt x0_2 + zL tInt x0_3 + zL tInt x0_4 : Nat) : Int) ≤ (1048576 : Int)
  ·
    have HZ0 : Hid (((zL tInt x0_2 + zL tInt x0_3 + zL tInt x0_4 : Nat) : Int) ≤ (1048576 : Int)) := Lib.hid c0
    have HK0 : Hid ((1048576 : Int) ≤ 1048576) := Lib.hid (by omega)
    have hn0 : ¬ (1048576 : Int) - ((zL tInt x0_2 + zL tInt x0_3 + zL tInt x0_4 : Nat) : Int) < 0 := by omega
    have HT : Hid (zL tInt x0_2 + zL tInt x0_3 + zL tInt x0_4 ≤ 1048576) := Lib.hid (by omega)
    have S0_2 : Hid (zL tInt x0_2 ≤ 1048576) := Lib.hid (by omega)
    have S0_3 : Hid (zL tInt x0_3 ≤ 1048576) := Lib.hid (by omega)
    have S0_4 : Hid (zL tInt x0_4 ≤ 1048576) := Lib.hid (by omega)
    have N0_2 := ndL_le tInt_law (by decide) x0_2
    have N0_3 := ndL_le tInt_law (by decide) x0_3
    have N0_4 := ndL_le tInt_law (by decide) x0_4
    have M0 : Hid (0 ≤ (1 : Int) ∧ (1 : Int) ≤ 134217728) := Lib.hid (by have := HT.out; omega)
    have hk : ¬ (1 + (ndL tInt x0_2 : Int) + (ndL tInt x0_3 : Int) + (ndL tInt x0_4 : Int) : Int) < 0 := by omega
    clear N0_2 N0_3 N0_4
    have NR0 := ndL_le tInt_law (by decide) r0
    have MR0 : Hid (0 ≤ (1 : Int) ∧ (1 : Int) ≤ 134217728) := Lib.hid (by have := Z0.out; omega)
    have hh0 : ¬ (1 + (ndL tInt r0 : Int) : Int) < 0 := by have := Z0.out; omega
    have hq : ((1 + (ndL tInt r0 : Int) : Int) != 1 + (ndL tInt r0 : Int)) = false := by simp
    clear NR0
    clear c0
    go_enter Try.func3, Try.ntmps3
    go_wp2_with fail
    have Y_W : Hid (w.heap.size + 1 ≤ (w.alloc (.cells #[.int .i64 a0_0, .int .i64 a0_1, .slice c0_2 x0_2.length k0_2, .slice c0_3 x0_3.length k0_3, .slice c0_4 x0_4.length k0_4] 24)).heap.size) := Lib.hid (by simp [World.size_alloc])
    generalize (w.alloc (.cells #[.int .i64 a0_0, .int .i64 a0_1, .slice c0_2 x0_2.length k0_2, .slice c0_3 x0_3.length k0_3, .slice c0_4 x0_4.length k0_4] 24)) = W at *
    have d := Lib.hid (Below.refl W.heap.size W)
    refine (szCharge_Y a0_0 a0_1 (.slice c0_2 x0_2.length k0_2) (.slice c0_3 x0_3.length k0_3) (.slice c0_4 x0_4.length k0_4) x0_2 x0_3 x0_4 ((1048576 : Int)) W (slR_below tInt_law A0_2.out d.out) (slR_below tInt_law A0_3.out d.out) (slR_below tInt_law A0_4.out d.out) HZ0.out HK0.out).mono ?_
    rintro e v1 ⟨rfl, c1⟩
    replace B0 := Lib.hid ((c1.block w.heap.size (Array.getElem?_eq_some_iff.1 B0.out).1).trans B0.out)
    replace d := Lib.hid (d.out.trans (c1.mono d.out.size))
    have Z_v1 := Lib.hid (show W.heap.size ≤ v1.heap.size from c1.size)
    clear c1
    have p_B0_0 := (cell_of_row v1 _ 0 _ _ _ B0.out).trans (show _ = some (Value.int .i64 a0_0) from rfl)
    have p_B0_1 := (cell_of_row v1 _ 1 _ _ _ B0.out).trans (show _ = some (Value.int .i64 a0_1) from rfl)
    have p_B0_2 := (cell_of_row v1 _ 2 _ _ _ B0.out).trans (show _ = some (Value.slice c0_2 x0_2.length k0_2) from rfl)
    have p_B0_3 := (cell_of_row v1 _ 3 _ _ _ B0.out).trans (show _ = some (Value.slice c0_3 x0_3.length k0_3) from rfl)
    have p_B0_4 := (cell_of_row v1 _ 4 _ _ _ B0.out).trans (show _ = some (Value.slice c0_4 x0_4.length k0_4) from rfl)
    go_wp2_with fail
    clear p_B0_0 p_B0_1 p_B0_2 p_B0_3 p_B0_4
    refine (toCharge_T a0_0 a0_1 (.slice c0_2 x0_2.length k0_2) (.slice c0_3 x0_3.length k0_3) (.slice c0_4 x0_4.length k0_4) x0_2 x0_3 x0_4 v1 (slR_below tInt_law A0_2.out d.out) (slR_below tInt_law A0_3.out d.out) (slR_below tInt_law A0_4.out d.out) S0_2.out S0_3.out S0_4.out).mono ?_
    rintro e v2 ⟨cs, rfl, ow, c2⟩
    replace B0 := Lib.hid ((c2.block w.heap.size (Array.getElem?_eq_some_iff.1 B0.out).1).trans B0.out)
    replace d := Lib.hid (d.out.trans (c2.mono d.out.size))
    have Z_v2 := Lib.hid (show v1.heap.size ≤ v2.heap.size from c2.size)
    clear c2
    replace ow := tCharge_law.lt ow
    obtain ⟨y2_2, y2_3, y2_4, K2_2, K2_3, K2_4, rfl, p2_2, p2_3, p2_4, w2_2, w2_3, w2_4, d2_2_3, d2_2_4, d2_3_4⟩ := tCharge_O ow
    obtain ⟨ya2_2, yc2_2, rfl⟩ := slO_len p2_2
    have P2_2 := Lib.hid p2_2
    have Q2_2 := Lib.hid (fun b h => (show v1.heap.size ≤ b ∧ b < v2.heap.size from w2_2 b h))
    obtain ⟨ya2_3, yc2_3, rfl⟩ := slO_len p2_3
    have P2_3 := Lib.hid p2_3
    have Q2_3 := Lib.hid (fun b h => (show v1.heap.size ≤ b ∧ b < v2.heap.size from w2_3 b h))
    obtain ⟨ya2_4, yc2_4, rfl⟩ := slO_len p2_4
    have P2_4 := Lib.hid p2_4
    have Q2_4 := Lib.hid (fun b h => (show v1.heap.size ≤ b ∧ b < v2.heap.size from w2_4 b h))
    have D2_2_3 := Lib.hid d2_2_3
    clear d2_2_3
    have D2_2_4 := Lib.hid d2_2_4
    clear d2_2_4
    have D2_3_4 := Lib.hid d2_3_4
    clear d2_3_4
    clear p2_2 w2_2 p2_3 w2_3 p2_4 w2_4 ow
    go_wp2_with fail
    refine (HSP.out (.slice ya2_2 x0_2.length yc2_2) (.slice ya2_3 x0_3.length yc2_3) (.slice ya2_4 x0_4.length yc2_4) v2 (slO_reads tInt_law P2_2.out) (slO_reads tInt_law P2_3.out) (slO_reads tInt_law P2_4.out) HT.out ).mono ?_
    rintro e v3 ⟨g0, G0, rfl, o0, q0, c3⟩
    replace B0 := Lib.hid ((c3.block w.heap.size (Array.getElem?_eq_some_iff.1 B0.out).1).trans B0.out)
    replace P2_2 := Lib.hid (slO_fresh tInt_law P2_2.out c3)
    replace P2_3 := Lib.hid (slO_fresh tInt_law P2_3.out c3)
    replace P2_4 := Lib.hid (slO_fresh tInt_law P2_4.out c3)
    replace d := Lib.hid (d.out.trans (c3.mono d.out.size))
    have Z_v3 := Lib.hid (show v2.heap.size ≤ v3.heap.size from c3.size)
    clear c3
    obtain ⟨ya3, yc3, rfl⟩ := slO_len o0
    have P3 := Lib.hid (slO_lt tInt_law o0)
    have Q3 := Lib.hid (fun b (h : _ ∧ b < v3.heap.size) => (show v2.heap.size ≤ b ∧ b < v3.heap.size from ⟨q0 b h.1, h.2⟩))
    clear o0 q0
    have p_B0_0 := (cell_of_row v3 _ 0 _ _ _ B0.out).trans (show _ = some (Value.int .i64 a0_0) from rfl)
    have p_B0_1 := (cell_of_row v3 _ 1 _ _ _ B0.out).trans (show _ = some (Value.int .i64 a0_1) from rfl)
    have p_B0_2 := (cell_of_row v3 _ 2 _ _ _ B0.out).trans (show _ = some (Value.slice c0_2 x0_2.length k0_2) from rfl)
    have p_B0_3 := (cell_of_row v3 _ 3 _ _ _ B0.out).trans (show _ = some (Value.slice c0_3 x0_3.length k0_3) from rfl)
    have p_B0_4 := (cell_of_row v3 _ 4 _ _ _ B0.out).trans (show _ = some (Value.slice c0_4 x0_4.length k0_4) from rfl)
    go_wp2_with fail
    clear p_B0_0 p_B0_1 p_B0_2 p_B0_3 p_B0_4
    refine (toCharge_T a0_0 a0_1 (.slice c0_2 x0_2.length k0_2) (.slice c0_3 x0_3.length k0_3) (.slice c0_4 x0_4.length k0_4) x0_2 x0_3 x0_4 v3 (slR_below tInt_law A0_2.out d.out) (slR_below tInt_law A0_3.out d.out) (slR_below tInt_law A0_4.out d.out) S0_2.out S0_3.out S0_4.out).mono ?_
    rintro e v4 ⟨cs, rfl, ow, c4⟩
    replace B0 := Lib.hid ((c4.block w.heap.size (Array.getElem?_eq_some_iff.1 B0.out).1).trans B0.out)
    replace P2_2 := Lib.hid (slO_fresh tInt_law P2_2.out c4)
    replace P2_3 := Lib.hid (slO_fresh tInt_law P2_3.out c4)
    replace P2_4 := Lib.hid (slO_fresh tInt_law P2_4.out c4)
    replace P3 := Lib.hid (slO_fresh tInt_law P3.out c4)
    replace d := Lib.hid (d.out.trans (c4.mono d.out.size))
    have Z_v4 := Lib.hid (show v3.heap.size ≤ v4.heap.size from c4.size)
    clear c4
    replace ow := tCharge_law.lt ow
    obtain ⟨y4_2, y4_3, y4_4, K4_2, K4_3, K4_4, rfl, p4_2, p4_3, p4_4, w4_2, w4_3, w4_4, d4_2_3, d4_2_4, d4_3_4⟩ := tCharge_O ow
    obtain ⟨ya4_2, yc4_2, rfl⟩ := slO_len p4_2
    have P4_2 := Lib.hid p4_2
    have Q4_2 := Lib.hid (fun b h => (show v3.heap.size ≤ b ∧ b < v4.heap.size from w4_2 b h))
    obtain ⟨ya4_3, yc4_3, rfl⟩ := slO_len p4_3
    have P4_3 := Lib.hid p4_3
    have Q4_3 := Lib.hid (fun b h => (show v3.heap.size ≤ b ∧ b < v4.heap.size from w4_3 b h))
    obtain ⟨ya4_4, yc4_4, rfl⟩ := slO_len p4_4
    have P4_4 := Lib.hid p4_4
    have Q4_4 := Lib.hid (fun b h => (show v3.heap.size ≤ b ∧ b < v4.heap.size from w4_4 b h))
    have D4_2_3 := Lib.hid d4_2_3
    clear d4_2_3
    have D4_2_4 := Lib.hid d4_2_4
    clear d4_2_4
    have D4_3_4 := Lib.hid d4_3_4
    clear d4_3_4
    clear p4_2 w4_2 p4_3 w4_3 p4_4 w4_4 ow
    have hal : Below v4.heap.size v4 (v4.alloc (.cells #[.int .i64 a0_0, .int .i64 a0_1, .slice ya4_2 x0_2.length yc4_2, .slice ya4_3 x0_3.length yc4_3, .slice ya4_4 x0_4.length yc4_4] 27)) := (Below.refl _ _).alloc (Nat.le_refl _) _
    have X1 := Lib.hid (heap_alloc_new v4 (.cells #[.int .i64 a0_0, .int .i64 a0_1, .slice ya4_2 x0_2.length yc4_2, .slice ya4_3 x0_3.length yc4_3, .slice ya4_4 x0_4.length yc4_4] 27))
    have Y_X1 := Lib.hid (show v4.heap.size < (v4.alloc (.cells #[.int .i64 a0_0, .int .i64 a0_1, .slice ya4_2 x0_2.length yc4_2, .slice ya4_3 x0_3.length yc4_3, .slice ya4_4 x0_4.length yc4_4] 27)).heap.size by simp [World.size_alloc])
    replace B0 := Lib.hid ((hal.block w.heap.size (Array.getElem?_eq_some_iff.1 B0.out).1).trans B0.out)
    replace P2_2 := Lib.hid (slO_fresh tInt_law P2_2.out hal)
    replace P2_3 := Lib.hid (slO_fresh tInt_law P2_3.out hal)
    replace P2_4 := Lib.hid (slO_fresh tInt_law P2_4.out hal)
    replace P3 := Lib.hid (slO_fresh tInt_law P3.out hal)
    replace P4_2 := Lib.hid (slO_fresh tInt_law P4_2.out hal)
    replace P4_3 := Lib.hid (slO_fresh tInt_law P4_3.out hal)
    replace P4_4 := Lib.hid (slO_fresh tInt_law P4_4.out hal)
    replace d := Lib.hid (d.out.trans (hal.mono d.out.size))
    clear hal
    have p_X1_0 := (cell_of_row (v4.alloc (.cells #[.int .i64 a0_0, .int .i64 a0_1, .slice ya4_2 x0_2.length yc4_2, .slice ya4_3 x0_3.length yc4_3, .slice ya4_4 x0_4.length yc4_4] 27)) _ 0 _ _ _ X1.out).trans (show _ = some (Value.int .i64 a0_0) from rfl)
    have p_X1_1 := (cell_of_row (v4.alloc (.cells #[.int .i64 a0_0, .int .i64 a0_1, .slice ya4_2 x0_2.length yc4_2, .slice ya4_3 x0_3.length yc4_3, .slice ya4_4 x0_4.length yc4_4] 27)) _ 1 _ _ _ X1.out).trans (show _ = some (Value.int .i64 a0_1) from rfl)
    have p_X1_2 := (cell_of_row (v4.alloc (.cells #[.int .i64 a0_0, .int .i64 a0_1, .slice ya4_2 x0_2.length yc4_2, .slice ya4_3 x0_3.length yc4_3, .slice ya4_4 x0_4.length yc4_4] 27)) _ 2 _ _ _ X1.out).trans (show _ = some (Value.slice ya4_2 x0_2.length yc4_2) from rfl)
    have p_X1_3 := (cell_of_row (v4.alloc (.cells #[.int .i64 a0_0, .int .i64 a0_1, .slice ya4_2 x0_2.length yc4_2, .slice ya4_3 x0_3.length yc4_3, .slice ya4_4 x0_4.length yc4_4] 27)) _ 3 _ _ _ X1.out).trans (show _ = some (Value.slice ya4_3 x0_3.length yc4_3) from rfl)
    have p_X1_4 := (cell_of_row (v4.alloc (.cells #[.int .i64 a0_0, .int .i64 a0_1, .slice ya4_2 x0_2.length yc4_2, .slice ya4_3 x0_3.length yc4_3, .slice ya4_4 x0_4.length yc4_4] 27)) _ 4 _ _ _ X1.out).trans (show _ = some (Value.slice ya4_4 x0_4.length yc4_4) from rfl)
    go_wp2_with fail
    clear p_X1_0 p_X1_1 p_X1_2 p_X1_3 p_X1_4
    generalize (v4.alloc (.cells #[.int .i64 a0_0, .int .i64 a0_1, .slice ya4_2 x0_2.length yc4_2, .slice ya4_3 x0_3.length yc4_3, .slice ya4_4 x0_4.length yc4_4] 27)) = u5 at *
    refine (HIM.out (.slice ya4_2 x0_2.length yc4_2) (.slice ya4_3 x0_3.length yc4_3) (.slice ya4_4 x0_4.length yc4_4) u5 (slO_reads tInt_law P4_2.out) (slO_reads tInt_law P4_3.out) (slO_reads tInt_law P4_4.out) HT.out ).mono ?_
    rintro e v6 ⟨g0, G0, rfl, o0, q0, c6⟩
    replace B0 := Lib.hid ((c6.block w.heap.size (Array.getElem?_eq_some_iff.1 B0.out).1).trans B0.out)
    replace X1 := Lib.hid ((c6.block v4.heap.size (Array.getElem?_eq_some_iff.1 X1.out).1).trans X1.out)
    replace P2_2 := Lib.hid (slO_fresh tInt_law P2_2.out c6)
    replace P2_3 := Lib.hid (slO_fresh tInt_law P2_3.out c6)
    replace P2_4 := Lib.hid (slO_fresh tInt_law P2_4.out c6)
    replace P3 := Lib.hid (slO_fresh tInt_law P3.out c6)
    replace P4_2 := Lib.hid (slO_fresh tInt_law P4_2.out c6)
    replace P4_3 := Lib.hid (slO_fresh tInt_law P4_3.out c6)
    replace P4_4 := Lib.hid (slO_fresh tInt_law P4_4.out c6)
    replace d := Lib.hid (d.out.trans (c6.mono d.out.size))
    have Z_v6 := Lib.hid (show u5.heap.size ≤ v6.heap.size from c6.size)
    clear c6
    obtain ⟨ya6, yc6, rfl⟩ := slO_len o0
    have P6 := Lib.hid (slO_lt tInt_law o0)
    have Q6 := Lib.hid (fun b (h : _ ∧ b < v6.heap.size) => (show u5.heap.size ≤ b ∧ b < v6.heap.size from ⟨q0 b h.1, h.2⟩))
    clear o0 q0
    go_wp2_with fail
    refine (eqIntS_S (.slice ya6 r0.length yc6) (.slice ya3 r0.length yc3) r0 v6 (slO_reads tInt_law P6.out) (slO_reads tInt_law P3.out) Z0.out).mono ?_
    rintro e v7 ⟨rfl, c7⟩
    replace B0 := Lib.hid ((c7.block w.heap.size (Array.getElem?_eq_some_iff.1 B0.out).1).trans B0.out)
    replace X1 := Lib.hid ((c7.block v4.heap.size (Array.getElem?_eq_some_iff.1 X1.out).1).trans X1.out)
    replace P2_2 := Lib.hid (slO_fresh tInt_law P2_2.out c7)
    replace P2_3 := Lib.hid (slO_fresh tInt_law P2_3.out c7)
    replace P2_4 := Lib.hid (slO_fresh tInt_law P2_4.out c7)
    replace P3 := Lib.hid (slO_fresh tInt_law P3.out c7)
    replace P4_2 := Lib.hid (slO_fresh tInt_law P4_2.out c7)
    replace P4_3 := Lib.hid (slO_fresh tInt_law P4_3.out c7)
    replace P4_4 := Lib.hid (slO_fresh tInt_law P4_4.out c7)
    replace P6 := Lib.hid (slO_fresh tInt_law P6.out c7)
    replace d := Lib.hid (d.out.trans (c7.mono d.out.size))
    have Z_v7 := Lib.hid (show v6.heap.size ≤ v7.heap.size from c7.size)
    clear c7
    go_wp2
    have p_B0_0 := (cell_of_row v7 _ 0 _ _ _ B0.out).trans (show _ = some (Value.int .i64 a0_0) from rfl)
    have p_B0_1 := (cell_of_row v7 _ 1 _ _ _ B0.out).trans (show _ = some (Value.int .i64 a0_1) from rfl)
    have p_B0_2 := (cell_of_row v7 _ 2 _ _ _ B0.out).trans (show _ = some (Value.slice c0_2 x0_2.length k0_2) from rfl)
    have p_B0_3 := (cell_of_row v7 _ 3 _ _ _ B0.out).trans (show _ = some (Value.slice c0_3 x0_3.length k0_3) from rfl)
    have p_B0_4 := (cell_of_row v7 _ 4 _ _ _ B0.out).trans (show _ = some (Value.slice c0_4 x0_4.length k0_4) from rfl)
    have p_X1_0 := (cell_of_row v7 _ 0 _ _ _ X1.out).trans (show _ = some (Value.int .i64 a0_0) from rfl)
    have p_X1_1 := (cell_of_row v7 _ 1 _ _ _ X1.out).trans (show _ = some (Value.int .i64 a0_1) from rfl)
    have p_X1_2 := (cell_of_row v7 _ 2 _ _ _ X1.out).trans (show _ = some (Value.slice ya4_2 x0_2.length yc4_2) from rfl)
    have p_X1_3 := (cell_of_row v7 _ 3 _ _ _ X1.out).trans (show _ = some (Value.slice ya4_3 x0_3.length yc4_3) from rfl)
    have p_X1_4 := (cell_of_row v7 _ 4 _ _ _ X1.out).trans (show _ = some (Value.slice ya4_4 x0_4.length yc4_4) from rfl)
    refine wp_region_held_drew (S := fun w' => w'.cell? ⟨w.heap.size, 0, none⟩ = some (Value.int .i64 a0_0) ∧ w'.cell? ⟨w.heap.size, 1, none⟩ = some (Value.int .i64 a0_1) ∧ w'.cell? ⟨w.heap.size, 2, none⟩ = some (Value.slice c0_2 x0_2.length k0_2) ∧ w'.cell? ⟨w.heap.size, 3, none⟩ = some (Value.slice c0_3 x0_3.length k0_3) ∧ w'.cell? ⟨w.heap.size, 4, none⟩ = some (Value.slice c0_4 x0_4.length k0_4) ∧ w'.cell? ⟨v4.heap.size, 0, none⟩ = some (Value.int .i64 a0_0) ∧ w'.cell? ⟨v4.heap.size, 1, none⟩ = some (Value.int .i64 a0_1) ∧ w'.cell? ⟨v4.heap.size, 2, none⟩ = some (Value.slice ya4_2 x0_2.length yc4_2) ∧ w'.cell? ⟨v4.heap.size, 3, none⟩ = some (Value.slice ya4_3 x0_3.length yc4_3) ∧ w'.cell? ⟨v4.heap.size, 4, none⟩ = some (Value.slice ya4_4 x0_4.length yc4_4)) (by kernel_rfl) ⟨p_B0_0, p_B0_1, p_B0_2, p_B0_3, p_B0_4, p_X1_0, p_X1_1, p_X1_2, p_X1_3, p_X1_4⟩ (fun hHeld => ?_)
    clear p_B0_0 p_B0_1 p_B0_2 p_B0_3 p_B0_4 p_X1_0 p_X1_1 p_X1_2 p_X1_3 p_X1_4
    have cd8 : Below v7.heap.size v7 v7.drew := below_drew (Below.refl _ _)
    replace B0 := Lib.hid ((cd8.block w.heap.size (Array.getElem?_eq_some_iff.1 B0.out).1).trans B0.out)
    replace X1 := Lib.hid ((cd8.block v4.heap.size (Array.getElem?_eq_some_iff.1 X1.out).1).trans X1.out)
    replace P2_2 := Lib.hid (slO_fresh tInt_law P2_2.out cd8)
    replace P2_3 := Lib.hid (slO_fresh tInt_law P2_3.out cd8)
    replace P2_4 := Lib.hid (slO_fresh tInt_law P2_4.out cd8)
    replace P3 := Lib.hid (slO_fresh tInt_law P3.out cd8)
    replace P4_2 := Lib.hid (slO_fresh tInt_law P4_2.out cd8)
    replace P4_3 := Lib.hid (slO_fresh tInt_law P4_3.out cd8)
    replace P4_4 := Lib.hid (slO_fresh tInt_law P4_4.out cd8)
    replace P6 := Lib.hid (slO_fresh tInt_law P6.out cd8)
    replace d := Lib.hid (d.out.trans (cd8.mono d.out.size))
    clear cd8
    refine take_runs (i := 0) (v := ?_) (by simp only [List.getElem?_toArray, List.getElem?_cons_succ, List.getElem?_cons_zero]; rfl) (by kernel_rfl) (by kernel_rfl) (by kernel_rfl) rfl (by exact fun _ _ _ h => h) (by rfl) ?_ (by assumption) ?_
    rotate_left
    · intro w hSw; (try dsimp only at hSw); go_simp; try (with_reducible rfl)
    try simp only [Act.put, List.setIfInBounds_toArray, List.set_cons_zero, List.set_cons_succ]
    refine take_runs (i := 1) (v := ?_) (by simp only [List.getElem?_toArray, List.getElem?_cons_succ, List.getElem?_cons_zero]; rfl) (by kernel_rfl) (by kernel_rfl) (by kernel_rfl) rfl (by exact fun _ _ _ h => h) (by rfl) ?_ (by assumption) ?_
    rotate_left
    · intro w hSw; (try dsimp only at hSw); go_simp; try (with_reducible rfl)
    try simp only [Act.put, List.setIfInBounds_toArray, List.set_cons_zero, List.set_cons_succ]
    refine wpAnyH_ready (rs := [2]) (by kernel_rfl) (by simp) ?_
    refine AllReadyH.cons (o := _) (by simp only [List.getElem?_toArray, List.getElem?_cons_succ, List.getElem?_cons_zero]; rfl) (fun K hK => ?_) AllReadyH.nil
    go_simp
    refine (toCharge_T a0_0 a0_1 (.slice c0_2 x0_2.length k0_2) (.slice c0_3 x0_3.length k0_3) (.slice c0_4 x0_4.length k0_4) x0_2 x0_3 x0_4 (v7.drew) (slR_below tInt_law A0_2.out d.out) (slR_below tInt_law A0_3.out d.out) (slR_below tInt_law A0_4.out d.out) S0_2.out S0_3.out S0_4.out).mono ?_
    rintro e v9 ⟨cs, rfl, ow, c9⟩
    replace B0 := Lib.hid ((c9.block w.heap.size (Array.getElem?_eq_some_iff.1 B0.out).1).trans B0.out)
    replace X1 := Lib.hid ((c9.block v4.heap.size (Array.getElem?_eq_some_iff.1 X1.out).1).trans X1.out)
    replace P2_2 := Lib.hid (slO_fresh tInt_law P2_2.out c9)
    replace P2_3 := Lib.hid (slO_fresh tInt_law P2_3.out c9)
    replace P2_4 := Lib.hid (slO_fresh tInt_law P2_4.out c9)
    replace P3 := Lib.hid (slO_fresh tInt_law P3.out c9)
    replace P4_2 := Lib.hid (slO_fresh tInt_law P4_2.out c9)
    replace P4_3 := Lib.hid (slO_fresh tInt_law P4_3.out c9)
    replace P4_4 := Lib.hid (slO_fresh tInt_law P4_4.out c9)
    replace P6 := Lib.hid (slO_fresh tInt_law P6.out c9)
    replace d := Lib.hid (d.out.trans (c9.mono d.out.size))
    have Z_v9 := Lib.hid (show v7.heap.size ≤ v9.heap.size from c9.size)
    clear c9
    replace ow := tCharge_law.lt ow
    obtain ⟨y9_2, y9_3, y9_4, K9_2, K9_3, K9_4, rfl, p9_2, p9_3, p9_4, w9_2, w9_3, w9_4, d9_2_3, d9_2_4, d9_3_4⟩ := tCharge_O ow
    obtain ⟨ya9_2, yc9_2, rfl⟩ := slO_len p9_2
    have P9_2 := Lib.hid p9_2
    have Q9_2 := Lib.hid (fun b h => (show (v7.drew).heap.size ≤ b ∧ b < v9.heap.size from w9_2 b h))
    obtain ⟨ya9_3, yc9_3, rfl⟩ := slO_len p9_3
    have P9_3 := Lib.hid p9_3
    have Q9_3 := Lib.hid (fun b h => (show (v7.drew).heap.size ≤ b ∧ b < v9.heap.size from w9_3 b h))
    obtain ⟨ya9_4, yc9_4, rfl⟩ := slO_len p9_4
    have P9_4 := Lib.hid p9_4
    have Q9_4 := Lib.hid (fun b h => (show (v7.drew).heap.size ≤ b ∧ b < v9.heap.size from w9_4 b h))
    have D9_2_3 := Lib.hid d9_2_3
    clear d9_2_3
    have D9_2_4 := Lib.hid d9_2_4
    clear d9_2_4
    have D9_3_4 := Lib.hid d9_3_4
    clear d9_3_4
    clear p9_2 w9_2 p9_3 w9_3 p9_4 w9_4 ow
    have p_B0_0 := (cell_of_row v9 _ 0 _ _ _ B0.out).trans (show _ = some (Value.int .i64 a0_0) from rfl)
    have p_B0_1 := (cell_of_row v9 _ 1 _ _ _ B0.out).trans (show _ = some (Value.int .i64 a0_1) from rfl)
    have p_B0_2 := (cell_of_row v9 _ 2 _ _ _ B0.out).trans (show _ = some (Value.slice c0_2 x0_2.length k0_2) from rfl)
    have p_B0_3 := (cell_of_row v9 _ 3 _ _ _ B0.out).trans (show _ = some (Value.slice c0_3 x0_3.length k0_3) from rfl)
    have p_B0_4 := (cell_of_row v9 _ 4 _ _ _ B0.out).trans (show _ = some (Value.slice c0_4 x0_4.length k0_4) from rfl)
    have p_X1_0 := (cell_of_row v9 _ 0 _ _ _ X1.out).trans (show _ = some (Value.int .i64 a0_0) from rfl)
    have p_X1_1 := (cell_of_row v9 _ 1 _ _ _ X1.out).trans (show _ = some (Value.int .i64 a0_1) from rfl)
    have p_X1_2 := (cell_of_row v9 _ 2 _ _ _ X1.out).trans (show _ = some (Value.slice ya4_2 x0_2.length yc4_2) from rfl)
    have p_X1_3 := (cell_of_row v9 _ 3 _ _ _ X1.out).trans (show _ = some (Value.slice ya4_3 x0_3.length yc4_3) from rfl)
    have p_X1_4 := (cell_of_row v9 _ 4 _ _ _ X1.out).trans (show _ = some (Value.slice ya4_4 x0_4.length yc4_4) from rfl)
    refine hK.out _ _ ⟨p_B0_0, p_B0_1, p_B0_2, p_B0_3, p_B0_4, p_X1_0, p_X1_1, p_X1_2, p_X1_3, p_X1_4⟩ (fun hHeld => ?_)
    clear p_B0_0 p_B0_1 p_B0_2 p_B0_3 p_B0_4 p_X1_0 p_X1_1 p_X1_2 p_X1_3 p_X1_4
    clear hK K
    try simp only [Act.put, List.setIfInBounds_toArray, List.set_cons_zero, List.set_cons_succ]
    refine wpAnyH_ready (rs := [3]) (by kernel_rfl) (by simp) ?_
    refine AllReadyH.cons (o := _) (by simp only [List.getElem?_toArray, List.getElem?_cons_succ, List.getElem?_cons_zero]; rfl) (fun K hK => ?_) AllReadyH.nil
    go_simp
    refine (eqCharge_T a0_0 a0_1 (.slice ya4_2 x0_2.length yc4_2) (.slice ya4_3 x0_3.length yc4_3) (.slice ya4_4 x0_4.length yc4_4) x0_2 x0_3 x0_4 (.slice ya9_2 x0_2.length yc9_2) (.slice ya9_3 x0_3.length yc9_3) (.slice ya9_4 x0_4.length yc9_4) v9 (slO_reads tInt_law P4_2.out) (slO_reads tInt_law P4_3.out) (slO_reads tInt_law P4_4.out) (slO_reads tInt_law P9_2.out) (slO_reads tInt_law P9_3.out) (slO_reads tInt_law P9_4.out) S0_2.out S0_3.out S0_4.out).mono ?_
    rintro e v10 ⟨rfl, c10⟩
    replace B0 := Lib.hid ((c10.block w.heap.size (Array.getElem?_eq_some_iff.1 B0.out).1).trans B0.out)
    replace X1 := Lib.hid ((c10.block v4.heap.size (Array.getElem?_eq_some_iff.1 X1.out).1).trans X1.out)
    replace P2_2 := Lib.hid (slO_fresh tInt_law P2_2.out c10)
    replace P2_3 := Lib.hid (slO_fresh tInt_law P2_3.out c10)
    replace P2_4 := Lib.hid (slO_fresh tInt_law P2_4.out c10)
    replace P3 := Lib.hid (slO_fresh tInt_law P3.out c10)
    replace P4_2 := Lib.hid (slO_fresh tInt_law P4_2.out c10)
    replace P4_3 := Lib.hid (slO_fresh tInt_law P4_3.out c10)
    replace P4_4 := Lib.hid (slO_fresh tInt_law P4_4.out c10)
    replace P6 := Lib.hid (slO_fresh tInt_law P6.out c10)
    replace P9_2 := Lib.hid (slO_fresh tInt_law P9_2.out c10)
    replace P9_3 := Lib.hid (slO_fresh tInt_law P9_3.out c10)
    replace P9_4 := Lib.hid (slO_fresh tInt_law P9_4.out c10)
    replace d := Lib.hid (d.out.trans (c10.mono d.out.size))
    have Z_v10 := Lib.hid (show v9.heap.size ≤ v10.heap.size from c10.size)
    clear c10
    clear P9_2 P9_3 P9_4
    have p_B0_0 := (cell_of_row v10 _ 0 _ _ _ B0.out).trans (show _ = some (Value.int .i64 a0_0) from rfl)
    have p_B0_1 := (cell_of_row v10 _ 1 _ _ _ B0.out).trans (show _ = some (Value.int .i64 a0_1) from rfl)
    have p_B0_2 := (cell_of_row v10 _ 2 _ _ _ B0.out).trans (show _ = some (Value.slice c0_2 x0_2.length k0_2) from rfl)
    have p_B0_3 := (cell_of_row v10 _ 3 _ _ _ B0.out).trans (show _ = some (Value.slice c0_3 x0_3.length k0_3) from rfl)
    have p_B0_4 := (cell_of_row v10 _ 4 _ _ _ B0.out).trans (show _ = some (Value.slice c0_4 x0_4.length k0_4) from rfl)
    have p_X1_0 := (cell_of_row v10 _ 0 _ _ _ X1.out).trans (show _ = some (Value.int .i64 a0_0) from rfl)
    have p_X1_1 := (cell_of_row v10 _ 1 _ _ _ X1.out).trans (show _ = some (Value.int .i64 a0_1) from rfl)
    have p_X1_2 := (cell_of_row v10 _ 2 _ _ _ X1.out).trans (show _ = some (Value.slice ya4_2 x0_2.length yc4_2) from rfl)
    have p_X1_3 := (cell_of_row v10 _ 3 _ _ _ X1.out).trans (show _ = some (Value.slice ya4_3 x0_3.length yc4_3) from rfl)
    have p_X1_4 := (cell_of_row v10 _ 4 _ _ _ X1.out).trans (show _ = some (Value.slice ya4_4 x0_4.length yc4_4) from rfl)
    refine hK.out _ _ ⟨p_B0_0, p_B0_1, p_B0_2, p_B0_3, p_B0_4, p_X1_0, p_X1_1, p_X1_2, p_X1_3, p_X1_4⟩ (fun hHeld => ?_)
    clear p_B0_0 p_B0_1 p_B0_2 p_B0_3 p_B0_4 p_X1_0 p_X1_1 p_X1_2 p_X1_3 p_X1_4
    clear hK K
    try simp only [Act.put, List.setIfInBounds_toArray, List.set_cons_zero, List.set_cons_succ]
    refine take_runs (i := 4) (v := ?_) (by simp only [List.getElem?_toArray, List.getElem?_cons_succ, List.getElem?_cons_zero]; rfl) (by kernel_rfl) (by kernel_rfl) (by kernel_rfl) rfl (by exact fun _ _ _ h => h) (by rfl) ?_ (by assumption) ?_
    rotate_left
    · intro w hSw; (try dsimp only at hSw); go_simp; try (with_reducible rfl)
    try simp only [Act.put, List.setIfInBounds_toArray, List.set_cons_zero, List.set_cons_succ]
    refine wpAnyH_done (by kernel_rfl) ?_ _
    clear hHeld
    have p_X1_0 := (cell_of_row v10 _ 0 _ _ _ X1.out).trans (show _ = some (Value.int .i64 a0_0) from rfl)
    have p_X1_1 := (cell_of_row v10 _ 1 _ _ _ X1.out).trans (show _ = some (Value.int .i64 a0_1) from rfl)
    have p_X1_2 := (cell_of_row v10 _ 2 _ _ _ X1.out).trans (show _ = some (Value.slice ya4_2 x0_2.length yc4_2) from rfl)
    have p_X1_3 := (cell_of_row v10 _ 3 _ _ _ X1.out).trans (show _ = some (Value.slice ya4_3 x0_3.length yc4_3) from rfl)
    have p_X1_4 := (cell_of_row v10 _ 4 _ _ _ X1.out).trans (show _ = some (Value.slice ya4_4 x0_4.length yc4_4) from rfl)
    go_wp2_with fail
    clear p_X1_0 p_X1_1 p_X1_2 p_X1_3 p_X1_4
    refine (markCharge_T a0_0 a0_1 (.slice ya4_2 x0_2.length yc4_2) (.slice ya4_3 x0_3.length yc4_3) (.slice ya4_4 x0_4.length yc4_4) x0_2 x0_3 x0_4 (fun b => v3.heap.size ≤ b ∧ b < v4.heap.size) _ _ _ (1) v10 P4_2.out P4_3.out P4_4.out Q4_2.out Q4_3.out Q4_4.out D4_2_3.out D4_2_4.out D4_3_4.out S0_2.out S0_3.out S0_4.out M0.out.1 (by have := M0.out.2; omega)).mono ?_
    rintro e v11 ⟨rfl, ⟨m0, m1, m2⟩, c11⟩
    have y0 := Y_W.out
    have y1 := Z_v1.out
    have y2 := Z_v2.out
    have y3 := Z_v3.out
    have y4 := Z_v4.out
    have y5 := Y_X1.out
    have y6 := Z_v6.out
    have y7 := Z_v7.out
    have y8 := Z_v9.out
    have y9 := Z_v10.out
    have yd : W.heap.size ≤ v10.heap.size := d.out.size
    replace B0 := Lib.hid ((c11.block w.heap.size (Array.getElem?_eq_some_iff.1 B0.out).1 (fun h => by have r2 := h; omega)).trans B0.out)
    replace X1 := Lib.hid ((c11.block v4.heap.size (Array.getElem?_eq_some_iff.1 X1.out).1 (fun h => by have r2 := h; omega)).trans X1.out)
    replace P2_2 := Lib.hid (slO_turn tInt_law P2_2.out c11 (fun b h1 h2 => by have r1 := Q2_2.out b h1; have r2 := h2; omega))
    replace P2_3 := Lib.hid (slO_turn tInt_law P2_3.out c11 (fun b h1 h2 => by have r1 := Q2_3.out b h1; have r2 := h2; omega))
    replace P2_4 := Lib.hid (slO_turn tInt_law P2_4.out c11 (fun b h1 h2 => by have r1 := Q2_4.out b h1; have r2 := h2; omega))
    replace P3 := Lib.hid (slO_turn tInt_law P3.out c11 (fun b h1 h2 => by have r1 := Q3.out b h1; have r2 := h2; omega))
    replace P6 := Lib.hid (slO_turn tInt_law P6.out c11 (fun b h1 h2 => by have r1 := Q6.out b h1; have r2 := h2; omega))
    replace d := Lib.hid (below_turn d.out c11 (fun b h => by have r2 := h; omega) (by omega))
    clear yd y0 y1 y2 y3 y4 y5 y6 y7 y8 y9
    have Z_v11 := Lib.hid (show v10.heap.size ≤ v11.heap.size from c11.size)
    clear P4_2 P4_3 P4_4
    clear m0 m1 m2 c11
    go_wp2_with fail
    refine (eqIntS_S (.slice ya6 r0.length yc6) (.slice ya3 r0.length yc3) r0 v11 (slO_reads tInt_law P6.out) (slO_reads tInt_law P3.out) Z0.out).mono ?_
    rintro e v12 ⟨rfl, c12⟩
    replace B0 := Lib.hid ((c12.block w.heap.size (Array.getElem?_eq_some_iff.1 B0.out).1).trans B0.out)
    replace X1 := Lib.hid ((c12.block v4.heap.size (Array.getElem?_eq_some_iff.1 X1.out).1).trans X1.out)
    replace P2_2 := Lib.hid (slO_fresh tInt_law P2_2.out c12)
    replace P2_3 := Lib.hid (slO_fresh tInt_law P2_3.out c12)
    replace P2_4 := Lib.hid (slO_fresh tInt_law P2_4.out c12)
    replace P3 := Lib.hid (slO_fresh tInt_law P3.out c12)
    replace P6 := Lib.hid (slO_fresh tInt_law P6.out c12)
    replace d := Lib.hid (d.out.trans (c12.mono d.out.size))
    have Z_v12 := Lib.hid (show v11.heap.size ≤ v12.heap.size from c12.size)
    clear c12
    go_wp2_with fail
    refine (markIntS_S (.slice ya6 r0.length yc6) r0 _ (1) v12 P6.out Z0.out MR0.out.1 (by have := MR0.out.2; omega)).mono ?_
    rintro e v13 ⟨rfl, m0, c13⟩
    have y0 := Y_W.out
    have y1 := Z_v1.out
    have y2 := Z_v2.out
    have y3 := Z_v3.out
    have y4 := Z_v4.out
    have y5 := Y_X1.out
    have y6 := Z_v6.out
    have y7 := Z_v7.out
    have y8 := Z_v9.out
    have y9 := Z_v10.out
    have y10 := Z_v11.out
    have y11 := Z_v12.out
    have yd : W.heap.size ≤ v12.heap.size := d.out.size
    replace B0 := Lib.hid ((c13.block w.heap.size (Array.getElem?_eq_some_iff.1 B0.out).1 (fun h => by have r2 := Q6.out w.heap.size h; omega)).trans B0.out)
    replace X1 := Lib.hid ((c13.block v4.heap.size (Array.getElem?_eq_some_iff.1 X1.out).1 (fun h => by have r2 := Q6.out v4.heap.size h; omega)).trans X1.out)
    replace P2_2 := Lib.hid (slO_turn tInt_law P2_2.out c13 (fun b h1 h2 => by have r1 := Q2_2.out b h1; have r2 := Q6.out b h2; omega))
    replace P2_3 := Lib.hid (slO_turn tInt_law P2_3.out c13 (fun b h1 h2 => by have r1 := Q2_3.out b h1; have r2 := Q6.out b h2; omega))
    replace P2_4 := Lib.hid (slO_turn tInt_law P2_4.out c13 (fun b h1 h2 => by have r1 := Q2_4.out b h1; have r2 := Q6.out b h2; omega))
    replace P3 := Lib.hid (slO_turn tInt_law P3.out c13 (fun b h1 h2 => by have r1 := Q3.out b h1; have r2 := Q6.out b h2; omega))
    replace d := Lib.hid (below_turn d.out c13 (fun b h => by have r2 := Q6.out b h; omega) (by omega))
    clear yd y0 y1 y2 y3 y4 y5 y6 y7 y8 y9 y10 y11
    have Z_v13 := Lib.hid (show v12.heap.size ≤ v13.heap.size from c13.size)
    replace P6 := Lib.hid m0
    clear m0 c13
    go_wp2_with fail
    refine (heldIntS_S (.slice ya6 r0.length yc6) r0 (1) v13 (slO_reads tInt_law P6.out) Z0.out MR0.out.1 (by have := MR0.out.2; omega)).mono ?_
    rintro e v14 ⟨rfl, rfl⟩
    have p_B0_0 := (cell_of_row v13 _ 0 _ _ _ B0.out).trans (show _ = some (Value.int .i64 a0_0) from rfl)
    have p_B0_1 := (cell_of_row v13 _ 1 _ _ _ B0.out).trans (show _ = some (Value.int .i64 a0_1) from rfl)
    have p_B0_2 := (cell_of_row v13 _ 2 _ _ _ B0.out).trans (show _ = some (Value.slice c0_2 x0_2.length k0_2) from rfl)
    have p_B0_3 := (cell_of_row v13 _ 3 _ _ _ B0.out).trans (show _ = some (Value.slice c0_3 x0_3.length k0_3) from rfl)
    have p_B0_4 := (cell_of_row v13 _ 4 _ _ _ B0.out).trans (show _ = some (Value.slice c0_4 x0_4.length k0_4) from rfl)
    go_wp2_with fail
    clear p_B0_0 p_B0_1 p_B0_2 p_B0_3 p_B0_4
    refine (toCharge_T a0_0 a0_1 (.slice c0_2 x0_2.length k0_2) (.slice c0_3 x0_3.length k0_3) (.slice c0_4 x0_4.length k0_4) x0_2 x0_3 x0_4 v13 (slR_below tInt_law A0_2.out d.out) (slR_below tInt_law A0_3.out d.out) (slR_below tInt_law A0_4.out d.out) S0_2.out S0_3.out S0_4.out).mono ?_
    rintro e v15 ⟨cs, rfl, ow, c15⟩
    replace B0 := Lib.hid ((c15.block w.heap.size (Array.getElem?_eq_some_iff.1 B0.out).1).trans B0.out)
    replace X1 := Lib.hid ((c15.block v4.heap.size (Array.getElem?_eq_some_iff.1 X1.out).1).trans X1.out)
    replace P2_2 := Lib.hid (slO_fresh tInt_law P2_2.out c15)
    replace P2_3 := Lib.hid (slO_fresh tInt_law P2_3.out c15)
    replace P2_4 := Lib.hid (slO_fresh tInt_law P2_4.out c15)
    replace P3 := Lib.hid (slO_fresh tInt_law P3.out c15)
    replace P6 := Lib.hid (slO_fresh tInt_law P6.out c15)
    replace d := Lib.hid (d.out.trans (c15.mono d.out.size))
    have Z_v15 := Lib.hid (show v13.heap.size ≤ v15.heap.size from c15.size)
    clear c15
    replace ow := tCharge_law.lt ow
    obtain ⟨y15_2, y15_3, y15_4, K15_2, K15_3, K15_4, rfl, p15_2, p15_3, p15_4, w15_2, w15_3, w15_4, d15_2_3, d15_2_4, d15_3_4⟩ := tCharge_O ow
    obtain ⟨ya15_2, yc15_2, rfl⟩ := slO_len p15_2
    have P15_2 := Lib.hid p15_2
    have Q15_2 := Lib.hid (fun b h => (show v13.heap.size ≤ b ∧ b < v15.heap.size from w15_2 b h))
    obtain ⟨ya15_3, yc15_3, rfl⟩ := slO_len p15_3
    have P15_3 := Lib.hid p15_3
    have Q15_3 := Lib.hid (fun b h => (show v13.heap.size ≤ b ∧ b < v15.heap.size from w15_3 b h))
    obtain ⟨ya15_4, yc15_4, rfl⟩ := slO_len p15_4
    have P15_4 := Lib.hid p15_4
    have Q15_4 := Lib.hid (fun b h => (show v13.heap.size ≤ b ∧ b < v15.heap.size from w15_4 b h))
    have D15_2_3 := Lib.hid d15_2_3
    clear d15_2_3
    have D15_2_4 := Lib.hid d15_2_4
    clear d15_2_4
    have D15_3_4 := Lib.hid d15_3_4
    clear d15_3_4
    clear p15_2 w15_2 p15_3 w15_3 p15_4 w15_4 ow
    go_wp2_with fail
    refine (HIM.out (.slice ya15_2 x0_2.length yc15_2) (.slice ya15_3 x0_3.length yc15_3) (.slice ya15_4 x0_4.length yc15_4) v15 (slO_reads tInt_law P15_2.out) (slO_reads tInt_law P15_3.out) (slO_reads tInt_law P15_4.out) HT.out ).mono ?_
    rintro e v16 ⟨g0, G0, rfl, o0, q0, c16⟩
    replace B0 := Lib.hid ((c16.block w.heap.size (Array.getElem?_eq_some_iff.1 B0.out).1).trans B0.out)
    replace X1 := Lib.hid ((c16.block v4.heap.size (Array.getElem?_eq_some_iff.1 X1.out).1).trans X1.out)
    replace P2_2 := Lib.hid (slO_fresh tInt_law P2_2.out c16)
    replace P2_3 := Lib.hid (slO_fresh tInt_law P2_3.out c16)
    replace P2_4 := Lib.hid (slO_fresh tInt_law P2_4.out c16)
    replace P3 := Lib.hid (slO_fresh tInt_law P3.out c16)
    replace P6 := Lib.hid (slO_fresh tInt_law P6.out c16)
    replace P15_2 := Lib.hid (slO_fresh tInt_law P15_2.out c16)
    replace P15_3 := Lib.hid (slO_fresh tInt_law P15_3.out c16)
    replace P15_4 := Lib.hid (slO_fresh tInt_law P15_4.out c16)
    replace d := Lib.hid (d.out.trans (c16.mono d.out.size))
    have Z_v16 := Lib.hid (show v15.heap.size ≤ v16.heap.size from c16.size)
    clear c16
    obtain ⟨ya16, yc16, rfl⟩ := slO_len o0
    have P16 := Lib.hid (slO_lt tInt_law o0)
    have Q16 := Lib.hid (fun b (h : _ ∧ b < v16.heap.size) => (show v15.heap.size ≤ b ∧ b < v16.heap.size from ⟨q0 b h.1, h.2⟩))
    clear o0 q0
    go_wp2_with fail
    refine (eqIntS_S (.slice ya16 r0.length yc16) (.slice ya3 r0.length yc3) r0 v16 (slO_reads tInt_law P16.out) (slO_reads tInt_law P3.out) Z0.out).mono ?_
    rintro e v17 ⟨rfl, c17⟩
    replace B0 := Lib.hid ((c17.block w.heap.size (Array.getElem?_eq_some_iff.1 B0.out).1).trans B0.out)
    replace X1 := Lib.hid ((c17.block v4.heap.size (Array.getElem?_eq_some_iff.1 X1.out).1).trans X1.out)
    replace P2_2 := Lib.hid (slO_fresh tInt_law P2_2.out c17)
    replace P2_3 := Lib.hid (slO_fresh tInt_law P2_3.out c17)
    replace P2_4 := Lib.hid (slO_fresh tInt_law P2_4.out c17)
    replace P3 := Lib.hid (slO_fresh tInt_law P3.out c17)
    replace P6 := Lib.hid (slO_fresh tInt_law P6.out c17)
    replace P15_2 := Lib.hid (slO_fresh tInt_law P15_2.out c17)
    replace P15_3 := Lib.hid (slO_fresh tInt_law P15_3.out c17)
    replace P15_4 := Lib.hid (slO_fresh tInt_law P15_4.out c17)
    replace P16 := Lib.hid (slO_fresh tInt_law P16.out c17)
    replace d := Lib.hid (d.out.trans (c17.mono d.out.size))
    have Z_v17 := Lib.hid (show v16.heap.size ≤ v17.heap.size from c17.size)
    clear c17
    go_wp2_with fail
    refine (heldIntS_S (.slice ya6 r0.length yc6) r0 (1) v17 (slO_reads tInt_law P6.out) Z0.out MR0.out.1 (by have := MR0.out.2; omega)).mono ?_
    rintro e v18 ⟨rfl, rfl⟩
    go_wp2
    go_ret
    exact ⟨rfl, HB0.out.trans (d.out.mono HB0.out.size)⟩
  ·
    have HZ0 : Hid ((1048576 : Int) < ((zL tInt x0_2 + zL tInt x0_3 + zL tInt x0_4 : Nat) : Int)) := Lib.hid (by omega)
    have HP0 : Hid (0 ≤ (1048576 : Int)) := Lib.hid (by omega)
    have HK0 : Hid ((1048576 : Int) ≤ 1048576) := Lib.hid (by omega)
    clear c0
    go_enter Try.func3, Try.ntmps3
    go_wp2_with fail
    have Y_W : Hid (w.heap.size + 1 ≤ (w.alloc (.cells #[.int .i64 a0_0, .int .i64 a0_1, .slice c0_2 x0_2.length k0_2, .slice c0_3 x0_3.length k0_3, .slice c0_4 x0_4.length k0_4] 24)).heap.size) := Lib.hid (by simp [World.size_alloc])
    generalize (w.alloc (.cells #[.int .i64 a0_0, .int .i64 a0_1, .slice c0_2 x0_2.length k0_2, .slice c0_3 x0_3.length k0_3, .slice c0_4 x0_4.length k0_4] 24)) = W at *
    have d := Lib.hid (Below.refl W.heap.size W)
    refine (szCharge_N a0_0 a0_1 (.slice c0_2 x0_2.length k0_2) (.slice c0_3 x0_3.length k0_3) (.slice c0_4 x0_4.length k0_4) x0_2 x0_3 x0_4 ((1048576 : Int)) W (slR_below tInt_law A0_2.out d.out) (slR_below tInt_law A0_3.out d.out) (slR_below tInt_law A0_4.out d.out) HZ0.out HK0.out HP0.out O0_2.out O0_3.out O0_4.out).mono ?_
    rintro e v1 ⟨rfl, c1⟩
    replace B0 := Lib.hid ((c1.block w.heap.size (Array.getElem?_eq_some_iff.1 B0.out).1).trans B0.out)
    replace d := Lib.hid (d.out.trans (c1.mono d.out.size))
    have Z_v1 := Lib.hid (show W.heap.size ≤ v1.heap.size from c1.size)
    clear c1
    go_wp2
    go_ret
    exact ⟨rfl, HB0.out.trans (d.out.mono HB0.out.size)⟩
end Go.Proofs.Ytjapbmaibgplkaa
namespace Go.Proofs.Ytjapbmaibgplkaa
open Go.ChangeShapes Go.WideShapes Go.ChangeAt Go.WideMaps Go.WideElems Go.RowKit
set_option linter.unusedVariables false
theorem laidOutP : laidOutB Try.prog = true := by kernel_rfl
theorem recInts : Try.prog.readableRec 22 = true := by kernel_rfl
theorem rowInts : 22 < Try.prog.types.size := of_decide_eq_true (by kernel_rfl)
set_option maxRecDepth 100000 in
theorem ints_shut {H : Type} {enc : TypeId × Value → H} {W W' : World} {v : Value} {d : DataW H} {ps : List MemPlace} (h : DataW.Trod enc Try.prog W 0 (fun _ => true) true 22 v d ps) (hb : Below W.heap.size W W') (hlt : ∀ x ∈ ps, x.block < W.heap.size) :
    DataW.Trod enc Try.prog W' 0 (fun b => decide (b < W.heap.size)) true 22 v d ps := Below.trod laidOutP recInts rowInts h hb hlt
end Go.Proofs.Ytjapbmaibgplkaa
namespace Go.Proofs.Ytjapbmaibgplkaa
open Go.ChangeShapes Go.WideShapes Go.ChangeAt Go.WideMaps Go.WideElems Go.RowKit
set_option linter.unusedVariables false
/-- Cells that the statement reads as a value of the type t are a datum of the kind T. -/
def Opn {α : Type} (T : Ty α) (t : TypeId) : Prop := ∀ {H : Type} {enc : TypeId × Value → H} {W : World} {held : Bool} {fuel : Nat} {cs : List Value} {x : DataW H × List MemPlace}, DataW.trod enc Try.prog W 0 (fun _ => true) held fuel t cs = some x → ∃ d, T.R W cs d ∧ T.ok d
theorem opn_int : Opn tInt 3 := by
  intro H enc W held fuel cs x h
  obtain ⟨a, e, _, _⟩ := DataW.trod_int Try.underlying3 h
  exact ⟨a, e, trivial⟩
theorem opn_cast {α : Type} {T : Ty α} {t : TypeId} (O : Opn T t) {H : Type} {enc : TypeId × Value → H} {W : World} {held : Bool} {fuel : Nat} {cs : List Value} {o k : Nat} {x : Option (DataW H × List MemPlace)} (hx : x.isSome) (h : DataW.trod enc Try.prog W 0 (fun _ => true) held fuel t ((cs.drop o).take k) = x) :
    ∃ d, T.R W ((cs.drop o).take k) d ∧ T.ok d := by
  cases x with
  | none => cases hx
  | some y => exact O h
set_option maxRecDepth 100000 in
theorem opn_slice {α : Type} {T : Ty α} (A : T.Law) {e t : TypeId} (e' : TypeId) (O : Opn T e) (hu : Try.prog.underlying t = some (.slice e)) (hC : Try.prog.cellsOf e = T.n) : Opn (tSl e' T) t := by
  intro H enc W held fuel cs x hf
  rcases Go.Deep.open_slice hu hf with ⟨rfl, _⟩ | ⟨a', len', cap', m, n, D, Pl, rfl, _, hl, hm, hmm, _, hx⟩
  · exact ⟨[], ⟨_, rfl, Or.inl ⟨rfl, none, 0, rfl⟩⟩, by simp, fun j hj => by simp at hj⟩
  · rw [if_pos rfl] at hmm
    subst hmm
    unfold maxLen at hm
    rw [hC] at hx
    have hpos := A.pos
    haveI : Inhabited α := ⟨T.d⟩
    obtain ⟨f, hf'⟩ := Go.Deep.choose_lt (α := α × List Value) (n := len') (p := fun i q => (∀ j, j < T.n → W.cell? ((a'.add (i * T.n)).add j) = q.2[j]?) ∧ T.R W q.2 q.1 ∧ T.ok q.1) (fun i hi => by
      obtain ⟨cs', h1, h2⟩ := hx i (by omega)
      obtain ⟨_, hlen, hc⟩ := World.cells?_some h1
      obtain ⟨d, hd, ho⟩ := O h2
      exact ⟨(d, cs'), hc, hd, ho⟩)
    have hat : ∀ j, j < len' → ((List.range len').map fun i => (f i).1).getD j T.d = (f j).1 := fun j hj => by simp [List.getD, hj]
    have hlen : ((List.range len').map fun i => (f i).1).length = len' := by simp
    refine ⟨(List.range len').map fun i => (f i).1, ⟨_, rfl, ?_⟩, by rw [hlen]; omega, fun j hj => by rw [hlen] at hj; rw [hat j hj]; exact (hf' j hj).2.2⟩
    by_cases h0 : len' = 0
    · subst h0
      exact Or.inl ⟨rfl, some a', _, rfl⟩
    · have h1 := (hf' 0 (by omega)).1 0 hpos
      have hcl : 0 < (f 0).2.length := by rw [A.len (hf' 0 (by omega)).2.1]; exact hpos
      rw [List.getElem?_eq_getElem hcl] at h1
      obtain ⟨b, off, spot⟩ := a'
      have hspot : spot = none := by simpa [Addr.add] using World.cell?_spot h1
      subst hspot
      refine Or.inr ⟨b, off, _, fun i => (f i).2, by rw [hlen], by rw [hlen]; exact hl, ?_, ?_⟩
      · have := World.block_lt_of_cell? W _ h1
        simpa [Addr.add] using this
      · intro j hj
        rw [hlen] at hj
        obtain ⟨g1, g2, _⟩ := hf' j hj
        rw [hat j hj]
        refine ⟨fun i hi => ?_, g2⟩
        have := g1 i hi
        rw [Go.WideShapes.add_plain, Go.WideShapes.add_plain] at this
        exact this
theorem opn_ints (e' : TypeId) : Opn (tSl e' tInt) 22 := opn_slice tInt_law e' opn_int Try.underlying22 (by kernel_rfl)
set_option maxRecDepth 100000 in
/-- A slice as an argument. -/
theorem slA_open {α : Type} {T : Ty α} {e e' t : TypeId} (O : Opn (tSl e' T) t) (hu : Try.prog.underlying t = some (.slice e)) {H : Type} {enc : TypeId × Value → H} {W : World} {r : Reach} {b0 : Nat} {v : Value} {d : DataW H} {p : List MemPlace}
    (hval : Value.okWide Try.prog W r b0 t v) (h : DataW.Trod enc Try.prog W 0 (fun _ => true) true t v d p) : ∃ xs, SlR T W v xs ∧ (tSl e' T).ok xs := by
  obtain ⟨a, len, cap, rfl⟩ := okWide_slice hu hval
  obtain ⟨fuel, hf⟩ := h
  obtain ⟨xs, ⟨v, e, h⟩, ho⟩ := O hf
  simp [Value.cells] at e
  subst e
  exact ⟨xs, h, ho⟩
set_option maxRecDepth 100000 in
/-- A struct as an argument. -/
theorem stA_open {α : Type} {T : Ty α} {t : TypeId} {fs : Array Field} (O : Opn T t) (hu : Try.prog.underlying t = some (.struct fs)) {H : Type} {enc : TypeId × Value → H} {W : World} {r : Reach} {b0 : Nat} {v : Value} {d : DataW H} {p : List MemPlace}
    (hval : Value.okWide Try.prog W r b0 t v) (h : DataW.Trod enc Try.prog W 0 (fun _ => true) true t v d p) : ∃ cs x, v = .agg cs.toArray ∧ T.R W cs x ∧ T.ok x := by
  obtain ⟨⟨cs⟩, rfl, hsz⟩ := okWide_struct hu hval
  obtain ⟨fuel, hf⟩ := h
  obtain ⟨x, h, ho⟩ := O hf
  exact ⟨cs, x, rfl, h, ho⟩
end Go.Proofs.Ytjapbmaibgplkaa
namespace Go.Proofs.Ytjapbmaibgplkaa
open Go.ChangeShapes Go.WideShapes Go.ChangeAt Go.WideMaps Go.WideElems Go.RowKit
set_option linter.unusedVariables false
theorem recT_Charge : Try.prog.readableRec 24 = true := by kernel_rfl
theorem rowT_Charge : 24 < Try.prog.types.size := of_decide_eq_true (by kernel_rfl)
set_option maxRecDepth 100000 in
theorem opn_Charge : Opn tCharge 24 := by
  intro H enc W held fuel cs x h
  obtain ⟨xs, n, _, _, hl, hlen, hf⟩ := DataW.trod_struct Try.underlying24 h
  have hl2 : cs.length = 5 := hl.trans (by kernel_rfl)
  have hn : xs.length = 5 := hlen
  have f0 : DataW.trod enc Try.prog W 0 (fun _ => true) held n 3 ((cs.drop 0).take (Try.prog.cellsOf 3)) = xs[0]? := hf 0 _ rfl
  rw [show Try.prog.cellsOf 3 = 1 from by kernel_rfl] at f0
  obtain ⟨d0, r0, o0⟩ := opn_cast (opn_int) (by rw [List.getElem?_eq_getElem (by omega)]; rfl) f0
  have f1 : DataW.trod enc Try.prog W 0 (fun _ => true) held n 3 ((cs.drop 1).take (Try.prog.cellsOf 3)) = xs[1]? := hf 1 _ rfl
  rw [show Try.prog.cellsOf 3 = 1 from by kernel_rfl] at f1
  obtain ⟨d1, r1, o1⟩ := opn_cast (opn_int) (by rw [List.getElem?_eq_getElem (by omega)]; rfl) f1
  have f2 : DataW.trod enc Try.prog W 0 (fun _ => true) held n 22 ((cs.drop 2).take (Try.prog.cellsOf 22)) = xs[2]? := hf 2 _ rfl
  rw [show Try.prog.cellsOf 22 = 1 from by kernel_rfl] at f2
  obtain ⟨d2, r2, o2⟩ := opn_cast (opn_ints 3) (by rw [List.getElem?_eq_getElem (by omega)]; rfl) f2
  have f3 : DataW.trod enc Try.prog W 0 (fun _ => true) held n 22 ((cs.drop 3).take (Try.prog.cellsOf 22)) = xs[3]? := hf 3 _ rfl
  rw [show Try.prog.cellsOf 22 = 1 from by kernel_rfl] at f3
  obtain ⟨d3, r3, o3⟩ := opn_cast (opn_ints 3) (by rw [List.getElem?_eq_getElem (by omega)]; rfl) f3
  have f4 : DataW.trod enc Try.prog W 0 (fun _ => true) held n 22 ((cs.drop 4).take (Try.prog.cellsOf 22)) = xs[4]? := hf 4 _ rfl
  rw [show Try.prog.cellsOf 22 = 1 from by kernel_rfl] at f4
  obtain ⟨d4, r4, o4⟩ := opn_cast (opn_ints 3) (by rw [List.getElem?_eq_getElem (by omega)]; rfl) f4
  exact ⟨(d0, d1, d2, d3, d4), ⟨(cs.drop 0).take 1, cs.drop 1, (List.take_append_drop 1 cs).symm, r0, ⟨(cs.drop 1).take 1, cs.drop 2, (List.take_append_drop 1 (cs.drop 1)).symm.trans (by simp), r1, ⟨(cs.drop 2).take 1, cs.drop 3, (List.take_append_drop 1 (cs.drop 2)).symm.trans (by simp), r2, ⟨(cs.drop 3).take 1, cs.drop 4, (List.take_append_drop 1 (cs.drop 3)).symm.trans (by simp), r3, (by have e := List.take_of_length_le (l := cs.drop 4) (i := 1) (by rw [List.length_drop]; omega); rw [e] at r4; exact r4)⟩⟩⟩⟩, ⟨o0, ⟨o1, ⟨o2, ⟨o3, o4⟩⟩⟩⟩⟩
set_option maxRecDepth 100000 in
theorem shut_Charge {H : Type} {enc : TypeId × Value → H} {W W' : World} {v : Value} {d : DataW H} {ps : List MemPlace} (h : DataW.Trod enc Try.prog W 0 (fun _ => true) true 24 v d ps) (hb : Below W.heap.size W W') (hlt : ∀ x ∈ ps, x.block < W.heap.size) :
    DataW.Trod enc Try.prog W' 0 (fun b => decide (b < W.heap.size)) true 24 v d ps := Below.trod laidOutP recT_Charge rowT_Charge h hb hlt
end Go.Proofs.Ytjapbmaibgplkaa
namespace Go.Proofs.Ytjapbmaibgplkaa
open Go.RowKit
set_option linter.unusedVariables false
set_option linter.unusedSimpArgs false
set_option maxHeartbeats 32000000 in
set_option maxRecDepth 100000 in
theorem law_fnExactWorkDone (a0_0 a0_1 : Int) (v0_2 v0_3 v0_4 : Value) (x0_2 : List Int) (x0_3 : List Int) (x0_4 : List Int) (r0 : Int) (w : World) (h0_2 : SlR tInt w v0_2 x0_2) (h0_3 : SlR tInt w v0_3 x0_3) (h0_4 : SlR tInt w v0_4 x0_4) (o0_2 : tIntS.ok x0_2) (o0_3 : tIntS.ok x0_3) (o0_4 : tIntS.ok x0_4) 
    (hspec : ∀ (v0_2 v0_3 v0_4 : Value) (w : World), SlR tInt w v0_2 x0_2 → SlR tInt w v0_3 x0_3 → SlR tInt w v0_4 x0_4 → zL tInt x0_2 + zL tInt x0_3 + zL tInt x0_4 ≤ 1048576 → Calls Try.prog 17 #[.agg #[.int .i64 a0_0, .int .i64 a0_1, v0_2, v0_3, v0_4]] w (fun e w' => e = .returned (.int .i64 r0) ∧ Below w.heap.size w w'))
    (himpl : ∀ (v0_2 v0_3 v0_4 : Value) (w : World), SlR tInt w v0_2 x0_2 → SlR tInt w v0_3 x0_3 → SlR tInt w v0_4 x0_4 → zL tInt x0_2 + zL tInt x0_3 + zL tInt x0_4 ≤ 1048576 → Calls Try.prog 18 #[.agg #[.int .i64 a0_0, .int .i64 a0_1, v0_2, v0_3, v0_4]] w (fun e w' => e = .returned (.int .i64 r0) ∧ Below w.heap.size w w')) :
    Calls Try.prog 4 #[.agg #[.int .i64 a0_0, .int .i64 a0_1, v0_2, v0_3, v0_4]] w fun e w' => e = .returned (.bool true) ∧ Below w.heap.size w w' := by
  obtain ⟨c0_2, k0_2, rfl⟩ := slR_len h0_2
  obtain ⟨c0_3, k0_3, rfl⟩ := slR_len h0_3
  obtain ⟨c0_4, k0_4, rfl⟩ := slR_len h0_4
  have HB0 : Hid (Below w.heap.size w (w.alloc (.cells #[.int .i64 a0_0, .int .i64 a0_1, .slice c0_2 x0_2.length k0_2, .slice c0_3 x0_3.length k0_3, .slice c0_4 x0_4.length k0_4] 24))) := Lib.hid ((Below.refl _ w).alloc (Nat.le_refl _) _)
  have B0 : Hid ((w.alloc (.cells #[.int .i64 a0_0, .int .i64 a0_1, .slice c0_2 x0_2.length k0_2, .slice c0_3 x0_3.length k0_3, .slice c0_4 x0_4.length k0_4] 24)).heap[w.heap.size]? = some (.cells #[.int .i64 a0_0, .int .i64 a0_1, .slice c0_2 x0_2.length k0_2, .slice c0_3 x0_3.length k0_3, .slice c0_4 x0_4.length k0_4] 24 (0, 0))) := Lib.hid (by have := heap_alloc_new w (.cells #[.int .i64 a0_0, .int .i64 a0_1, .slice c0_2 x0_2.length k0_2, .slice c0_3 x0_3.length k0_3, .slice c0_4 x0_4.length k0_4] 24); simpa only [World.size_alloc] using this)
  have A0_2 : Hid (SlR tInt (w.alloc (.cells #[.int .i64 a0_0, .int .i64 a0_1, .slice c0_2 x0_2.length k0_2, .slice c0_3 x0_3.length k0_3, .slice c0_4 x0_4.length k0_4] 24)) (.slice c0_2 x0_2.length k0_2) x0_2) := Lib.hid (slR_below tInt_law h0_2 HB0.out)
  have A0_3 : Hid (SlR tInt (w.alloc (.cells #[.int .i64 a0_0, .int .i64 a0_1, .slice c0_2 x0_2.length k0_2, .slice c0_3 x0_3.length k0_3, .slice c0_4 x0_4.length k0_4] 24)) (.slice c0_3 x0_3.length k0_3) x0_3) := Lib.hid (slR_below tInt_law h0_3 HB0.out)
  have A0_4 : Hid (SlR tInt (w.alloc (.cells #[.int .i64 a0_0, .int .i64 a0_1, .slice c0_2 x0_2.length k0_2, .slice c0_3 x0_3.length k0_3, .slice c0_4 x0_4.length k0_4] 24)) (.slice c0_4 x0_4.length k0_4) x0_4) := Lib.hid (slR_below tInt_law h0_4 HB0.out)
  have O0_2 := Lib.hid o0_2
  have O0_3 := Lib.hid o0_3
  have O0_4 := Lib.hid o0_4
  clear h0_2 o0_2 h0_3 o0_3 h0_4 o0_4
  have HSP := Lib.hid hspec
  have HIM := Lib.hid himpl
  clear hspec himpl
  by_cases c0 : ((zL tInt x0_2 + zL tInt x0_3 + zL tInt x0_4 : Nat) : Int) ≤ (1048576 : Int)
  ·
    have HZ0 : Hid (((zL tInt x0_2 + zL tInt x0_3 + zL tInt x0_4 : Nat) : Int) ≤ (1048576 : Int)) := Lib.hid c0
    have HK0 : Hid ((1048576 : Int) ≤ 1048576) := Lib.hid (by omega)
    have hn0 : ¬ (1048576 : Int) - ((zL tInt x0_2 + zL tInt x0_3 + zL tInt x0_4 : Nat) : Int) < 0 := by omega
    have HT : Hid (zL tInt x0_2 + zL tInt x0_3 + zL tInt x0_4 ≤ 1048576) := Lib.hid (by omega)
    have S0_2 : Hid (zL tInt x0_2 ≤ 1048576) := Lib.hid (by omega)
    have S0_3 : Hid (zL tInt x0_3 ≤ 1048576) := Lib.hid (by omega)
    have S0_4 : Hid (zL tInt x0_4 ≤ 1048576) := Lib.hid (by omega)
    have N0_2 := ndL_le tInt_law (by decide) x0_2
    have N0_3 := ndL_le tInt_law (by decide) x0_3
    have N0_4 := ndL_le tInt_law (by decide) x0_4
    clear N0_2 N0_3 N0_4
    have e0 : (r0 != r0) = false := by simp
    clear c0
    go_enter Try.func4, Try.ntmps4
    go_wp2_with fail
    have Y_W : Hid (w.heap.size + 1 ≤ (w.alloc (.cells #[.int .i64 a0_0, .int .i64 a0_1, .slice c0_2 x0_2.length k0_2, .slice c0_3 x0_3.length k0_3, .slice c0_4 x0_4.length k0_4] 24)).heap.size) := Lib.hid (by simp [World.size_alloc])
    generalize (w.alloc (.cells #[.int .i64 a0_0, .int .i64 a0_1, .slice c0_2 x0_2.length k0_2, .slice c0_3 x0_3.length k0_3, .slice c0_4 x0_4.length k0_4] 24)) = W at *
    have d := Lib.hid (Below.refl W.heap.size W)
    refine (szCharge_Y a0_0 a0_1 (.slice c0_2 x0_2.length k0_2) (.slice c0_3 x0_3.length k0_3) (.slice c0_4 x0_4.length k0_4) x0_2 x0_3 x0_4 ((1048576 : Int)) W (slR_below tInt_law A0_2.out d.out) (slR_below tInt_law A0_3.out d.out) (slR_below tInt_law A0_4.out d.out) HZ0.out HK0.out).mono ?_
    rintro e v1 ⟨rfl, c1⟩
    replace B0 := Lib.hid ((c1.block w.heap.size (Array.getElem?_eq_some_iff.1 B0.out).1).trans B0.out)
    replace d := Lib.hid (d.out.trans (c1.mono d.out.size))
    have Z_v1 := Lib.hid (show W.heap.size ≤ v1.heap.size from c1.size)
    clear c1
    have p_B0_0 := (cell_of_row v1 _ 0 _ _ _ B0.out).trans (show _ = some (Value.int .i64 a0_0) from rfl)
    have p_B0_1 := (cell_of_row v1 _ 1 _ _ _ B0.out).trans (show _ = some (Value.int .i64 a0_1) from rfl)
    have p_B0_2 := (cell_of_row v1 _ 2 _ _ _ B0.out).trans (show _ = some (Value.slice c0_2 x0_2.length k0_2) from rfl)
    have p_B0_3 := (cell_of_row v1 _ 3 _ _ _ B0.out).trans (show _ = some (Value.slice c0_3 x0_3.length k0_3) from rfl)
    have p_B0_4 := (cell_of_row v1 _ 4 _ _ _ B0.out).trans (show _ = some (Value.slice c0_4 x0_4.length k0_4) from rfl)
    go_wp2_with fail
    clear p_B0_0 p_B0_1 p_B0_2 p_B0_3 p_B0_4
    refine (toCharge_T a0_0 a0_1 (.slice c0_2 x0_2.length k0_2) (.slice c0_3 x0_3.length k0_3) (.slice c0_4 x0_4.length k0_4) x0_2 x0_3 x0_4 v1 (slR_below tInt_law A0_2.out d.out) (slR_below tInt_law A0_3.out d.out) (slR_below tInt_law A0_4.out d.out) S0_2.out S0_3.out S0_4.out).mono ?_
    rintro e v2 ⟨cs, rfl, ow, c2⟩
    replace B0 := Lib.hid ((c2.block w.heap.size (Array.getElem?_eq_some_iff.1 B0.out).1).trans B0.out)
    replace d := Lib.hid (d.out.trans (c2.mono d.out.size))
    have Z_v2 := Lib.hid (show v1.heap.size ≤ v2.heap.size from c2.size)
    clear c2
    replace ow := tCharge_law.lt ow
    obtain ⟨y2_2, y2_3, y2_4, K2_2, K2_3, K2_4, rfl, p2_2, p2_3, p2_4, w2_2, w2_3, w2_4, d2_2_3, d2_2_4, d2_3_4⟩ := tCharge_O ow
    obtain ⟨ya2_2, yc2_2, rfl⟩ := slO_len p2_2
    have P2_2 := Lib.hid p2_2
    have Q2_2 := Lib.hid (fun b h => (show v1.heap.size ≤ b ∧ b < v2.heap.size from w2_2 b h))
    obtain ⟨ya2_3, yc2_3, rfl⟩ := slO_len p2_3
    have P2_3 := Lib.hid p2_3
    have Q2_3 := Lib.hid (fun b h => (show v1.heap.size ≤ b ∧ b < v2.heap.size from w2_3 b h))
    obtain ⟨ya2_4, yc2_4, rfl⟩ := slO_len p2_4
    have P2_4 := Lib.hid p2_4
    have Q2_4 := Lib.hid (fun b h => (show v1.heap.size ≤ b ∧ b < v2.heap.size from w2_4 b h))
    have D2_2_3 := Lib.hid d2_2_3
    clear d2_2_3
    have D2_2_4 := Lib.hid d2_2_4
    clear d2_2_4
    have D2_3_4 := Lib.hid d2_3_4
    clear d2_3_4
    clear p2_2 w2_2 p2_3 w2_3 p2_4 w2_4 ow
    go_wp2_with fail
    refine (HSP.out (.slice ya2_2 x0_2.length yc2_2) (.slice ya2_3 x0_3.length yc2_3) (.slice ya2_4 x0_4.length yc2_4) v2 (slO_reads tInt_law P2_2.out) (slO_reads tInt_law P2_3.out) (slO_reads tInt_law P2_4.out) HT.out ).mono ?_
    rintro e v3 ⟨rfl, c3⟩
    replace B0 := Lib.hid ((c3.block w.heap.size (Array.getElem?_eq_some_iff.1 B0.out).1).trans B0.out)
    replace P2_2 := Lib.hid (slO_fresh tInt_law P2_2.out c3)
    replace P2_3 := Lib.hid (slO_fresh tInt_law P2_3.out c3)
    replace P2_4 := Lib.hid (slO_fresh tInt_law P2_4.out c3)
    replace d := Lib.hid (d.out.trans (c3.mono d.out.size))
    have Z_v3 := Lib.hid (show v2.heap.size ≤ v3.heap.size from c3.size)
    clear c3
    have p_B0_0 := (cell_of_row v3 _ 0 _ _ _ B0.out).trans (show _ = some (Value.int .i64 a0_0) from rfl)
    have p_B0_1 := (cell_of_row v3 _ 1 _ _ _ B0.out).trans (show _ = some (Value.int .i64 a0_1) from rfl)
    have p_B0_2 := (cell_of_row v3 _ 2 _ _ _ B0.out).trans (show _ = some (Value.slice c0_2 x0_2.length k0_2) from rfl)
    have p_B0_3 := (cell_of_row v3 _ 3 _ _ _ B0.out).trans (show _ = some (Value.slice c0_3 x0_3.length k0_3) from rfl)
    have p_B0_4 := (cell_of_row v3 _ 4 _ _ _ B0.out).trans (show _ = some (Value.slice c0_4 x0_4.length k0_4) from rfl)
    go_wp2_with fail
    clear p_B0_0 p_B0_1 p_B0_2 p_B0_3 p_B0_4
    refine (toCharge_T a0_0 a0_1 (.slice c0_2 x0_2.length k0_2) (.slice c0_3 x0_3.length k0_3) (.slice c0_4 x0_4.length k0_4) x0_2 x0_3 x0_4 v3 (slR_below tInt_law A0_2.out d.out) (slR_below tInt_law A0_3.out d.out) (slR_below tInt_law A0_4.out d.out) S0_2.out S0_3.out S0_4.out).mono ?_
    rintro e v4 ⟨cs, rfl, ow, c4⟩
    replace B0 := Lib.hid ((c4.block w.heap.size (Array.getElem?_eq_some_iff.1 B0.out).1).trans B0.out)
    replace P2_2 := Lib.hid (slO_fresh tInt_law P2_2.out c4)
    replace P2_3 := Lib.hid (slO_fresh tInt_law P2_3.out c4)
    replace P2_4 := Lib.hid (slO_fresh tInt_law P2_4.out c4)
    replace d := Lib.hid (d.out.trans (c4.mono d.out.size))
    have Z_v4 := Lib.hid (show v3.heap.size ≤ v4.heap.size from c4.size)
    clear c4
    replace ow := tCharge_law.lt ow
    obtain ⟨y4_2, y4_3, y4_4, K4_2, K4_3, K4_4, rfl, p4_2, p4_3, p4_4, w4_2, w4_3, w4_4, d4_2_3, d4_2_4, d4_3_4⟩ := tCharge_O ow
    obtain ⟨ya4_2, yc4_2, rfl⟩ := slO_len p4_2
    have P4_2 := Lib.hid p4_2
    have Q4_2 := Lib.hid (fun b h => (show v3.heap.size ≤ b ∧ b < v4.heap.size from w4_2 b h))
    obtain ⟨ya4_3, yc4_3, rfl⟩ := slO_len p4_3
    have P4_3 := Lib.hid p4_3
    have Q4_3 := Lib.hid (fun b h => (show v3.heap.size ≤ b ∧ b < v4.heap.size from w4_3 b h))
    obtain ⟨ya4_4, yc4_4, rfl⟩ := slO_len p4_4
    have P4_4 := Lib.hid p4_4
    have Q4_4 := Lib.hid (fun b h => (show v3.heap.size ≤ b ∧ b < v4.heap.size from w4_4 b h))
    have D4_2_3 := Lib.hid d4_2_3
    clear d4_2_3
    have D4_2_4 := Lib.hid d4_2_4
    clear d4_2_4
    have D4_3_4 := Lib.hid d4_3_4
    clear d4_3_4
    clear p4_2 w4_2 p4_3 w4_3 p4_4 w4_4 ow
    have hal : Below v4.heap.size v4 (v4.alloc (.cells #[.int .i64 a0_0, .int .i64 a0_1, .slice ya4_2 x0_2.length yc4_2, .slice ya4_3 x0_3.length yc4_3, .slice ya4_4 x0_4.length yc4_4] 27)) := (Below.refl _ _).alloc (Nat.le_refl _) _
    have X1 := Lib.hid (heap_alloc_new v4 (.cells #[.int .i64 a0_0, .int .i64 a0_1, .slice ya4_2 x0_2.length yc4_2, .slice ya4_3 x0_3.length yc4_3, .slice ya4_4 x0_4.length yc4_4] 27))
    have Y_X1 := Lib.hid (show v4.heap.size < (v4.alloc (.cells #[.int .i64 a0_0, .int .i64 a0_1, .slice ya4_2 x0_2.length yc4_2, .slice ya4_3 x0_3.length yc4_3, .slice ya4_4 x0_4.length yc4_4] 27)).heap.size by simp [World.size_alloc])
    replace B0 := Lib.hid ((hal.block w.heap.size (Array.getElem?_eq_some_iff.1 B0.out).1).trans B0.out)
    replace P2_2 := Lib.hid (slO_fresh tInt_law P2_2.out hal)
    replace P2_3 := Lib.hid (slO_fresh tInt_law P2_3.out hal)
    replace P2_4 := Lib.hid (slO_fresh tInt_law P2_4.out hal)
    replace P4_2 := Lib.hid (slO_fresh tInt_law P4_2.out hal)
    replace P4_3 := Lib.hid (slO_fresh tInt_law P4_3.out hal)
    replace P4_4 := Lib.hid (slO_fresh tInt_law P4_4.out hal)
    replace d := Lib.hid (d.out.trans (hal.mono d.out.size))
    clear hal
    have p_X1_0 := (cell_of_row (v4.alloc (.cells #[.int .i64 a0_0, .int .i64 a0_1, .slice ya4_2 x0_2.length yc4_2, .slice ya4_3 x0_3.length yc4_3, .slice ya4_4 x0_4.length yc4_4] 27)) _ 0 _ _ _ X1.out).trans (show _ = some (Value.int .i64 a0_0) from rfl)
    have p_X1_1 := (cell_of_row (v4.alloc (.cells #[.int .i64 a0_0, .int .i64 a0_1, .slice ya4_2 x0_2.length yc4_2, .slice ya4_3 x0_3.length yc4_3, .slice ya4_4 x0_4.length yc4_4] 27)) _ 1 _ _ _ X1.out).trans (show _ = some (Value.int .i64 a0_1) from rfl)
    have p_X1_2 := (cell_of_row (v4.alloc (.cells #[.int .i64 a0_0, .int .i64 a0_1, .slice ya4_2 x0_2.length yc4_2, .slice ya4_3 x0_3.length yc4_3, .slice ya4_4 x0_4.length yc4_4] 27)) _ 2 _ _ _ X1.out).trans (show _ = some (Value.slice ya4_2 x0_2.length yc4_2) from rfl)
    have p_X1_3 := (cell_of_row (v4.alloc (.cells #[.int .i64 a0_0, .int .i64 a0_1, .slice ya4_2 x0_2.length yc4_2, .slice ya4_3 x0_3.length yc4_3, .slice ya4_4 x0_4.length yc4_4] 27)) _ 3 _ _ _ X1.out).trans (show _ = some (Value.slice ya4_3 x0_3.length yc4_3) from rfl)
    have p_X1_4 := (cell_of_row (v4.alloc (.cells #[.int .i64 a0_0, .int .i64 a0_1, .slice ya4_2 x0_2.length yc4_2, .slice ya4_3 x0_3.length yc4_3, .slice ya4_4 x0_4.length yc4_4] 27)) _ 4 _ _ _ X1.out).trans (show _ = some (Value.slice ya4_4 x0_4.length yc4_4) from rfl)
    go_wp2_with fail
    clear p_X1_0 p_X1_1 p_X1_2 p_X1_3 p_X1_4
    generalize (v4.alloc (.cells #[.int .i64 a0_0, .int .i64 a0_1, .slice ya4_2 x0_2.length yc4_2, .slice ya4_3 x0_3.length yc4_3, .slice ya4_4 x0_4.length yc4_4] 27)) = u5 at *
    refine (HIM.out (.slice ya4_2 x0_2.length yc4_2) (.slice ya4_3 x0_3.length yc4_3) (.slice ya4_4 x0_4.length yc4_4) u5 (slO_reads tInt_law P4_2.out) (slO_reads tInt_law P4_3.out) (slO_reads tInt_law P4_4.out) HT.out ).mono ?_
    rintro e v6 ⟨rfl, c6⟩
    replace B0 := Lib.hid ((c6.block w.heap.size (Array.getElem?_eq_some_iff.1 B0.out).1).trans B0.out)
    replace X1 := Lib.hid ((c6.block v4.heap.size (Array.getElem?_eq_some_iff.1 X1.out).1).trans X1.out)
    replace P2_2 := Lib.hid (slO_fresh tInt_law P2_2.out c6)
    replace P2_3 := Lib.hid (slO_fresh tInt_law P2_3.out c6)
    replace P2_4 := Lib.hid (slO_fresh tInt_law P2_4.out c6)
    replace P4_2 := Lib.hid (slO_fresh tInt_law P4_2.out c6)
    replace P4_3 := Lib.hid (slO_fresh tInt_law P4_3.out c6)
    replace P4_4 := Lib.hid (slO_fresh tInt_law P4_4.out c6)
    replace d := Lib.hid (d.out.trans (c6.mono d.out.size))
    have Z_v6 := Lib.hid (show u5.heap.size ≤ v6.heap.size from c6.size)
    clear c6
    go_wp2
    have p_B0_0 := (cell_of_row v6 _ 0 _ _ _ B0.out).trans (show _ = some (Value.int .i64 a0_0) from rfl)
    have p_B0_1 := (cell_of_row v6 _ 1 _ _ _ B0.out).trans (show _ = some (Value.int .i64 a0_1) from rfl)
    have p_B0_2 := (cell_of_row v6 _ 2 _ _ _ B0.out).trans (show _ = some (Value.slice c0_2 x0_2.length k0_2) from rfl)
    have p_B0_3 := (cell_of_row v6 _ 3 _ _ _ B0.out).trans (show _ = some (Value.slice c0_3 x0_3.length k0_3) from rfl)
    have p_B0_4 := (cell_of_row v6 _ 4 _ _ _ B0.out).trans (show _ = some (Value.slice c0_4 x0_4.length k0_4) from rfl)
    have p_X1_0 := (cell_of_row v6 _ 0 _ _ _ X1.out).trans (show _ = some (Value.int .i64 a0_0) from rfl)
    have p_X1_1 := (cell_of_row v6 _ 1 _ _ _ X1.out).trans (show _ = some (Value.int .i64 a0_1) from rfl)
    have p_X1_2 := (cell_of_row v6 _ 2 _ _ _ X1.out).trans (show _ = some (Value.slice ya4_2 x0_2.length yc4_2) from rfl)
    have p_X1_3 := (cell_of_row v6 _ 3 _ _ _ X1.out).trans (show _ = some (Value.slice ya4_3 x0_3.length yc4_3) from rfl)
    have p_X1_4 := (cell_of_row v6 _ 4 _ _ _ X1.out).trans (show _ = some (Value.slice ya4_4 x0_4.length yc4_4) from rfl)
    refine wp_region_held_drew (S := fun w' => w'.cell? ⟨w.heap.size, 0, none⟩ = some (Value.int .i64 a0_0) ∧ w'.cell? ⟨w.heap.size, 1, none⟩ = some (Value.int .i64 a0_1) ∧ w'.cell? ⟨w.heap.size, 2, none⟩ = some (Value.slice c0_2 x0_2.length k0_2) ∧ w'.cell? ⟨w.heap.size, 3, none⟩ = some (Value.slice c0_3 x0_3.length k0_3) ∧ w'.cell? ⟨w.heap.size, 4, none⟩ = some (Value.slice c0_4 x0_4.length k0_4) ∧ w'.cell? ⟨v4.heap.size, 0, none⟩ = some (Value.int .i64 a0_0) ∧ w'.cell? ⟨v4.heap.size, 1, none⟩ = some (Value.int .i64 a0_1) ∧ w'.cell? ⟨v4.heap.size, 2, none⟩ = some (Value.slice ya4_2 x0_2.length yc4_2) ∧ w'.cell? ⟨v4.heap.size, 3, none⟩ = some (Value.slice ya4_3 x0_3.length yc4_3) ∧ w'.cell? ⟨v4.heap.size, 4, none⟩ = some (Value.slice ya4_4 x0_4.length yc4_4)) (by kernel_rfl) ⟨p_B0_0, p_B0_1, p_B0_2, p_B0_3, p_B0_4, p_X1_0, p_X1_1, p_X1_2, p_X1_3, p_X1_4⟩ (fun hHeld => ?_)
    clear p_B0_0 p_B0_1 p_B0_2 p_B0_3 p_B0_4 p_X1_0 p_X1_1 p_X1_2 p_X1_3 p_X1_4
    have cd7 : Below v6.heap.size v6 v6.drew := below_drew (Below.refl _ _)
    replace B0 := Lib.hid ((cd7.block w.heap.size (Array.getElem?_eq_some_iff.1 B0.out).1).trans B0.out)
    replace X1 := Lib.hid ((cd7.block v4.heap.size (Array.getElem?_eq_some_iff.1 X1.out).1).trans X1.out)
    replace P2_2 := Lib.hid (slO_fresh tInt_law P2_2.out cd7)
    replace P2_3 := Lib.hid (slO_fresh tInt_law P2_3.out cd7)
    replace P2_4 := Lib.hid (slO_fresh tInt_law P2_4.out cd7)
    replace P4_2 := Lib.hid (slO_fresh tInt_law P4_2.out cd7)
    replace P4_3 := Lib.hid (slO_fresh tInt_law P4_3.out cd7)
    replace P4_4 := Lib.hid (slO_fresh tInt_law P4_4.out cd7)
    replace d := Lib.hid (d.out.trans (cd7.mono d.out.size))
    clear cd7
    refine take_runs (i := 0) (v := ?_) (by simp only [List.getElem?_toArray, List.getElem?_cons_succ, List.getElem?_cons_zero]; rfl) (by kernel_rfl) (by kernel_rfl) (by kernel_rfl) rfl (by exact fun _ _ _ h => h) (by rfl) ?_ (by assumption) ?_
    rotate_left
    · intro w hSw; (try dsimp only at hSw); go_simp; try (with_reducible rfl)
    try simp only [Act.put, List.setIfInBounds_toArray, List.set_cons_zero, List.set_cons_succ]
    refine take_runs (i := 1) (v := ?_) (by simp only [List.getElem?_toArray, List.getElem?_cons_succ, List.getElem?_cons_zero]; rfl) (by kernel_rfl) (by kernel_rfl) (by kernel_rfl) rfl (by exact fun _ _ _ h => h) (by rfl) ?_ (by assumption) ?_
    rotate_left
    · intro w hSw; (try dsimp only at hSw); go_simp; try (with_reducible rfl)
    try simp only [Act.put, List.setIfInBounds_toArray, List.set_cons_zero, List.set_cons_succ]
    refine wpAnyH_ready (rs := [2]) (by kernel_rfl) (by simp) ?_
    refine AllReadyH.cons (o := _) (by simp only [List.getElem?_toArray, List.getElem?_cons_succ, List.getElem?_cons_zero]; rfl) (fun K hK => ?_) AllReadyH.nil
    go_simp
    refine (toCharge_T a0_0 a0_1 (.slice c0_2 x0_2.length k0_2) (.slice c0_3 x0_3.length k0_3) (.slice c0_4 x0_4.length k0_4) x0_2 x0_3 x0_4 (v6.drew) (slR_below tInt_law A0_2.out d.out) (slR_below tInt_law A0_3.out d.out) (slR_below tInt_law A0_4.out d.out) S0_2.out S0_3.out S0_4.out).mono ?_
    rintro e v8 ⟨cs, rfl, ow, c8⟩
    replace B0 := Lib.hid ((c8.block w.heap.size (Array.getElem?_eq_some_iff.1 B0.out).1).trans B0.out)
    replace X1 := Lib.hid ((c8.block v4.heap.size (Array.getElem?_eq_some_iff.1 X1.out).1).trans X1.out)
    replace P2_2 := Lib.hid (slO_fresh tInt_law P2_2.out c8)
    replace P2_3 := Lib.hid (slO_fresh tInt_law P2_3.out c8)
    replace P2_4 := Lib.hid (slO_fresh tInt_law P2_4.out c8)
    replace P4_2 := Lib.hid (slO_fresh tInt_law P4_2.out c8)
    replace P4_3 := Lib.hid (slO_fresh tInt_law P4_3.out c8)
    replace P4_4 := Lib.hid (slO_fresh tInt_law P4_4.out c8)
    replace d := Lib.hid (d.out.trans (c8.mono d.out.size))
    have Z_v8 := Lib.hid (show v6.heap.size ≤ v8.heap.size from c8.size)
    clear c8
    replace ow := tCharge_law.lt ow
    obtain ⟨y8_2, y8_3, y8_4, K8_2, K8_3, K8_4, rfl, p8_2, p8_3, p8_4, w8_2, w8_3, w8_4, d8_2_3, d8_2_4, d8_3_4⟩ := tCharge_O ow
    obtain ⟨ya8_2, yc8_2, rfl⟩ := slO_len p8_2
    have P8_2 := Lib.hid p8_2
    have Q8_2 := Lib.hid (fun b h => (show (v6.drew).heap.size ≤ b ∧ b < v8.heap.size from w8_2 b h))
    obtain ⟨ya8_3, yc8_3, rfl⟩ := slO_len p8_3
    have P8_3 := Lib.hid p8_3
    have Q8_3 := Lib.hid (fun b h => (show (v6.drew).heap.size ≤ b ∧ b < v8.heap.size from w8_3 b h))
    obtain ⟨ya8_4, yc8_4, rfl⟩ := slO_len p8_4
    have P8_4 := Lib.hid p8_4
    have Q8_4 := Lib.hid (fun b h => (show (v6.drew).heap.size ≤ b ∧ b < v8.heap.size from w8_4 b h))
    have D8_2_3 := Lib.hid d8_2_3
    clear d8_2_3
    have D8_2_4 := Lib.hid d8_2_4
    clear d8_2_4
    have D8_3_4 := Lib.hid d8_3_4
    clear d8_3_4
    clear p8_2 w8_2 p8_3 w8_3 p8_4 w8_4 ow
    have p_B0_0 := (cell_of_row v8 _ 0 _ _ _ B0.out).trans (show _ = some (Value.int .i64 a0_0) from rfl)
    have p_B0_1 := (cell_of_row v8 _ 1 _ _ _ B0.out).trans (show _ = some (Value.int .i64 a0_1) from rfl)
    have p_B0_2 := (cell_of_row v8 _ 2 _ _ _ B0.out).trans (show _ = some (Value.slice c0_2 x0_2.length k0_2) from rfl)
    have p_B0_3 := (cell_of_row v8 _ 3 _ _ _ B0.out).trans (show _ = some (Value.slice c0_3 x0_3.length k0_3) from rfl)
    have p_B0_4 := (cell_of_row v8 _ 4 _ _ _ B0.out).trans (show _ = some (Value.slice c0_4 x0_4.length k0_4) from rfl)
    have p_X1_0 := (cell_of_row v8 _ 0 _ _ _ X1.out).trans (show _ = some (Value.int .i64 a0_0) from rfl)
    have p_X1_1 := (cell_of_row v8 _ 1 _ _ _ X1.out).trans (show _ = some (Value.int .i64 a0_1) from rfl)
    have p_X1_2 := (cell_of_row v8 _ 2 _ _ _ X1.out).trans (show _ = some (Value.slice ya4_2 x0_2.length yc4_2) from rfl)
    have p_X1_3 := (cell_of_row v8 _ 3 _ _ _ X1.out).trans (show _ = some (Value.slice ya4_3 x0_3.length yc4_3) from rfl)
    have p_X1_4 := (cell_of_row v8 _ 4 _ _ _ X1.out).trans (show _ = some (Value.slice ya4_4 x0_4.length yc4_4) from rfl)
    refine hK.out _ _ ⟨p_B0_0, p_B0_1, p_B0_2, p_B0_3, p_B0_4, p_X1_0, p_X1_1, p_X1_2, p_X1_3, p_X1_4⟩ (fun hHeld => ?_)
    clear p_B0_0 p_B0_1 p_B0_2 p_B0_3 p_B0_4 p_X1_0 p_X1_1 p_X1_2 p_X1_3 p_X1_4
    clear hK K
    try simp only [Act.put, List.setIfInBounds_toArray, List.set_cons_zero, List.set_cons_succ]
    refine wpAnyH_ready (rs := [3]) (by kernel_rfl) (by simp) ?_
    refine AllReadyH.cons (o := _) (by simp only [List.getElem?_toArray, List.getElem?_cons_succ, List.getElem?_cons_zero]; rfl) (fun K hK => ?_) AllReadyH.nil
    go_simp
    refine (eqCharge_T a0_0 a0_1 (.slice ya4_2 x0_2.length yc4_2) (.slice ya4_3 x0_3.length yc4_3) (.slice ya4_4 x0_4.length yc4_4) x0_2 x0_3 x0_4 (.slice ya8_2 x0_2.length yc8_2) (.slice ya8_3 x0_3.length yc8_3) (.slice ya8_4 x0_4.length yc8_4) v8 (slO_reads tInt_law P4_2.out) (slO_reads tInt_law P4_3.out) (slO_reads tInt_law P4_4.out) (slO_reads tInt_law P8_2.out) (slO_reads tInt_law P8_3.out) (slO_reads tInt_law P8_4.out) S0_2.out S0_3.out S0_4.out).mono ?_
    rintro e v9 ⟨rfl, c9⟩
    replace B0 := Lib.hid ((c9.block w.heap.size (Array.getElem?_eq_some_iff.1 B0.out).1).trans B0.out)
    replace X1 := Lib.hid ((c9.block v4.heap.size (Array.getElem?_eq_some_iff.1 X1.out).1).trans X1.out)
    replace P2_2 := Lib.hid (slO_fresh tInt_law P2_2.out c9)
    replace P2_3 := Lib.hid (slO_fresh tInt_law P2_3.out c9)
    replace P2_4 := Lib.hid (slO_fresh tInt_law P2_4.out c9)
    replace P4_2 := Lib.hid (slO_fresh tInt_law P4_2.out c9)
    replace P4_3 := Lib.hid (slO_fresh tInt_law P4_3.out c9)
    replace P4_4 := Lib.hid (slO_fresh tInt_law P4_4.out c9)
    replace P8_2 := Lib.hid (slO_fresh tInt_law P8_2.out c9)
    replace P8_3 := Lib.hid (slO_fresh tInt_law P8_3.out c9)
    replace P8_4 := Lib.hid (slO_fresh tInt_law P8_4.out c9)
    replace d := Lib.hid (d.out.trans (c9.mono d.out.size))
    have Z_v9 := Lib.hid (show v8.heap.size ≤ v9.heap.size from c9.size)
    clear c9
    clear P8_2 P8_3 P8_4
    have p_B0_0 := (cell_of_row v9 _ 0 _ _ _ B0.out).trans (show _ = some (Value.int .i64 a0_0) from rfl)
    have p_B0_1 := (cell_of_row v9 _ 1 _ _ _ B0.out).trans (show _ = some (Value.int .i64 a0_1) from rfl)
    have p_B0_2 := (cell_of_row v9 _ 2 _ _ _ B0.out).trans (show _ = some (Value.slice c0_2 x0_2.length k0_2) from rfl)
    have p_B0_3 := (cell_of_row v9 _ 3 _ _ _ B0.out).trans (show _ = some (Value.slice c0_3 x0_3.length k0_3) from rfl)
    have p_B0_4 := (cell_of_row v9 _ 4 _ _ _ B0.out).trans (show _ = some (Value.slice c0_4 x0_4.length k0_4) from rfl)
    have p_X1_0 := (cell_of_row v9 _ 0 _ _ _ X1.out).trans (show _ = some (Value.int .i64 a0_0) from rfl)
    have p_X1_1 := (cell_of_row v9 _ 1 _ _ _ X1.out).trans (show _ = some (Value.int .i64 a0_1) from rfl)
    have p_X1_2 := (cell_of_row v9 _ 2 _ _ _ X1.out).trans (show _ = some (Value.slice ya4_2 x0_2.length yc4_2) from rfl)
    have p_X1_3 := (cell_of_row v9 _ 3 _ _ _ X1.out).trans (show _ = some (Value.slice ya4_3 x0_3.length yc4_3) from rfl)
    have p_X1_4 := (cell_of_row v9 _ 4 _ _ _ X1.out).trans (show _ = some (Value.slice ya4_4 x0_4.length yc4_4) from rfl)
    refine hK.out _ _ ⟨p_B0_0, p_B0_1, p_B0_2, p_B0_3, p_B0_4, p_X1_0, p_X1_1, p_X1_2, p_X1_3, p_X1_4⟩ (fun hHeld => ?_)
    clear p_B0_0 p_B0_1 p_B0_2 p_B0_3 p_B0_4 p_X1_0 p_X1_1 p_X1_2 p_X1_3 p_X1_4
    clear hK K
    try simp only [Act.put, List.setIfInBounds_toArray, List.set_cons_zero, List.set_cons_succ]
    refine take_runs (i := 4) (v := ?_) (by simp only [List.getElem?_toArray, List.getElem?_cons_succ, List.getElem?_cons_zero]; rfl) (by kernel_rfl) (by kernel_rfl) (by kernel_rfl) rfl (by exact fun _ _ _ h => h) (by rfl) ?_ (by assumption) ?_
    rotate_left
    · intro w hSw; (try dsimp only at hSw); go_simp; try (with_reducible rfl)
    try simp only [Act.put, List.setIfInBounds_toArray, List.set_cons_zero, List.set_cons_succ]
    refine wpAnyH_done (by kernel_rfl) ?_ _
    clear hHeld
    go_wp2
    go_ret
    exact ⟨rfl, HB0.out.trans (d.out.mono HB0.out.size)⟩
  ·
    have HZ0 : Hid ((1048576 : Int) < ((zL tInt x0_2 + zL tInt x0_3 + zL tInt x0_4 : Nat) : Int)) := Lib.hid (by omega)
    have HP0 : Hid (0 ≤ (1048576 : Int)) := Lib.hid (by omega)
    have HK0 : Hid ((1048576 : Int) ≤ 1048576) := Lib.hid (by omega)
    clear c0
    go_enter Try.func4, Try.ntmps4
    go_wp2_with fail
    have Y_W : Hid (w.heap.size + 1 ≤ (w.alloc (.cells #[.int .i64 a0_0, .int .i64 a0_1, .slice c0_2 x0_2.length k0_2, .slice c0_3 x0_3.length k0_3, .slice c0_4 x0_4.length k0_4] 24)).heap.size) := Lib.hid (by simp [World.size_alloc])
    generalize (w.alloc (.cells #[.int .i64 a0_0, .int .i64 a0_1, .slice c0_2 x0_2.length k0_2, .slice c0_3 x0_3.length k0_3, .slice c0_4 x0_4.length k0_4] 24)) = W at *
    have d := Lib.hid (Below.refl W.heap.size W)
    refine (szCharge_N a0_0 a0_1 (.slice c0_2 x0_2.length k0_2) (.slice c0_3 x0_3.length k0_3) (.slice c0_4 x0_4.length k0_4) x0_2 x0_3 x0_4 ((1048576 : Int)) W (slR_below tInt_law A0_2.out d.out) (slR_below tInt_law A0_3.out d.out) (slR_below tInt_law A0_4.out d.out) HZ0.out HK0.out HP0.out O0_2.out O0_3.out O0_4.out).mono ?_
    rintro e v1 ⟨rfl, c1⟩
    replace B0 := Lib.hid ((c1.block w.heap.size (Array.getElem?_eq_some_iff.1 B0.out).1).trans B0.out)
    replace d := Lib.hid (d.out.trans (c1.mono d.out.size))
    have Z_v1 := Lib.hid (show W.heap.size ≤ v1.heap.size from c1.size)
    clear c1
    go_wp2
    go_ret
    exact ⟨rfl, HB0.out.trans (d.out.mono HB0.out.size)⟩
end Go.Proofs.Ytjapbmaibgplkaa
namespace Go.Proofs.Ytjapbmaibgplkaa
open Go.RowKit
set_option linter.unusedVariables false
set_option linter.unusedSimpArgs false
set_option maxHeartbeats 32000000 in
set_option maxRecDepth 100000 in
theorem law_fnExactTotalWork (v0_0 : Value) (x0_0 : List (Int × Int × List Int × List Int × List Int)) (r0 : Int) (w : World) (h0_0 : SlR tCharge w v0_0 x0_0) (o0_0 : tChargeS.ok x0_0) 
    (hspec : ∀ (v0_0 : Value) (w : World), SlR tCharge w v0_0 x0_0 → zL tCharge x0_0 ≤ 1048576 → Calls Try.prog 27 #[v0_0] w (fun e w' => e = .returned (.int .i64 r0) ∧ Below w.heap.size w w'))
    (himpl : ∀ (v0_0 : Value) (w : World), SlR tCharge w v0_0 x0_0 → zL tCharge x0_0 ≤ 1048576 → Calls Try.prog 28 #[v0_0] w (fun e w' => e = .returned (.int .i64 r0) ∧ Below w.heap.size w w')) :
    Calls Try.prog 7 #[v0_0] w fun e w' => e = .returned (.bool true) ∧ Below w.heap.size w w' := by
  obtain ⟨c0_0, k0_0, rfl⟩ := slR_len h0_0
  have A0_0 := Lib.hid h0_0
  have O0_0 := Lib.hid o0_0
  clear h0_0 o0_0
  have HSP := Lib.hid hspec
  have HIM := Lib.hid himpl
  clear hspec himpl
  by_cases c0 : ((zL tCharge x0_0 : Nat) : Int) ≤ (1048576 : Int)
  ·
    have HZ0 : Hid (((zL tCharge x0_0 : Nat) : Int) ≤ (1048576 : Int)) := Lib.hid c0
    have HK0 : Hid ((1048576 : Int) ≤ 1048576) := Lib.hid (by omega)
    have hn0 : ¬ (1048576 : Int) - ((zL tCharge x0_0 : Nat) : Int) < 0 := by omega
    have HT : Hid (zL tCharge x0_0 ≤ 1048576) := Lib.hid (by omega)
    have S0_0 : Hid (zL tCharge x0_0 ≤ 1048576) := Lib.hid (by omega)
    have N0_0 := ndL_le tCharge_law (by decide) x0_0
    clear N0_0
    have e0 : (r0 != r0) = false := by simp
    clear c0
    go_enter Try.func7, Try.ntmps7
    go_wp2_with fail
    have d := Lib.hid (Below.refl w.heap.size w)
    refine (szChargeS_Y (.slice c0_0 x0_0.length k0_0) x0_0 ((1048576 : Int)) w (slR_below tCharge_law A0_0.out d.out) HZ0.out HK0.out).mono ?_
    rintro e v1 ⟨rfl, c1⟩
    replace d := Lib.hid (d.out.trans (c1.mono d.out.size))
    have Z_v1 := Lib.hid (show w.heap.size ≤ v1.heap.size from c1.size)
    clear c1
    go_wp2_with fail
    refine (toChargeS_S (.slice c0_0 x0_0.length k0_0) x0_0 v1 (slR_below tCharge_law A0_0.out d.out) S0_0.out).mono ?_
    rintro e v2 ⟨y, rfl, o, c2⟩
    replace d := Lib.hid (d.out.trans (c2.mono d.out.size))
    have Z_v2 := Lib.hid (show v1.heap.size ≤ v2.heap.size from c2.size)
    clear c2
    obtain ⟨ya2, yc2, rfl⟩ := slO_len o
    have P2 := Lib.hid (slO_lt tCharge_law o)
    have Q2 := Lib.hid (fun b (h : since v1 b ∧ b < v2.heap.size) => (show v1.heap.size ≤ b ∧ b < v2.heap.size from h))
    clear o
    go_wp2_with fail
    refine (HSP.out (.slice ya2 x0_0.length yc2) v2 (slO_reads tCharge_law P2.out) HT.out ).mono ?_
    rintro e v3 ⟨rfl, c3⟩
    replace P2 := Lib.hid (slO_fresh tCharge_law P2.out c3)
    replace d := Lib.hid (d.out.trans (c3.mono d.out.size))
    have Z_v3 := Lib.hid (show v2.heap.size ≤ v3.heap.size from c3.size)
    clear c3
    go_wp2_with fail
    refine (toChargeS_S (.slice c0_0 x0_0.length k0_0) x0_0 v3 (slR_below tCharge_law A0_0.out d.out) S0_0.out).mono ?_
    rintro e v4 ⟨y, rfl, o, c4⟩
    replace P2 := Lib.hid (slO_fresh tCharge_law P2.out c4)
    replace d := Lib.hid (d.out.trans (c4.mono d.out.size))
    have Z_v4 := Lib.hid (show v3.heap.size ≤ v4.heap.size from c4.size)
    clear c4
    obtain ⟨ya4, yc4, rfl⟩ := slO_len o
    have P4 := Lib.hid (slO_lt tCharge_law o)
    have Q4 := Lib.hid (fun b (h : since v3 b ∧ b < v4.heap.size) => (show v3.heap.size ≤ b ∧ b < v4.heap.size from h))
    clear o
    go_wp2_with fail
    refine (HIM.out (.slice ya4 x0_0.length yc4) v4 (slO_reads tCharge_law P4.out) HT.out ).mono ?_
    rintro e v5 ⟨rfl, c5⟩
    replace P2 := Lib.hid (slO_fresh tCharge_law P2.out c5)
    replace P4 := Lib.hid (slO_fresh tCharge_law P4.out c5)
    replace d := Lib.hid (d.out.trans (c5.mono d.out.size))
    have Z_v5 := Lib.hid (show v4.heap.size ≤ v5.heap.size from c5.size)
    clear c5
    go_wp2_with fail
    refine (toChargeS_S (.slice c0_0 x0_0.length k0_0) x0_0 v5 (slR_below tCharge_law A0_0.out d.out) S0_0.out).mono ?_
    rintro e v6 ⟨y, rfl, o, c6⟩
    replace P2 := Lib.hid (slO_fresh tCharge_law P2.out c6)
    replace P4 := Lib.hid (slO_fresh tCharge_law P4.out c6)
    replace d := Lib.hid (d.out.trans (c6.mono d.out.size))
    have Z_v6 := Lib.hid (show v5.heap.size ≤ v6.heap.size from c6.size)
    clear c6
    obtain ⟨ya6, yc6, rfl⟩ := slO_len o
    have P6 := Lib.hid (slO_lt tCharge_law o)
    have Q6 := Lib.hid (fun b (h : since v5 b ∧ b < v6.heap.size) => (show v5.heap.size ≤ b ∧ b < v6.heap.size from h))
    clear o
    go_wp2_with fail
    refine (eqChargeS_S (.slice ya4 x0_0.length yc4) (.slice ya6 x0_0.length yc6) x0_0 v6 (slO_reads tCharge_law P4.out) (slO_reads tCharge_law P6.out) S0_0.out).mono ?_
    rintro e v7 ⟨rfl, c7⟩
    replace P2 := Lib.hid (slO_fresh tCharge_law P2.out c7)
    replace P4 := Lib.hid (slO_fresh tCharge_law P4.out c7)
    replace P6 := Lib.hid (slO_fresh tCharge_law P6.out c7)
    replace d := Lib.hid (d.out.trans (c7.mono d.out.size))
    have Z_v7 := Lib.hid (show v6.heap.size ≤ v7.heap.size from c7.size)
    clear c7
    clear P6
    go_wp2
    go_ret
    exact ⟨rfl, d.out⟩
  ·
    have HZ0 : Hid ((1048576 : Int) < ((zL tCharge x0_0 : Nat) : Int)) := Lib.hid (by omega)
    have HP0 : Hid (0 ≤ (1048576 : Int)) := Lib.hid (by omega)
    have HK0 : Hid ((1048576 : Int) ≤ 1048576) := Lib.hid (by omega)
    clear c0
    go_enter Try.func7, Try.ntmps7
    go_wp2_with fail
    have d := Lib.hid (Below.refl w.heap.size w)
    refine (szChargeS_N (.slice c0_0 x0_0.length k0_0) x0_0 ((1048576 : Int)) w (slR_below tCharge_law A0_0.out d.out) HZ0.out HK0.out HP0.out O0_0.out).mono ?_
    rintro e v1 ⟨rfl, c1⟩
    replace d := Lib.hid (d.out.trans (c1.mono d.out.size))
    have Z_v1 := Lib.hid (show w.heap.size ≤ v1.heap.size from c1.size)
    clear c1
    go_wp2
    go_ret
    exact ⟨rfl, d.out⟩
end Go.Proofs.Ytjapbmaibgplkaa
namespace Go.Proofs.Ytjapbmaibgplkaa
open Go.ChangeShapes Go.WideShapes Go.ChangeAt Go.WideMaps Go.WideElems Go.RowKit
set_option linter.unusedVariables false
theorem recT_ChargeS : Try.prog.readableRec 35 = true := by kernel_rfl
theorem rowT_ChargeS : 35 < Try.prog.types.size := of_decide_eq_true (by kernel_rfl)
theorem opn_ChargeS : Opn tChargeS 35 := opn_slice tCharge_law _ opn_Charge Try.underlying35 (by kernel_rfl)
set_option maxRecDepth 100000 in
theorem shut_ChargeS {H : Type} {enc : TypeId × Value → H} {W W' : World} {v : Value} {d : DataW H} {ps : List MemPlace} (h : DataW.Trod enc Try.prog W 0 (fun _ => true) true 35 v d ps) (hb : Below W.heap.size W W') (hlt : ∀ x ∈ ps, x.block < W.heap.size) :
    DataW.Trod enc Try.prog W' 0 (fun b => decide (b < W.heap.size)) true 35 v d ps := Below.trod laidOutP recT_ChargeS rowT_ChargeS h hb hlt
end Go.Proofs.Ytjapbmaibgplkaa
namespace Go.Proofs.Ytjapbmaibgplkaa
open Go.RowKit
set_option linter.unusedVariables false
set_option linter.unusedSimpArgs false
set_option maxHeartbeats 32000000 in
set_option maxRecDepth 100000 in
theorem law_fnExactTenantCharge (v0_0 : Value) (x0_0 : List (Int × Int × List Int × List Int × List Int)) (n1 : Int) (w1 : (Lit.int .i64 n1).wf = true) (r0 : Int) (w : World) (h0_0 : SlR tCharge w v0_0 x0_0) (o0_0 : tChargeS.ok x0_0) 
    (hspec : ∀ (v0_0 : Value) (w : World), SlR tCharge w v0_0 x0_0 → zL tCharge x0_0 ≤ 1048576 → Calls Try.prog 20 #[v0_0, .int .i64 n1] w (fun e w' => e = .returned (.int .i64 r0) ∧ Below w.heap.size w w'))
    (himpl : ∀ (v0_0 : Value) (w : World), SlR tCharge w v0_0 x0_0 → zL tCharge x0_0 ≤ 1048576 → Calls Try.prog 22 #[v0_0, .int .i64 n1] w (fun e w' => e = .returned (.int .i64 r0) ∧ Below w.heap.size w w')) :
    Calls Try.prog 5 #[v0_0, .int .i64 n1] w fun e w' => e = .returned (.bool true) ∧ Below w.heap.size w w' := by
  obtain ⟨c0_0, k0_0, rfl⟩ := slR_len h0_0
  have A0_0 := Lib.hid h0_0
  have O0_0 := Lib.hid o0_0
  clear h0_0 o0_0
  have HSP := Lib.hid hspec
  have HIM := Lib.hid himpl
  clear hspec himpl
  by_cases c0 : ((zL tCharge x0_0 : Nat) : Int) ≤ (1048576 : Int)
  ·
    have HZ0 : Hid (((zL tCharge x0_0 : Nat) : Int) ≤ (1048576 : Int)) := Lib.hid c0
    have HK0 : Hid ((1048576 : Int) ≤ 1048576) := Lib.hid (by omega)
    have hn0 : ¬ (1048576 : Int) - ((zL tCharge x0_0 : Nat) : Int) < 0 := by omega
    have HT : Hid (zL tCharge x0_0 ≤ 1048576) := Lib.hid (by omega)
    have S0_0 : Hid (zL tCharge x0_0 ≤ 1048576) := Lib.hid (by omega)
    have N0_0 := ndL_le tCharge_law (by decide) x0_0
    clear N0_0
    have e0 : (r0 != r0) = false := by simp
    clear c0
    go_enter Try.func5, Try.ntmps5
    go_wp2_with fail
    have d := Lib.hid (Below.refl w.heap.size w)
    refine (szChargeS_Y (.slice c0_0 x0_0.length k0_0) x0_0 ((1048576 : Int)) w (slR_below tCharge_law A0_0.out d.out) HZ0.out HK0.out).mono ?_
    rintro e v1 ⟨rfl, c1⟩
    replace d := Lib.hid (d.out.trans (c1.mono d.out.size))
    have Z_v1 := Lib.hid (show w.heap.size ≤ v1.heap.size from c1.size)
    clear c1
    go_wp2_with fail
    refine (toChargeS_S (.slice c0_0 x0_0.length k0_0) x0_0 v1 (slR_below tCharge_law A0_0.out d.out) S0_0.out).mono ?_
    rintro e v2 ⟨y, rfl, o, c2⟩
    replace d := Lib.hid (d.out.trans (c2.mono d.out.size))
    have Z_v2 := Lib.hid (show v1.heap.size ≤ v2.heap.size from c2.size)
    clear c2
    obtain ⟨ya2, yc2, rfl⟩ := slO_len o
    have P2 := Lib.hid (slO_lt tCharge_law o)
    have Q2 := Lib.hid (fun b (h : since v1 b ∧ b < v2.heap.size) => (show v1.heap.size ≤ b ∧ b < v2.heap.size from h))
    clear o
    go_wp2_with fail
    refine (HSP.out (.slice ya2 x0_0.length yc2) v2 (slO_reads tCharge_law P2.out) HT.out ).mono ?_
    rintro e v3 ⟨rfl, c3⟩
    replace P2 := Lib.hid (slO_fresh tCharge_law P2.out c3)
    replace d := Lib.hid (d.out.trans (c3.mono d.out.size))
    have Z_v3 := Lib.hid (show v2.heap.size ≤ v3.heap.size from c3.size)
    clear c3
    go_wp2_with fail
    refine (toChargeS_S (.slice c0_0 x0_0.length k0_0) x0_0 v3 (slR_below tCharge_law A0_0.out d.out) S0_0.out).mono ?_
    rintro e v4 ⟨y, rfl, o, c4⟩
    replace P2 := Lib.hid (slO_fresh tCharge_law P2.out c4)
    replace d := Lib.hid (d.out.trans (c4.mono d.out.size))
    have Z_v4 := Lib.hid (show v3.heap.size ≤ v4.heap.size from c4.size)
    clear c4
    obtain ⟨ya4, yc4, rfl⟩ := slO_len o
    have P4 := Lib.hid (slO_lt tCharge_law o)
    have Q4 := Lib.hid (fun b (h : since v3 b ∧ b < v4.heap.size) => (show v3.heap.size ≤ b ∧ b < v4.heap.size from h))
    clear o
    go_wp2_with fail
    refine (HIM.out (.slice ya4 x0_0.length yc4) v4 (slO_reads tCharge_law P4.out) HT.out ).mono ?_
    rintro e v5 ⟨rfl, c5⟩
    replace P2 := Lib.hid (slO_fresh tCharge_law P2.out c5)
    replace P4 := Lib.hid (slO_fresh tCharge_law P4.out c5)
    replace d := Lib.hid (d.out.trans (c5.mono d.out.size))
    have Z_v5 := Lib.hid (show v4.heap.size ≤ v5.heap.size from c5.size)
    clear c5
    go_wp2_with fail
    refine (toChargeS_S (.slice c0_0 x0_0.length k0_0) x0_0 v5 (slR_below tCharge_law A0_0.out d.out) S0_0.out).mono ?_
    rintro e v6 ⟨y, rfl, o, c6⟩
    replace P2 := Lib.hid (slO_fresh tCharge_law P2.out c6)
    replace P4 := Lib.hid (slO_fresh tCharge_law P4.out c6)
    replace d := Lib.hid (d.out.trans (c6.mono d.out.size))
    have Z_v6 := Lib.hid (show v5.heap.size ≤ v6.heap.size from c6.size)
    clear c6
    obtain ⟨ya6, yc6, rfl⟩ := slO_len o
    have P6 := Lib.hid (slO_lt tCharge_law o)
    have Q6 := Lib.hid (fun b (h : since v5 b ∧ b < v6.heap.size) => (show v5.heap.size ≤ b ∧ b < v6.heap.size from h))
    clear o
    go_wp2_with fail
    refine (eqChargeS_S (.slice ya4 x0_0.length yc4) (.slice ya6 x0_0.length yc6) x0_0 v6 (slO_reads tCharge_law P4.out) (slO_reads tCharge_law P6.out) S0_0.out).mono ?_
    rintro e v7 ⟨rfl, c7⟩
    replace P2 := Lib.hid (slO_fresh tCharge_law P2.out c7)
    replace P4 := Lib.hid (slO_fresh tCharge_law P4.out c7)
    replace P6 := Lib.hid (slO_fresh tCharge_law P6.out c7)
    replace d := Lib.hid (d.out.trans (c7.mono d.out.size))
    have Z_v7 := Lib.hid (show v6.heap.size ≤ v7.heap.size from c7.size)
    clear c7
    clear P6
    go_wp2
    go_ret
    exact ⟨rfl, d.out⟩
  ·
    have HZ0 : Hid ((1048576 : Int) < ((zL tCharge x0_0 : Nat) : Int)) := Lib.hid (by omega)
    have HP0 : Hid (0 ≤ (1048576 : Int)) := Lib.hid (by omega)
    have HK0 : Hid ((1048576 : Int) ≤ 1048576) := Lib.hid (by omega)
    clear c0
    go_enter Try.func5, Try.ntmps5
    go_wp2_with fail
    have d := Lib.hid (Below.refl w.heap.size w)
    refine (szChargeS_N (.slice c0_0 x0_0.length k0_0) x0_0 ((1048576 : Int)) w (slR_below tCharge_law A0_0.out d.out) HZ0.out HK0.out HP0.out O0_0.out).mono ?_
    rintro e v1 ⟨rfl, c1⟩
    replace d := Lib.hid (d.out.trans (c1.mono d.out.size))
    have Z_v1 := Lib.hid (show w.heap.size ≤ v1.heap.size from c1.size)
    clear c1
    go_wp2
    go_ret
    exact ⟨rfl, d.out⟩
end Go.Proofs.Ytjapbmaibgplkaa
