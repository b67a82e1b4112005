/-
  The walk of the specification's StabIndex.
-/
import Derived.Test.YteelgogfpidcdaaStabSpec
import Derived.Test.YteelgogfpidcdaaSpanApp
import Derived.Test.YteelgogfpidcdaaSpanLaws
import Derived.Test.YteelgogfpidcdaaRowEq
namespace Go.Proofs.Yteelgogfpidcdaa
open Go.RowKit
set_option linter.unusedVariables false
set_option linter.unusedSimpArgs false
set_option maxHeartbeats 8000000 in
set_option maxRecDepth 100000 in
theorem specStabIndex (va : Value) (a : List QD) (f : Int) (w : World) (h : QueriesR w va a) (hs : szQL a ≤ 1048576) :
    Calls Try.prog 46 #[va, .int .i64 f] w (FreshSpans w (spansL a f)) := by
  have H := Lib.hid h
  obtain ⟨ao, cap, rfl⟩ := queriesR_len h
  have HA := Lib.hid (fun w h => specAreQueries (.slice ao a.length cap) a w h hs)
  have HF : Hid (∀ w, Calls Try.prog 51 #[.int .i64 f, .int .i64 0, .int .i64 2] w fun e w' => e = .returned (.bool (okF f)) ∧ w' = w) := Lib.hid (fun w => in_is f 0 2 w)
  have HST : Hid (∀ (k : Nat) (w : World), QueriesR w (.slice ao a.length cap) a → Calls Try.prog 43 #[.slice ao a.length cap, .int .i64 f, .int .i64 (k : Int)] w (FreshInts w (stabL a f k))) := Lib.hid (fun k w h => specStabSet _ a f k w h hs)
  have HLN : Hid (∀ k : Nat, (stabL a f k).length ≤ 24) := Lib.hid (fun k => stabL_len a f k)
  have HFL : Hid (∀ v : Int, (stabL a f v).length ≤ 24) := Lib.hid (fun v => stabL_len a f v)
  clear h hs
  cases ha : areQB a with
  | false =>
    have HE : Hid (spansL a f = []) := Lib.hid (spansL_no (by rw [ha, Bool.false_and]))
    rw [ha] at HA
    rw [HE.out]
    clear HF HE ha HLN HST
    have oe := ownsP_empty w
    have be := (Below.refl w.heap.size w).alloc (Nat.le_refl _) (.cells #[] 101)
    go_enter Try.func46, Try.ntmps46
    go_wp2_with fail
    generalize w.alloc (.cells #[] 101) = W0 at *
    refine (HA.out _ (queriesR_below H.out be)).mono ?_
    rintro e w1 ⟨rfl, b1⟩
    have b2 := be.trans (b1.mono be.size)
    have o2 := ownsP_below oe b1
    clear b1 oe be
    go_wp2
    go_ret
    exact ⟨_, rfl, o2, b2⟩
  | true =>
    rw [ha] at HA
    cases hf : okF f with
    | false =>
      have HE : Hid (spansL a f = []) := Lib.hid (spansL_no (by rw [ha, hf, Bool.and_false]))
      rw [hf] at HF
      rw [HE.out]
      clear HE ha hf HLN HST
      have oe := ownsP_empty w
      have be := (Below.refl w.heap.size w).alloc (Nat.le_refl _) (.cells #[] 101)
      go_enter Try.func46, Try.ntmps46
      go_wp2_with fail
      generalize w.alloc (.cells #[] 101) = W0 at *
      refine (HA.out _ (queriesR_below H.out be)).mono ?_
      rintro e w1 ⟨rfl, b1⟩
      have b2 := be.trans (b1.mono be.size)
      have o2 := ownsP_below oe b1
      clear b1 oe be
      go_wp2_with fail
      refine (HF.out _).mono ?_
      rintro e w2 ⟨rfl, rfl⟩
      go_wp2
      go_ret
      exact ⟨_, rfl, o2, b2⟩
    | true =>
      have HE : Hid (spansL a f = spansTo (stabL a f) 100) := Lib.hid (spansL_yes (by rw [ha, hf, Bool.and_self]))
      rw [hf] at HF
      rw [HE.out]
      obtain ⟨F, hF⟩ : ∃ F : Int → List Int, stabL a f = F := ⟨_, rfl⟩
      rw [hF] at HFL HLN HST ⊢
      obtain ⟨R, hR⟩ : ∃ R, spansTo F 100 = R := ⟨_, rfl⟩
      rw [hR]
      have HR := Lib.hid hR
      clear HE ha hf hF hR
      have oe := ownsP_empty w
      have be := (Below.refl w.heap.size w).alloc (Nat.le_refl _) (.cells #[] 101)
      go_enter Try.func46, Try.ntmps46
      go_wp2_with fail
      generalize w.alloc (.cells #[] 101) = W0 at *
      refine (HA.out _ (queriesR_below H.out be)).mono ?_
      rintro e w1 ⟨rfl, b1⟩
      have b2 := be.trans (b1.mono be.size)
      have o2 := ownsP_below oe b1
      clear b1 oe be
      go_wp2_with fail
      refine (HF.out _).mono ?_
      rintro e w2 ⟨rfl, rfl⟩
      go_wp2
      go_loopw [5, 6] (fun o i wr => ∃ k : Nat, k ≤ 100 ∧ i = .int .i64 k ∧ OwnsP wr w.heap.size o (spansTo F k) ∧ Below w.heap.size w wr) (fun _ i _ => 100 - (intOf i).toNat)
      case atStart => exact ⟨0, Nat.zero_le _, rfl, o2, b2⟩
      case round =>
        obtain ⟨k, hk, rfl, hown, hbel⟩ := hrel
        by_cases hlt : k < 100
        · have i1 : (0 : Int) ≤ (k : Int) := by omega
          have i2 : (k : Int) ≤ 99 := by omega
          have i4 : (k : Int) < 100 := by omega
          have HAL : Hid ((spansTo F k).length ≤ 100) := Lib.hid (by have := spansTo_len F k; omega)
          have HSL : Hid ((F (k : Int)).length ≤ 24) := Lib.hid (HLN.out k)
          have HST1 : Hid (0 < (spansTo F k).length → ((spansTo F k).getD ((spansTo F k).length - 1) p0D).2.2 = F (k : Int) → (spansTo F k).set ((spansTo F k).length - 1) (((spansTo F k).getD ((spansTo F k).length - 1) p0D).1, (k : Int), ((spansTo F k).getD ((spansTo F k).length - 1) p0D).2.2) = spansTo F (k + 1)) := Lib.hid (fun h0 h => stepP_set h0 h)
          have HST2 : Hid (¬ (0 < (spansTo F k).length ∧ ((spansTo F k).getD ((spansTo F k).length - 1) p0D).2.2 = F (k : Int)) → spansTo F k ++ [((k : Int), (k : Int), F (k : Int))] = spansTo F (k + 1)) := Lib.hid (fun h => stepP_app h)
          have HSTL : Hid (∀ j, j < (spansTo F k).length → ((spansTo F k).getD j p0D).2.2.length ≤ 24) := Lib.hid (fun j hj => (spansTo_sets (F := F) (M := 24) (fun v => HFL.out v) k _ (getD_mem hj)))
          generalize spansTo F k = acc at *
          obtain ⟨oa, ocap, rfl⟩ := ownsP_len hown
          have HOW := Lib.hid hown
          have HBL := Lib.hid hbel
          clear hown hbel
          go_wp2_with fail
          refine (HST.out k _ (queriesR_below H.out HBL.out)).mono ?_
          rintro e v1 ⟨su, rfl, os, b1⟩
          generalize F (k : Int) = s at *
          obtain ⟨sa, sc, rfl⟩ := ints_len (ownsN_ints os)
          have HOS := Lib.hid os
          have HB1 := Lib.hid b1
          clear os b1
          by_cases hp : 0 < acc.length
          · have hp2 : (0 : Int) < (acc.length : Int) := by omega
            obtain ⟨g, cap2, hv, hBg, hgw, hfz, vv, hc2, hc1, hI⟩ := ownsP_shape HOW.out hp
            simp only [Value.slice.injEq, true_and] at hv
            obtain ⟨rfl, rfl⟩ := hv
            obtain ⟨va2, vcap2, rfl⟩ := ints_len hI
            have d2 := (HB1.out.cell (p := ⟨g, (acc.length - 1) * 3 + 2, none⟩) hgw).trans hc2
            have d1 := (HB1.out.cell (p := ⟨g, (acc.length - 1) * 3 + 1, none⟩) hgw).trans hc1
            have HI1 := Lib.hid (ints_below hI HB1.out)
            have hxl := HSTL.out _ (show acc.length - 1 < acc.length by omega)
            obtain ⟨m, hm⟩ : ∃ m, acc.length = m + 1 := ⟨acc.length - 1, by omega⟩
            have HM := Lib.hid hm
            rw [show acc.length - 1 = m by omega] at d1 d2 HI1 hxl HST1 HST2
            have HW1 := Lib.hid (fun (u : World) (h : OwnsP u w.heap.size (.slice (some ⟨g, 0, none⟩) acc.length ocap) acc) => ownsP_to h (k := m) (by have := HM.out; omega) (k : Int))
            have HOW1 := Lib.hid (ownsP_below HOW.out HB1.out)
            rw [hm] at HOW HOW1 HW1
            have hm9 : m ≤ 99 := by have := HAL.out; omega
            have HMR := Lib.hid hp
            clear hc1 hc2 hI hfz HSTL hp hp2
            have hp2 : (0 : Int) < (m : Int) + 1 := by omega
            have hp3 : (m : Int) < (m : Int) + 1 := by omega
            have hp4 : (0 : Int) ≤ (m : Int) := by omega
            clear hm
            obtain ⟨r, hr⟩ : ∃ r, acc.getD m p0D = r := ⟨_, rfl⟩
            rw [hr] at d1 d2 HI1 hxl HST1 HST2 HW1
            clear hr
            obtain ⟨rf, rt, xs⟩ := r
            simp only at d1 d2 HI1 hxl HST1 HST2 HW1
            rw [HM.out]
            go_wp2_with fail
            refine (specInts (.slice va2 xs.length vcap2) (.slice sa s.length sc) xs s _ HI1.out (ownsN_ints HOS.out) (by omega) (by have := HSL.out; omega)).mono ?_
            rintro e v2 ⟨rfl, b2⟩
            have e1 := (b2.cell (p := ⟨g, m * 3 + 1, none⟩) (Nat.lt_of_lt_of_le hgw HB1.out.size)).trans d1
            have HO2 := Lib.hid (ownsP_below HOW1.out b2)
            have HC2 := Lib.hid ((HBL.out.trans (HB1.out.mono HBL.out.size)).trans (b2.mono (HBL.out.trans (HB1.out.mono HBL.out.size)).size))
            have HS2 := Lib.hid (ownsN_below HOS.out b2)
            clear d1 d2 HI1 HOW1
            cases hd : decide (xs = s) with
            | true =>
              have HX := Lib.hid (HST1.out (by have := HM.out; omega) (of_decide_eq_true hd))
              clear hd HST1 HST2
              have fz : v2.frozen? ⟨g, m * 3 + 1, none⟩ = false := by
                obtain ⟨cs2, vs2, q1, _⟩ := HO2.out
                rw [HM.out] at q1
                exact World.ownsRow.frozenAt q1 _
              have FO := Lib.hid (HW1.out v2 HO2.out)
              rw [HX.out] at FO
              have B4 := HC2.out.setCell (p := ⟨g, m * 3 + 1, none⟩) hBg (.int .i64 (k : Int))
              clear b2 HW1
              go_wp2
              go_roundw
              case rel => exact ⟨k + 1, by omega, by go_num, FO.out, B4⟩
              case measure => simp [intOf]; omega
            | false =>
              have HX := Lib.hid (HST2.out (fun g => of_decide_eq_false hd g.2))
              clear hd HST2 e1
              have HBW := Lib.hid (HB1.out.trans (b2.mono HB1.out.size))
              clear b2
              clear HST1 HW1 hp2 hp3 hp4
              obtain ⟨cs, vs, q1, q2, q3⟩ := HOW.out
              have HL1 := Lib.hid (fun (j : Nat) (hj : j < acc.length) (q : Nat) (e : (vs j).ownBlock = some q) => ((q2 j hj).2.2.2.1.lt q e).2)
              have HL2 := Lib.hid (fun (q : Nat) e => (q1.lt q e).2)
              have hbb := HBW.out
              have H1 := Lib.hid (ownsRow_below q1 hbb)
              have H2 := Lib.hid (fun (j : Nat) (hj : j < acc.length) => (⟨(q2 j hj).1, (q2 j hj).2.1, (q2 j hj).2.2.1, ownsN_below (q2 j hj).2.2.2.1 hbb, (q2 j hj).2.2.2.2⟩ : _ ∧ _ ∧ _ ∧ _ ∧ _))
              have H3 := Lib.hid q3
              have hal : Below v2.heap.size v2 (v2.alloc (.cells #[.int .i64 (k : Int), .int .i64 (k : Int), .slice sa s.length sc] 101)) := (Below.refl _ _).alloc (Nat.le_refl _) _
              have HAL2 := Lib.hid hal
              have HCA := Lib.hid (HC2.out.trans (hal.mono HC2.out.size))
              have oX : SpansC (v2.alloc (.cells #[.int .i64 (k : Int), .int .i64 (k : Int), .slice sa s.length sc] 101)) w.heap.size _ acc.length cs := spansC_kept H1.out hal
              rw [HM.out] at oX
              clear hal q1 q2 q3 hbb
              go_wp2_with (at_builtin; refine append_spans rfl (.tmp 47) (.tmp 52) rfl w.heap.size _ _ _ rfl oX HCA.out.size ⟨v2.heap.size, 0, none⟩ 1 1 [.int .i64 (k : Int), .int .i64 (k : Int), .slice sa s.length sc] rfl rfl (fun j u hj => by rw [Go.WideShapes.add_plain, Nat.zero_add, cell_lit]; simpa using hj) (by intro u hu; simp at hu; rcases hu with rfl | rfl | rfl <;> rfl) (by have := HAL.out; omega) ?_)
              intro x3 W3 oX3 gX3 _ hat3
              have oX4 : SpansC W3 w.heap.size x3 (acc.length + 1) (cs ++ [.int .i64 (k : Int), .int .i64 (k : Int), .slice sa s.length sc]) := by
                rw [HM.out]; exact oX3
              skip
              have FO := append_ownsP (r := ((k : Int), (k : Int), s)) H1.out H2.out H3.out HL1.out HL2.out HBL.out.size HS2.out HAL2.out gX3 oX4 (by simpa [World.size_alloc] using hat3)
              have FB := HCA.out.grown gX3 HCA.out.size (fun q e => (H1.out.lt q e).1)
              rw [HX.out] at FO
              clear oX oX3 oX4 gX3 hat3
              go_wp2
              go_roundw
              case rel => exact ⟨k + 1, by omega, by go_num, FO, FB⟩
              case measure => simp [intOf]; omega
          · have hz : acc.length = 0 := by omega
            have HX := Lib.hid (HST2.out (fun g => hp g.1))
            have HO2 := Lib.hid (ownsP_below HOW.out HB1.out)
            have HC2 := Lib.hid (HBL.out.trans (HB1.out.mono HBL.out.size))
            have HS2 := HOS
            have HBW := HB1
            clear HST2 hp HSTL
            rw [hz]
            clear HST1
            obtain ⟨cs, vs, q1, q2, q3⟩ := HOW.out
            have HL1 := Lib.hid (fun (j : Nat) (hj : j < acc.length) (q : Nat) (e : (vs j).ownBlock = some q) => ((q2 j hj).2.2.2.1.lt q e).2)
            have HL2 := Lib.hid (fun (q : Nat) e => (q1.lt q e).2)
            have hbb := HBW.out
            have H1 := Lib.hid (ownsRow_below q1 hbb)
            have H2 := Lib.hid (fun (j : Nat) (hj : j < acc.length) => (⟨(q2 j hj).1, (q2 j hj).2.1, (q2 j hj).2.2.1, ownsN_below (q2 j hj).2.2.2.1 hbb, (q2 j hj).2.2.2.2⟩ : _ ∧ _ ∧ _ ∧ _ ∧ _))
            have H3 := Lib.hid q3
            have hal : Below v1.heap.size v1 (v1.alloc (.cells #[.int .i64 (k : Int), .int .i64 (k : Int), .slice sa s.length sc] 101)) := (Below.refl _ _).alloc (Nat.le_refl _) _
            have HAL2 := Lib.hid hal
            have HCA := Lib.hid (HC2.out.trans (hal.mono HC2.out.size))
            have oX : SpansC (v1.alloc (.cells #[.int .i64 (k : Int), .int .i64 (k : Int), .slice sa s.length sc] 101)) w.heap.size _ acc.length cs := spansC_kept H1.out hal
            rw [hz] at oX
            clear hal q1 q2 q3 hbb
            go_wp2_with (at_builtin; refine append_spans rfl (.tmp 47) (.tmp 52) rfl w.heap.size _ _ _ rfl oX HCA.out.size ⟨v1.heap.size, 0, none⟩ 1 1 [.int .i64 (k : Int), .int .i64 (k : Int), .slice sa s.length sc] rfl rfl (fun j u hj => by rw [Go.WideShapes.add_plain, Nat.zero_add, cell_lit]; simpa using hj) (by intro u hu; simp at hu; rcases hu with rfl | rfl | rfl <;> rfl) (by have := HAL.out; omega) ?_)
            intro x3 W3 oX3 gX3 _ hat3
            have oX4 : SpansC W3 w.heap.size x3 (acc.length + 1) (cs ++ [.int .i64 (k : Int), .int .i64 (k : Int), .slice sa s.length sc]) := by
              rw [hz]; exact oX3
            rw [show (Value.slice oa 0 ocap).ownBlock = (Value.slice oa acc.length ocap).ownBlock by rw [hz]] at gX3 hat3
            have FO := append_ownsP (r := ((k : Int), (k : Int), s)) H1.out H2.out H3.out HL1.out HL2.out HBL.out.size HS2.out HAL2.out gX3 oX4 (by simpa [World.size_alloc] using hat3)
            have FB := HCA.out.grown gX3 HCA.out.size (fun q e => (H1.out.lt q e).1)
            rw [HX.out] at FO
            clear oX oX3 oX4 gX3 hat3
            go_wp2
            go_roundw
            case rel => exact ⟨k + 1, by omega, by go_num, FO, FB⟩
            case measure => simp [intOf]; omega
        · obtain rfl : k = 100 := by omega
          rw [HR.out] at hown
          have i2 : ¬ ((100 : Nat) : Int) ≤ 99 := by omega
          have i3 : ¬ ((100 : Nat) : Int) < 100 := by omega
          obtain ⟨oa, ocap, rfl⟩ := ownsP_len hown
          go_wp2
          go_ret
          exact ⟨_, rfl, hown, hbel⟩
end Go.Proofs.Yteelgogfpidcdaa
