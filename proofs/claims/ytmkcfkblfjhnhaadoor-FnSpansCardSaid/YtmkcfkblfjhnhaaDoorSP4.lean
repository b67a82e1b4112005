/-
  Texts of the proof, merged: StabsP, StabSpec, StabsSpec, SpanEq, FindSpanP, SpanEqP, FmtMath, FmtWalks, RunMath, FmtSet.
-/
import Derived.Test.YtmkcfkblfjhnhaaDoorSP3
import Derived.Test.YtmkcfkblfjhnhaaDoorShelf
import Derived.Laws.BytesArg
import Derived.Lib.ItoaMem
import Derived.Lib.ItoaLen
import Derived.WalkSpells
import Derived.Lib.AppendIntMem
import Derived.Laws.Concat
import Derived.IntWalk
namespace Go.Proofs.YtmkcfkblfjhnhaaDoor
open Go.RowKit
set_option linter.unusedVariables false
set_option linter.unusedSimpArgs false
set_option maxHeartbeats 8000000 in
set_option maxRecDepth 100000 in
theorem implStabIndex (va : Value) (a : List QD) (f : Int) (w : World) (h : QueriesR w va a) (hs : szQL a ≤ 1048576) :
    Calls Tryd.prog 6 #[va, .int .i64 f] w (FreshSpans w (spansL a f)) := by
  have H := Lib.hid h
  obtain ⟨ao, cap, rfl⟩ := queriesR_len h
  have HA := Lib.hid (fun w h => implAreQueries (.slice ao a.length cap) a w h hs)
  have HF := Lib.hid (fun w => isField_is f w)
  have HAD := Lib.hid (fun w h => admissions_any (.slice ao a.length cap) a f w h hs)
  have HLN : Hid (∀ k : Nat, (stabL a f k).length ≤ 24) := Lib.hid (fun k => stabL_len a f k)
  have HFL : Hid (∀ v : Int, (stabL a f v).length ≤ 24) := Lib.hid (fun v => stabL_len a f v)
  have HSZ := Lib.hid hs
  clear h hs
  cases ha : areQB a with
  | false =>
    have HE : Hid (spansL a f = []) := Lib.hid (spansL_no (by rw [ha, Bool.false_and]))
    rw [ha] at HA
    rw [HE.out]
    clear HF HE ha HLN HAD HSZ
    go_enter Tryd.func6, Tryd.ntmps6
    go_wp2_with fail
    refine (HA.out _ H.out).mono ?_
    rintro e w1 ⟨rfl, b1⟩
    have b2 := b1
    clear b1
    go_wp2
    go_ret
    exact ⟨_, rfl, ownsP_none _ _, b2⟩
  | true =>
    rw [ha] at HA
    cases hf : okF f with
    | false =>
      have HE : Hid (spansL a f = []) := Lib.hid (spansL_no (by rw [ha, hf, Bool.and_false]))
      rw [hf] at HF
      rw [HE.out]
      clear HE ha hf HLN HAD HSZ
      go_enter Tryd.func6, Tryd.ntmps6
      go_wp2_with fail
      refine (HA.out _ H.out).mono ?_
      rintro e w1 ⟨rfl, b1⟩
      have b2 := b1
      clear b1
      go_wp2_with fail
      refine (HF.out _).mono ?_
      rintro e w2 ⟨rfl, rfl⟩
      go_wp2
      go_ret
      exact ⟨_, rfl, ownsP_none _ _, b2⟩
    | true =>
      have HE : Hid (spansL a f = spansTo (stabL a f) 100) := Lib.hid (spansL_yes (by rw [ha, hf, Bool.and_self]))
      rw [hf] at HF
      rw [HE.out]
      have HVL : Hid (∀ (k : Nat), k < 100 → ∀ (u : Value) (w : World), CondsR w u (admL a f) → Calls Tryd.prog 22 #[u, .int .i64 (k : Int)] w (FreshInts w (stabL a f k))) := Lib.hid (fun k hk u w h => by
        have e : ivL (admL a f) (k : Int) = stabL a f k := by
          rw [ivL_adm]
          refine valsL_eq ha ?_ (by omega)
          unfold okF at hf; simpa using hf
        rw [← e]
        exact valuesAt_any u (admL a f) k w h (by unfold admL; rw [List.length_map]; exact szQL_len HSZ.out))
      generalize admL a f = ivs at *
      clear HSZ
      obtain ⟨F, hF⟩ : ∃ F : Int → List Int, stabL a f = F := ⟨_, rfl⟩
      rw [hF] at HFL HLN HVL ⊢
      obtain ⟨R, hR⟩ : ∃ R, spansTo F 100 = R := ⟨_, rfl⟩
      rw [hR]
      have HR := Lib.hid hR
      clear HE ha hf hF hR
      go_enter Tryd.func6, Tryd.ntmps6
      go_wp2_with fail
      refine (HA.out _ H.out).mono ?_
      rintro e w1 ⟨rfl, b1⟩
      have b2 := b1
      clear b1
      go_wp2_with fail
      refine (HF.out _).mono ?_
      rintro e w2 ⟨rfl, rfl⟩
      go_wp2_with fail
      refine (HAD.out _ (queriesR_below H.out b2)).mono ?_
      rintro e w3 ⟨u0, rfl, ou, b3⟩
      have b4 := b2.trans (b3.mono b2.size)
      have HC3 := Lib.hid (ownsI_conds ou)
      have HB3 := Lib.hid b4
      clear ou b3 b2
      obtain ⟨ia, icap, rfl⟩ := condsR_len HC3.out
      go_wp2
      go_loopw [6, 21] (fun o i wr => ∃ k : Nat, k ≤ 100 ∧ i = .int .i64 k ∧ OwnsP wr w3.heap.size o (spansTo F k) ∧ Below w3.heap.size w3 wr) (fun _ i _ => 100 - (intOf i).toNat)
      case atStart => exact ⟨0, Nat.zero_le _, rfl, ownsP_none _ _, Below.refl _ _⟩
      case round =>
        obtain ⟨k, hk, rfl, hown, hbel⟩ := hrel
        by_cases hlt : k < 100
        · have i1 : (0 : Int) ≤ (k : Int) := by omega
          have i2 : (k : Int) ≤ 99 := by omega
          have i4 : (k : Int) < 100 := by omega
          have HAL : Hid ((spansTo F k).length ≤ 100) := Lib.hid (by have := spansTo_len F k; omega)
          have HSL : Hid ((F (k : Int)).length ≤ 24) := Lib.hid (HLN.out k)
          have HST1 : Hid (0 < (spansTo F k).length → ((spansTo F k).getD ((spansTo F k).length - 1) p0D).2.2 = F (k : Int) → (spansTo F k).set ((spansTo F k).length - 1) (((spansTo F k).getD ((spansTo F k).length - 1) p0D).1, (k : Int), ((spansTo F k).getD ((spansTo F k).length - 1) p0D).2.2) = spansTo F (k + 1)) := Lib.hid (fun h0 h => stepP_set h0 h)
          have HST2 : Hid (¬ (0 < (spansTo F k).length ∧ ((spansTo F k).getD ((spansTo F k).length - 1) p0D).2.2 = F (k : Int)) → spansTo F k ++ [((k : Int), (k : Int), F (k : Int))] = spansTo F (k + 1)) := Lib.hid (fun h => stepP_app h)
          have HSTL : Hid (∀ j, j < (spansTo F k).length → ((spansTo F k).getD j p0D).2.2.length ≤ 24) := Lib.hid (fun j hj => (spansTo_sets (F := F) (M := 24) (fun v => HFL.out v) k _ (getD_mem hj)))
          generalize spansTo F k = acc at *
          obtain ⟨oa, ocap, rfl⟩ := ownsP_len hown
          have HOW := Lib.hid hown
          have HBL := Lib.hid hbel
          clear hown hbel
          go_wp2_with fail
          refine (HVL.out k hlt _ _ (condsR_below HC3.out HBL.out)).mono ?_
          rintro e v1 ⟨su, rfl, os, b1⟩
          generalize F (k : Int) = s at *
          obtain ⟨sa, sc, rfl⟩ := ints_len (ownsN_ints os)
          have HOS := Lib.hid os
          have HB1 := Lib.hid b1
          clear os b1
          by_cases hp : 0 < acc.length
          · have hp2 : (0 : Int) < (acc.length : Int) := by omega
            obtain ⟨g, cap2, hv, hBg, hgw, hfz, vv, hc2, hc1, hI⟩ := ownsP_shape HOW.out hp
            simp only [Value.slice.injEq, true_and] at hv
            obtain ⟨rfl, rfl⟩ := hv
            obtain ⟨va2, vcap2, rfl⟩ := ints_len hI
            have d2 := (HB1.out.cell (p := ⟨g, (acc.length - 1) * 3 + 2, none⟩) hgw).trans hc2
            have d1 := (HB1.out.cell (p := ⟨g, (acc.length - 1) * 3 + 1, none⟩) hgw).trans hc1
            have HI1 := Lib.hid (ints_below hI HB1.out)
            have hxl := HSTL.out _ (show acc.length - 1 < acc.length by omega)
            obtain ⟨m, hm⟩ : ∃ m, acc.length = m + 1 := ⟨acc.length - 1, by omega⟩
            have HM := Lib.hid hm
            rw [show acc.length - 1 = m by omega] at d1 d2 HI1 hxl HST1 HST2
            have HW1 := Lib.hid (fun (u : World) (h : OwnsP u w3.heap.size (.slice (some ⟨g, 0, none⟩) acc.length ocap) acc) => ownsP_to h (k := m) (by have := HM.out; omega) (k : Int))
            have HOW1 := Lib.hid (ownsP_below HOW.out HB1.out)
            rw [hm] at HOW HOW1 HW1
            have hm9 : m ≤ 99 := by have := HAL.out; omega
            have HMR := Lib.hid hp
            clear hc1 hc2 hI hfz HSTL hp hp2
            have hp2 : (0 : Int) < (m : Int) + 1 := by omega
            have hp3 : (m : Int) < (m : Int) + 1 := by omega
            have hp4 : (0 : Int) ≤ (m : Int) := by omega
            clear hm
            obtain ⟨r, hr⟩ : ∃ r, acc.getD m p0D = r := ⟨_, rfl⟩
            rw [hr] at d1 d2 HI1 hxl HST1 HST2 HW1
            clear hr
            obtain ⟨rf, rt, xs⟩ := r
            simp only at d1 d2 HI1 hxl HST1 HST2 HW1
            rw [HM.out]
            go_wp2_with fail
            refine (equalInts_any (.slice va2 xs.length vcap2) (.slice sa s.length sc) xs s _ HI1.out (ownsN_ints HOS.out) (by omega) (by have := HSL.out; omega)).mono ?_
            rintro e v2 ⟨rfl, b2⟩
            have e1 := (b2.cell (p := ⟨g, m * 3 + 1, none⟩) (Nat.lt_of_lt_of_le hgw HB1.out.size)).trans d1
            have HO2 := Lib.hid (ownsP_below HOW1.out b2)
            have HC2 := Lib.hid ((HBL.out.trans (HB1.out.mono HBL.out.size)).trans (b2.mono (HBL.out.trans (HB1.out.mono HBL.out.size)).size))
            have HS2 := Lib.hid (ownsN_below HOS.out b2)
            clear d1 d2 HI1 HOW1
            cases hd : decide (xs = s) with
            | true =>
              have HX := Lib.hid (HST1.out (by have := HM.out; omega) (of_decide_eq_true hd))
              clear hd HST1 HST2
              have fz : v2.frozen? ⟨g, m * 3 + 1, none⟩ = false := by
                obtain ⟨cs2, vs2, q1, _⟩ := HO2.out
                rw [HM.out] at q1
                exact World.ownsRow.frozenAt q1 _
              have FO := Lib.hid (HW1.out v2 HO2.out)
              rw [HX.out] at FO
              have B4 := HC2.out.setCell (p := ⟨g, m * 3 + 1, none⟩) hBg (.int .i64 (k : Int))
              clear b2 HW1
              go_wp2
              go_roundw
              case rel => exact ⟨k + 1, by omega, by go_num, FO.out, B4⟩
              case measure => simp [intOf]; omega
            | false =>
              have HX := Lib.hid (HST2.out (fun g => of_decide_eq_false hd g.2))
              clear hd HST2 e1
              have HBW := Lib.hid (HB1.out.trans (b2.mono HB1.out.size))
              clear b2
              clear HST1 HW1 hp2 hp3 hp4
              obtain ⟨cs, vs, q1, q2, q3⟩ := HOW.out
              have HL1 := Lib.hid (fun (j : Nat) (hj : j < acc.length) (q : Nat) (e : (vs j).ownBlock = some q) => ((q2 j hj).2.2.2.1.lt q e).2)
              have HL2 := Lib.hid (fun (q : Nat) e => (q1.lt q e).2)
              have hbb := HBW.out
              have H1 := Lib.hid (ownsRow_below q1 hbb)
              have H2 := Lib.hid (fun (j : Nat) (hj : j < acc.length) => (⟨(q2 j hj).1, (q2 j hj).2.1, (q2 j hj).2.2.1, ownsN_below (q2 j hj).2.2.2.1 hbb, (q2 j hj).2.2.2.2⟩ : _ ∧ _ ∧ _ ∧ _ ∧ _))
              have H3 := Lib.hid q3
              have hal : Below v2.heap.size v2 (v2.alloc (.cells #[.int .i64 (k : Int), .int .i64 (k : Int), .slice sa s.length sc] 34)) := (Below.refl _ _).alloc (Nat.le_refl _) _
              have HAL2 := Lib.hid hal
              have HCA := Lib.hid (HC2.out.trans (hal.mono HC2.out.size))
              have oX : SpansC (v2.alloc (.cells #[.int .i64 (k : Int), .int .i64 (k : Int), .slice sa s.length sc] 34)) w3.heap.size _ acc.length cs := spansC_kept H1.out hal
              rw [HM.out] at oX
              clear hal q1 q2 q3 hbb
              go_wp2_with (at_builtin; refine append_spans rfl (.tmp 46) (.tmp 51) rfl w3.heap.size _ _ _ rfl oX HCA.out.size ⟨v2.heap.size, 0, none⟩ 1 1 [.int .i64 (k : Int), .int .i64 (k : Int), .slice sa s.length sc] rfl rfl (fun j u hj => by rw [Go.WideShapes.add_plain, Nat.zero_add, cell_lit]; simpa using hj) (by intro u hu; simp at hu; rcases hu with rfl | rfl | rfl <;> rfl) (by have := HAL.out; omega) ?_)
              intro x3 W3 oX3 gX3 _ hat3
              have oX4 : SpansC W3 w3.heap.size x3 (acc.length + 1) (cs ++ [.int .i64 (k : Int), .int .i64 (k : Int), .slice sa s.length sc]) := by
                rw [HM.out]; exact oX3
              skip
              have FO := append_ownsP (r := ((k : Int), (k : Int), s)) H1.out H2.out H3.out HL1.out HL2.out HBL.out.size HS2.out HAL2.out gX3 oX4 (by simpa [World.size_alloc] using hat3)
              have FB := HCA.out.grown gX3 HCA.out.size (fun q e => (H1.out.lt q e).1)
              rw [HX.out] at FO
              clear oX oX3 oX4 gX3 hat3
              go_wp2
              go_roundw
              case rel => exact ⟨k + 1, by omega, by go_num, FO, FB⟩
              case measure => simp [intOf]; omega
          · have hz : acc.length = 0 := by omega
            have HX := Lib.hid (HST2.out (fun g => hp g.1))
            have HO2 := Lib.hid (ownsP_below HOW.out HB1.out)
            have HC2 := Lib.hid (HBL.out.trans (HB1.out.mono HBL.out.size))
            have HS2 := HOS
            have HBW := HB1
            clear HST2 hp HSTL
            rw [hz]
            clear HST1
            obtain ⟨cs, vs, q1, q2, q3⟩ := HOW.out
            have HL1 := Lib.hid (fun (j : Nat) (hj : j < acc.length) (q : Nat) (e : (vs j).ownBlock = some q) => ((q2 j hj).2.2.2.1.lt q e).2)
            have HL2 := Lib.hid (fun (q : Nat) e => (q1.lt q e).2)
            have hbb := HBW.out
            have H1 := Lib.hid (ownsRow_below q1 hbb)
            have H2 := Lib.hid (fun (j : Nat) (hj : j < acc.length) => (⟨(q2 j hj).1, (q2 j hj).2.1, (q2 j hj).2.2.1, ownsN_below (q2 j hj).2.2.2.1 hbb, (q2 j hj).2.2.2.2⟩ : _ ∧ _ ∧ _ ∧ _ ∧ _))
            have H3 := Lib.hid q3
            have hal : Below v1.heap.size v1 (v1.alloc (.cells #[.int .i64 (k : Int), .int .i64 (k : Int), .slice sa s.length sc] 34)) := (Below.refl _ _).alloc (Nat.le_refl _) _
            have HAL2 := Lib.hid hal
            have HCA := Lib.hid (HC2.out.trans (hal.mono HC2.out.size))
            have oX : SpansC (v1.alloc (.cells #[.int .i64 (k : Int), .int .i64 (k : Int), .slice sa s.length sc] 34)) w3.heap.size _ acc.length cs := spansC_kept H1.out hal
            rw [hz] at oX
            clear hal q1 q2 q3 hbb
            go_wp2_with (at_builtin; refine append_spans rfl (.tmp 46) (.tmp 51) rfl w3.heap.size _ _ _ rfl oX HCA.out.size ⟨v1.heap.size, 0, none⟩ 1 1 [.int .i64 (k : Int), .int .i64 (k : Int), .slice sa s.length sc] rfl rfl (fun j u hj => by rw [Go.WideShapes.add_plain, Nat.zero_add, cell_lit]; simpa using hj) (by intro u hu; simp at hu; rcases hu with rfl | rfl | rfl <;> rfl) (by have := HAL.out; omega) ?_)
            intro x3 W3 oX3 gX3 _ hat3
            have oX4 : SpansC W3 w3.heap.size x3 (acc.length + 1) (cs ++ [.int .i64 (k : Int), .int .i64 (k : Int), .slice sa s.length sc]) := by
              rw [hz]; exact oX3
            rw [show (Value.slice oa 0 ocap).ownBlock = (Value.slice oa acc.length ocap).ownBlock by rw [hz]] at gX3 hat3
            have FO := append_ownsP (r := ((k : Int), (k : Int), s)) H1.out H2.out H3.out HL1.out HL2.out HBL.out.size HS2.out HAL2.out gX3 oX4 (by simpa [World.size_alloc] using hat3)
            have FB := HCA.out.grown gX3 HCA.out.size (fun q e => (H1.out.lt q e).1)
            rw [HX.out] at FO
            clear oX oX3 oX4 gX3 hat3
            go_wp2
            go_roundw
            case rel => exact ⟨k + 1, by omega, by go_num, FO, FB⟩
            case measure => simp [intOf]; omega
        · obtain rfl : k = 100 := by omega
          rw [HR.out] at hown
          have i2 : ¬ ((100 : Nat) : Int) ≤ 99 := by omega
          have i3 : ¬ ((100 : Nat) : Int) < 100 := by omega
          obtain ⟨oa, ocap, rfl⟩ := ownsP_len hown
          go_wp2
          go_ret
          exact ⟨_, rfl, ownsP_up hown HB3.out.size, HB3.out.trans (hbel.mono HB3.out.size)⟩
end Go.Proofs.YtmkcfkblfjhnhaaDoor
namespace Go.Proofs.YtmkcfkblfjhnhaaDoor
open Go.RowKit
set_option linter.unusedVariables false
set_option linter.unusedSimpArgs false
theorem in_is (x lo hi : Int) (w : World) : Calls Tryd.prog 24 #[.int .i64 x, .int .i64 lo, .int .i64 hi] w fun e w' => e = .returned (.bool (decide (lo ≤ x ∧ x ≤ hi))) ∧ w' = w := by
  by_cases h : lo ≤ x ∧ x ≤ hi
  · rw [decide_eq_true h]; exact in_yes x lo hi w h.1 h.2
  · rw [decide_eq_false h]; exact in_no x lo hi w h
theorem stabS_no {a : List QD} {f v : Int} (h : (areQB a && (okF f && okV v)) = false) : stabL a f v = [] := by unfold stabL; rw [h]; rfl
theorem stabS_yes {a : List QD} {f v : Int} (h : (areQB a && (okF f && okV v)) = true) : stabL a f v = (a.filter (admQ f v)).map (·.1) := by unfold stabL; rw [h]; rfl
theorem admF_yes {a : List QD} {f v : Int} {k : Nat} (hk : k < a.length) (h : admQ f v (a.getD k q0D) = true) : ((a.take k).filter (admQ f v)).map (·.1) ++ [(a.getD k q0D).1] = ((a.take (k + 1)).filter (admQ f v)).map (·.1) := by
  have e : a.getD k q0D = a[k] := by simp [List.getD, hk]
  rw [e] at h ⊢
  rw [List.take_succ_eq_append_getElem hk, List.filter_append, List.map_append]
  simp [List.filter_cons, h]
theorem admF_no {a : List QD} {f v : Int} {k : Nat} (hk : k < a.length) (h : admQ f v (a.getD k q0D) = false) : ((a.take k).filter (admQ f v)).map (·.1) = ((a.take (k + 1)).filter (admQ f v)).map (·.1) := by
  have e : a.getD k q0D = a[k] := by simp [List.getD, hk]
  rw [e] at h
  rw [List.take_succ_eq_append_getElem hk, List.filter_append, List.map_append]
  simp [List.filter_cons, h]
theorem admF_len (a : List QD) (f v : Int) (k : Nat) : (((a.take k).filter (admQ f v)).map (·.1)).length ≤ a.length := by
  rw [List.length_map]
  have := List.length_filter_le (admQ f v) (a.take k)
  rw [List.length_take] at this
  omega
set_option maxHeartbeats 8000000 in
set_option maxRecDepth 100000 in
theorem specStabSet (va : Value) (a : List QD) (f v : Int) (w : World) (h : QueriesR w va a) (hs : szQL a ≤ 1048576) :
    Calls Tryd.prog 17 #[va, .int .i64 f, .int .i64 v] w (FreshInts w (stabL a f v)) := by
  have H := Lib.hid h
  have HS := Lib.hid hs
  have hn := szQL_len hs
  obtain ⟨ao, cap, rfl⟩ := queriesR_len h
  have HA := Lib.hid (fun w h => specAreQueries (.slice ao a.length cap) a w h hs)
  have HF : Hid (∀ w, Calls Tryd.prog 24 #[.int .i64 f, .int .i64 0, .int .i64 2] w fun e w' => e = .returned (.bool (okF f)) ∧ w' = w) := Lib.hid (fun w => in_is f 0 2 w)
  have HV : Hid (∀ w, Calls Tryd.prog 24 #[.int .i64 v, .int .i64 0, .int .i64 99] w fun e w' => e = .returned (.bool (okV v)) ∧ w' = w) := Lib.hid (fun w => in_is v 0 99 w)
  clear h hs
  cases ha : areQB a with
  | false =>
    have HE : Hid (stabL a f v = []) := Lib.hid (stabS_no (by rw [ha]; rfl))
    rw [ha] at HA
    clear ha HF HV
    rw [HE.out]
    clear HE
    go_enter Tryd.func17, Tryd.ntmps17
    go_wp2
    have hown := ownsN_lit w w.heap.size (Nat.le_refl _) #[] 0 [] rfl rfl (by decide)
    have hbel := (Below.refl w.heap.size w).alloc (Nat.le_refl _) (.cells #[] 3)
    generalize w.alloc (.cells #[] 3) = w0 at hown hbel ⊢
    go_loopw [7, 8] (fun v i wr => wr = w0 ∧ i = .int .i64 0 ∧ v = .slice (some ⟨w.heap.size, 0, none⟩) 0 0) (fun _ _ _ => 0)
    case atStart => exact ⟨rfl, rfl, rfl⟩
    case round =>
      obtain ⟨rfl, rfl, rfl⟩ := hrel
      by_cases hl : 0 < a.length
      · have i2 : (0 : Int) < (a.length : Int) := by omega
        go_wp2_with fail
        refine (HA.out _ (queriesR_below H.out hbel)).mono ?_
        rintro e w1 ⟨rfl, hb1⟩
        have hown1 := ownsN_below hown hb1
        have hbel1 := hbel.trans (hb1.mono hbel.size)
        clear hown hbel hb1
        go_wp2
        go_ret
        exact ⟨_, rfl, hown1, hbel1⟩
      · have hl2 : ¬ ((0 : Int) < (a.length : Int)) := by omega
        go_wp2
        go_ret
        exact ⟨_, rfl, hown, hbel⟩
  | true =>
    rw [ha] at HA
    cases hf : okF f with
    | false =>
      have HE : Hid (stabL a f v = []) := Lib.hid (stabS_no (by rw [ha, hf]; rfl))
      rw [hf] at HF
      clear ha hf HV
      rw [HE.out]
      clear HE
      go_enter Tryd.func17, Tryd.ntmps17
      go_wp2
      have hown := ownsN_lit w w.heap.size (Nat.le_refl _) #[] 0 [] rfl rfl (by decide)
      have hbel := (Below.refl w.heap.size w).alloc (Nat.le_refl _) (.cells #[] 3)
      generalize w.alloc (.cells #[] 3) = w0 at hown hbel ⊢
      go_loopw [7, 8] (fun v i wr => wr = w0 ∧ i = .int .i64 0 ∧ v = .slice (some ⟨w.heap.size, 0, none⟩) 0 0) (fun _ _ _ => 0)
      case atStart => exact ⟨rfl, rfl, rfl⟩
      case round =>
        obtain ⟨rfl, rfl, rfl⟩ := hrel
        by_cases hl : 0 < a.length
        · have i2 : (0 : Int) < (a.length : Int) := by omega
          go_wp2_with fail
          refine (HA.out _ (queriesR_below H.out hbel)).mono ?_
          rintro e w1 ⟨rfl, hb1⟩
          have hown1 := ownsN_below hown hb1
          have hbel1 := hbel.trans (hb1.mono hbel.size)
          clear hown hbel hb1
          go_wp2_with fail
          refine (HF.out _).mono ?_
          rintro e w2 ⟨rfl, rfl⟩
          go_wp2
          go_ret
          exact ⟨_, rfl, hown1, hbel1⟩
        · have hl2 : ¬ ((0 : Int) < (a.length : Int)) := by omega
          go_wp2
          go_ret
          exact ⟨_, rfl, hown, hbel⟩
    | true =>
      rw [hf] at HF
      cases hv : okV v with
      | false =>
        have HE : Hid (stabL a f v = []) := Lib.hid (stabS_no (by rw [ha, hf, hv]; rfl))
        rw [hv] at HV
        clear ha hf hv
        rw [HE.out]
        clear HE
        go_enter Tryd.func17, Tryd.ntmps17
        go_wp2
        have hown := ownsN_lit w w.heap.size (Nat.le_refl _) #[] 0 [] rfl rfl (by decide)
        have hbel := (Below.refl w.heap.size w).alloc (Nat.le_refl _) (.cells #[] 3)
        generalize w.alloc (.cells #[] 3) = w0 at hown hbel ⊢
        go_loopw [7, 8] (fun v i wr => wr = w0 ∧ i = .int .i64 0 ∧ v = .slice (some ⟨w.heap.size, 0, none⟩) 0 0) (fun _ _ _ => 0)
        case atStart => exact ⟨rfl, rfl, rfl⟩
        case round =>
          obtain ⟨rfl, rfl, rfl⟩ := hrel
          by_cases hl : 0 < a.length
          · have i2 : (0 : Int) < (a.length : Int) := by omega
            go_wp2_with fail
            refine (HA.out _ (queriesR_below H.out hbel)).mono ?_
            rintro e w1 ⟨rfl, hb1⟩
            have hown1 := ownsN_below hown hb1
            have hbel1 := hbel.trans (hb1.mono hbel.size)
            clear hown hbel hb1
            go_wp2_with fail
            refine (HF.out _).mono ?_
            rintro e w2 ⟨rfl, rfl⟩
            go_wp2_with fail
            refine (HV.out _).mono ?_
            rintro e w2 ⟨rfl, rfl⟩
            go_wp2
            go_ret
            exact ⟨_, rfl, hown1, hbel1⟩
          · have hl2 : ¬ ((0 : Int) < (a.length : Int)) := by omega
            go_wp2
            go_ret
            exact ⟨_, rfl, hown, hbel⟩
      | true =>
        have HE := Lib.hid (stabS_yes (a := a) (f := f) (v := v) (by rw [ha, hf, hv]; rfl))
        rw [hv] at HV
        rw [HE.out]
        clear ha hf hv HE
        go_enter Tryd.func17, Tryd.ntmps17
        go_wp2
        go_loopw [7, 8] (fun o i wr => ∃ k : Nat, k ≤ a.length ∧ i = .int .i64 k ∧ OwnsN wr w.heap.size o (((a.take k).filter (admQ f v)).map (·.1)) ∧ Below w.heap.size w wr) (fun _ i _ => a.length - (intOf i).toNat)
        case atStart => exact ⟨0, Nat.zero_le _, rfl, ownsN_lit w _ (Nat.le_refl _) #[] 0 [] rfl rfl (by decide), (Below.refl _ _).alloc (Nat.le_refl _) _⟩
        case round =>
          obtain ⟨k, hk, rfl, hown, hbel⟩ := hrel
          by_cases hlt : k < a.length
          · have i1 : (0 : Int) ≤ (k : Int) := by omega
            have i2 : (k : Int) < (a.length : Int) := by omega
            have HL := Lib.hid (admF_len a f v k)
            have HYES := Lib.hid (fun h => admF_yes (f := f) (v := v) hlt h)
            have HNO := Lib.hid (fun h => admF_no (f := f) (v := v) hlt h)
            have HCL := Lib.hid (szQL_at HS.out hlt).1
            go_wp2_with fail
            refine (HA.out _ (queriesR_below H.out hbel)).mono ?_
            rintro e w1 ⟨rfl, hb1⟩
            have hown1 := ownsN_below hown hb1
            have hbel1 := hbel.trans (hb1.mono hbel.size)
            clear hown hbel hb1
            go_wp2_with fail
            refine (HF.out _).mono ?_
            rintro e w2 ⟨rfl, rfl⟩
            go_wp2_with fail
            refine (HV.out _).mono ?_
            rintro e w2 ⟨rfl, rfl⟩
            have hB1 := hbel1.size
            obtain ⟨b, off, cap', cv, ov, hv, hbl, hc1, hc2, hc3, hc4, hC, hO⟩ := queriesR_at (queriesR_below H.out hbel1) hlt
            simp only [Value.slice.injEq] at hv
            obtain ⟨rfl, _, rfl⟩ := hv
            generalize a.getD k q0D = q at *
            obtain ⟨qid, qtn, qc, qo⟩ := q
            simp only at hc1 hc2 hc3 hc4 hC hO HCL HYES
            have HAQ : Hid (admQ f v (qid, qtn, qc, qo) = admB qc f v) := Lib.hid rfl
            obtain ⟨ca, ccap, rfl⟩ := condsR_len hC
            obtain ⟨oa, ocap, rfl⟩ := ints_len hO
            have HCC := Lib.hid hC
            clear hC hO
            generalize ((a.take k).filter (admQ f v)).map (·.1) = ac at *
            go_wp2_with fail
            refine (specAdmits qid qtn f v (.slice ca qc.length ccap) (.slice oa qo.length ocap) qc _ HCC.out HCL.out).mono ?_
            rintro e w3 ⟨rfl, hb3⟩
            rw [← HAQ.out]
            have hown3 := ownsN_below hown1 hb3
            have hbel3 := hbel1.trans (hb3.mono hbel1.size)
            have hB3 := hbel3.size
            have p1 := (hb3.cell (p := ⟨b, off + k * 4, none⟩) hbl).trans hc1
            clear hown1 hbel1 hb3 hc1 hc2 hc3 hc4
            cases hmb : admQ f v (qid, qtn, qc, qo) with
            | true =>
              have HY := Lib.hid (HYES.out hmb)
              clear hmb HYES HNO
              go_wp2_with (at_builtin; refine append_ints rfl (.tmp 35) (.tmp 41) rfl w.heap.size _ _ rfl hown3 hB3 _ [qid] 1 _ rfl (by first | rfl | (simp; done)) rfl (by have := HL.out; simp; omega) ?_)
              intro v' w4 hown4 hb4
              rw [HY.out] at hown4
              have hb5 := hbel3.trans hb4
              clear hown3 hbel3 hb4 p1
              go_wp2
              go_roundw
              case rel => exact ⟨k + 1, by omega, by go_num, hown4, hb5⟩
              case measure => simp [intOf]; omega
            | false =>
              have HY := Lib.hid (HNO.out hmb)
              clear hmb HYES HNO
              rw [HY.out] at hown3
              go_wp2
              go_roundw
              case rel => exact ⟨k + 1, by omega, by go_num, hown3, hbel3⟩
              case measure => simp [intOf]; omega
          · obtain rfl : k = a.length := by omega
            rw [List.take_length] at hown
            go_wp2
            go_ret
            exact ⟨_, rfl, hown, hbel⟩
end Go.Proofs.YtmkcfkblfjhnhaaDoor
namespace Go.Proofs.YtmkcfkblfjhnhaaDoor
open Go.RowKit
set_option linter.unusedVariables false
set_option linter.unusedSimpArgs false
set_option maxHeartbeats 8000000 in
set_option maxRecDepth 100000 in
theorem specStabIndex (va : Value) (a : List QD) (f : Int) (w : World) (h : QueriesR w va a) (hs : szQL a ≤ 1048576) :
    Calls Tryd.prog 7 #[va, .int .i64 f] w (FreshSpans w (spansL a f)) := by
  have H := Lib.hid h
  obtain ⟨ao, cap, rfl⟩ := queriesR_len h
  have HA := Lib.hid (fun w h => specAreQueries (.slice ao a.length cap) a w h hs)
  have HF : Hid (∀ w, Calls Tryd.prog 24 #[.int .i64 f, .int .i64 0, .int .i64 2] w fun e w' => e = .returned (.bool (okF f)) ∧ w' = w) := Lib.hid (fun w => in_is f 0 2 w)
  have HST : Hid (∀ (k : Nat) (w : World), QueriesR w (.slice ao a.length cap) a → Calls Tryd.prog 17 #[.slice ao a.length cap, .int .i64 f, .int .i64 (k : Int)] w (FreshInts w (stabL a f k))) := Lib.hid (fun k w h => specStabSet _ a f k w h hs)
  have HLN : Hid (∀ k : Nat, (stabL a f k).length ≤ 24) := Lib.hid (fun k => stabL_len a f k)
  have HFL : Hid (∀ v : Int, (stabL a f v).length ≤ 24) := Lib.hid (fun v => stabL_len a f v)
  clear h hs
  cases ha : areQB a with
  | false =>
    have HE : Hid (spansL a f = []) := Lib.hid (spansL_no (by rw [ha, Bool.false_and]))
    rw [ha] at HA
    rw [HE.out]
    clear HF HE ha HLN HST
    have oe := ownsP_empty w
    have be := (Below.refl w.heap.size w).alloc (Nat.le_refl _) (.cells #[] 34)
    go_enter Tryd.func7, Tryd.ntmps7
    go_wp2_with fail
    generalize w.alloc (.cells #[] 34) = W0 at *
    refine (HA.out _ (queriesR_below H.out be)).mono ?_
    rintro e w1 ⟨rfl, b1⟩
    have b2 := be.trans (b1.mono be.size)
    have o2 := ownsP_below oe b1
    clear b1 oe be
    go_wp2
    go_ret
    exact ⟨_, rfl, o2, b2⟩
  | true =>
    rw [ha] at HA
    cases hf : okF f with
    | false =>
      have HE : Hid (spansL a f = []) := Lib.hid (spansL_no (by rw [ha, hf, Bool.and_false]))
      rw [hf] at HF
      rw [HE.out]
      clear HE ha hf HLN HST
      have oe := ownsP_empty w
      have be := (Below.refl w.heap.size w).alloc (Nat.le_refl _) (.cells #[] 34)
      go_enter Tryd.func7, Tryd.ntmps7
      go_wp2_with fail
      generalize w.alloc (.cells #[] 34) = W0 at *
      refine (HA.out _ (queriesR_below H.out be)).mono ?_
      rintro e w1 ⟨rfl, b1⟩
      have b2 := be.trans (b1.mono be.size)
      have o2 := ownsP_below oe b1
      clear b1 oe be
      go_wp2_with fail
      refine (HF.out _).mono ?_
      rintro e w2 ⟨rfl, rfl⟩
      go_wp2
      go_ret
      exact ⟨_, rfl, o2, b2⟩
    | true =>
      have HE : Hid (spansL a f = spansTo (stabL a f) 100) := Lib.hid (spansL_yes (by rw [ha, hf, Bool.and_self]))
      rw [hf] at HF
      rw [HE.out]
      obtain ⟨F, hF⟩ : ∃ F : Int → List Int, stabL a f = F := ⟨_, rfl⟩
      rw [hF] at HFL HLN HST ⊢
      obtain ⟨R, hR⟩ : ∃ R, spansTo F 100 = R := ⟨_, rfl⟩
      rw [hR]
      have HR := Lib.hid hR
      clear HE ha hf hF hR
      have oe := ownsP_empty w
      have be := (Below.refl w.heap.size w).alloc (Nat.le_refl _) (.cells #[] 34)
      go_enter Tryd.func7, Tryd.ntmps7
      go_wp2_with fail
      generalize w.alloc (.cells #[] 34) = W0 at *
      refine (HA.out _ (queriesR_below H.out be)).mono ?_
      rintro e w1 ⟨rfl, b1⟩
      have b2 := be.trans (b1.mono be.size)
      have o2 := ownsP_below oe b1
      clear b1 oe be
      go_wp2_with fail
      refine (HF.out _).mono ?_
      rintro e w2 ⟨rfl, rfl⟩
      go_wp2
      go_loopw [5, 6] (fun o i wr => ∃ k : Nat, k ≤ 100 ∧ i = .int .i64 k ∧ OwnsP wr w.heap.size o (spansTo F k) ∧ Below w.heap.size w wr) (fun _ i _ => 100 - (intOf i).toNat)
      case atStart => exact ⟨0, Nat.zero_le _, rfl, o2, b2⟩
      case round =>
        obtain ⟨k, hk, rfl, hown, hbel⟩ := hrel
        by_cases hlt : k < 100
        · have i1 : (0 : Int) ≤ (k : Int) := by omega
          have i2 : (k : Int) ≤ 99 := by omega
          have i4 : (k : Int) < 100 := by omega
          have HAL : Hid ((spansTo F k).length ≤ 100) := Lib.hid (by have := spansTo_len F k; omega)
          have HSL : Hid ((F (k : Int)).length ≤ 24) := Lib.hid (HLN.out k)
          have HST1 : Hid (0 < (spansTo F k).length → ((spansTo F k).getD ((spansTo F k).length - 1) p0D).2.2 = F (k : Int) → (spansTo F k).set ((spansTo F k).length - 1) (((spansTo F k).getD ((spansTo F k).length - 1) p0D).1, (k : Int), ((spansTo F k).getD ((spansTo F k).length - 1) p0D).2.2) = spansTo F (k + 1)) := Lib.hid (fun h0 h => stepP_set h0 h)
          have HST2 : Hid (¬ (0 < (spansTo F k).length ∧ ((spansTo F k).getD ((spansTo F k).length - 1) p0D).2.2 = F (k : Int)) → spansTo F k ++ [((k : Int), (k : Int), F (k : Int))] = spansTo F (k + 1)) := Lib.hid (fun h => stepP_app h)
          have HSTL : Hid (∀ j, j < (spansTo F k).length → ((spansTo F k).getD j p0D).2.2.length ≤ 24) := Lib.hid (fun j hj => (spansTo_sets (F := F) (M := 24) (fun v => HFL.out v) k _ (getD_mem hj)))
          generalize spansTo F k = acc at *
          obtain ⟨oa, ocap, rfl⟩ := ownsP_len hown
          have HOW := Lib.hid hown
          have HBL := Lib.hid hbel
          clear hown hbel
          go_wp2_with fail
          refine (HST.out k _ (queriesR_below H.out HBL.out)).mono ?_
          rintro e v1 ⟨su, rfl, os, b1⟩
          generalize F (k : Int) = s at *
          obtain ⟨sa, sc, rfl⟩ := ints_len (ownsN_ints os)
          have HOS := Lib.hid os
          have HB1 := Lib.hid b1
          clear os b1
          by_cases hp : 0 < acc.length
          · have hp2 : (0 : Int) < (acc.length : Int) := by omega
            obtain ⟨g, cap2, hv, hBg, hgw, hfz, vv, hc2, hc1, hI⟩ := ownsP_shape HOW.out hp
            simp only [Value.slice.injEq, true_and] at hv
            obtain ⟨rfl, rfl⟩ := hv
            obtain ⟨va2, vcap2, rfl⟩ := ints_len hI
            have d2 := (HB1.out.cell (p := ⟨g, (acc.length - 1) * 3 + 2, none⟩) hgw).trans hc2
            have d1 := (HB1.out.cell (p := ⟨g, (acc.length - 1) * 3 + 1, none⟩) hgw).trans hc1
            have HI1 := Lib.hid (ints_below hI HB1.out)
            have hxl := HSTL.out _ (show acc.length - 1 < acc.length by omega)
            obtain ⟨m, hm⟩ : ∃ m, acc.length = m + 1 := ⟨acc.length - 1, by omega⟩
            have HM := Lib.hid hm
            rw [show acc.length - 1 = m by omega] at d1 d2 HI1 hxl HST1 HST2
            have HW1 := Lib.hid (fun (u : World) (h : OwnsP u w.heap.size (.slice (some ⟨g, 0, none⟩) acc.length ocap) acc) => ownsP_to h (k := m) (by have := HM.out; omega) (k : Int))
            have HOW1 := Lib.hid (ownsP_below HOW.out HB1.out)
            rw [hm] at HOW HOW1 HW1
            have hm9 : m ≤ 99 := by have := HAL.out; omega
            have HMR := Lib.hid hp
            clear hc1 hc2 hI hfz HSTL hp hp2
            have hp2 : (0 : Int) < (m : Int) + 1 := by omega
            have hp3 : (m : Int) < (m : Int) + 1 := by omega
            have hp4 : (0 : Int) ≤ (m : Int) := by omega
            clear hm
            obtain ⟨r, hr⟩ : ∃ r, acc.getD m p0D = r := ⟨_, rfl⟩
            rw [hr] at d1 d2 HI1 hxl HST1 HST2 HW1
            clear hr
            obtain ⟨rf, rt, xs⟩ := r
            simp only at d1 d2 HI1 hxl HST1 HST2 HW1
            rw [HM.out]
            go_wp2_with fail
            refine (specInts (.slice va2 xs.length vcap2) (.slice sa s.length sc) xs s _ HI1.out (ownsN_ints HOS.out) (by omega) (by have := HSL.out; omega)).mono ?_
            rintro e v2 ⟨rfl, b2⟩
            have e1 := (b2.cell (p := ⟨g, m * 3 + 1, none⟩) (Nat.lt_of_lt_of_le hgw HB1.out.size)).trans d1
            have HO2 := Lib.hid (ownsP_below HOW1.out b2)
            have HC2 := Lib.hid ((HBL.out.trans (HB1.out.mono HBL.out.size)).trans (b2.mono (HBL.out.trans (HB1.out.mono HBL.out.size)).size))
            have HS2 := Lib.hid (ownsN_below HOS.out b2)
            clear d1 d2 HI1 HOW1
            cases hd : decide (xs = s) with
            | true =>
              have HX := Lib.hid (HST1.out (by have := HM.out; omega) (of_decide_eq_true hd))
              clear hd HST1 HST2
              have fz : v2.frozen? ⟨g, m * 3 + 1, none⟩ = false := by
                obtain ⟨cs2, vs2, q1, _⟩ := HO2.out
                rw [HM.out] at q1
                exact World.ownsRow.frozenAt q1 _
              have FO := Lib.hid (HW1.out v2 HO2.out)
              rw [HX.out] at FO
              have B4 := HC2.out.setCell (p := ⟨g, m * 3 + 1, none⟩) hBg (.int .i64 (k : Int))
              clear b2 HW1
              go_wp2
              go_roundw
              case rel => exact ⟨k + 1, by omega, by go_num, FO.out, B4⟩
              case measure => simp [intOf]; omega
            | false =>
              have HX := Lib.hid (HST2.out (fun g => of_decide_eq_false hd g.2))
              clear hd HST2 e1
              have HBW := Lib.hid (HB1.out.trans (b2.mono HB1.out.size))
              clear b2
              clear HST1 HW1 hp2 hp3 hp4
              obtain ⟨cs, vs, q1, q2, q3⟩ := HOW.out
              have HL1 := Lib.hid (fun (j : Nat) (hj : j < acc.length) (q : Nat) (e : (vs j).ownBlock = some q) => ((q2 j hj).2.2.2.1.lt q e).2)
              have HL2 := Lib.hid (fun (q : Nat) e => (q1.lt q e).2)
              have hbb := HBW.out
              have H1 := Lib.hid (ownsRow_below q1 hbb)
              have H2 := Lib.hid (fun (j : Nat) (hj : j < acc.length) => (⟨(q2 j hj).1, (q2 j hj).2.1, (q2 j hj).2.2.1, ownsN_below (q2 j hj).2.2.2.1 hbb, (q2 j hj).2.2.2.2⟩ : _ ∧ _ ∧ _ ∧ _ ∧ _))
              have H3 := Lib.hid q3
              have hal : Below v2.heap.size v2 (v2.alloc (.cells #[.int .i64 (k : Int), .int .i64 (k : Int), .slice sa s.length sc] 34)) := (Below.refl _ _).alloc (Nat.le_refl _) _
              have HAL2 := Lib.hid hal
              have HCA := Lib.hid (HC2.out.trans (hal.mono HC2.out.size))
              have oX : SpansC (v2.alloc (.cells #[.int .i64 (k : Int), .int .i64 (k : Int), .slice sa s.length sc] 34)) w.heap.size _ acc.length cs := spansC_kept H1.out hal
              rw [HM.out] at oX
              clear hal q1 q2 q3 hbb
              go_wp2_with (at_builtin; refine append_spans rfl (.tmp 47) (.tmp 52) rfl w.heap.size _ _ _ rfl oX HCA.out.size ⟨v2.heap.size, 0, none⟩ 1 1 [.int .i64 (k : Int), .int .i64 (k : Int), .slice sa s.length sc] rfl rfl (fun j u hj => by rw [Go.WideShapes.add_plain, Nat.zero_add, cell_lit]; simpa using hj) (by intro u hu; simp at hu; rcases hu with rfl | rfl | rfl <;> rfl) (by have := HAL.out; omega) ?_)
              intro x3 W3 oX3 gX3 _ hat3
              have oX4 : SpansC W3 w.heap.size x3 (acc.length + 1) (cs ++ [.int .i64 (k : Int), .int .i64 (k : Int), .slice sa s.length sc]) := by
                rw [HM.out]; exact oX3
              skip
              have FO := append_ownsP (r := ((k : Int), (k : Int), s)) H1.out H2.out H3.out HL1.out HL2.out HBL.out.size HS2.out HAL2.out gX3 oX4 (by simpa [World.size_alloc] using hat3)
              have FB := HCA.out.grown gX3 HCA.out.size (fun q e => (H1.out.lt q e).1)
              rw [HX.out] at FO
              clear oX oX3 oX4 gX3 hat3
              go_wp2
              go_roundw
              case rel => exact ⟨k + 1, by omega, by go_num, FO, FB⟩
              case measure => simp [intOf]; omega
          · have hz : acc.length = 0 := by omega
            have HX := Lib.hid (HST2.out (fun g => hp g.1))
            have HO2 := Lib.hid (ownsP_below HOW.out HB1.out)
            have HC2 := Lib.hid (HBL.out.trans (HB1.out.mono HBL.out.size))
            have HS2 := HOS
            have HBW := HB1
            clear HST2 hp HSTL
            rw [hz]
            clear HST1
            obtain ⟨cs, vs, q1, q2, q3⟩ := HOW.out
            have HL1 := Lib.hid (fun (j : Nat) (hj : j < acc.length) (q : Nat) (e : (vs j).ownBlock = some q) => ((q2 j hj).2.2.2.1.lt q e).2)
            have HL2 := Lib.hid (fun (q : Nat) e => (q1.lt q e).2)
            have hbb := HBW.out
            have H1 := Lib.hid (ownsRow_below q1 hbb)
            have H2 := Lib.hid (fun (j : Nat) (hj : j < acc.length) => (⟨(q2 j hj).1, (q2 j hj).2.1, (q2 j hj).2.2.1, ownsN_below (q2 j hj).2.2.2.1 hbb, (q2 j hj).2.2.2.2⟩ : _ ∧ _ ∧ _ ∧ _ ∧ _))
            have H3 := Lib.hid q3
            have hal : Below v1.heap.size v1 (v1.alloc (.cells #[.int .i64 (k : Int), .int .i64 (k : Int), .slice sa s.length sc] 34)) := (Below.refl _ _).alloc (Nat.le_refl _) _
            have HAL2 := Lib.hid hal
            have HCA := Lib.hid (HC2.out.trans (hal.mono HC2.out.size))
            have oX : SpansC (v1.alloc (.cells #[.int .i64 (k : Int), .int .i64 (k : Int), .slice sa s.length sc] 34)) w.heap.size _ acc.length cs := spansC_kept H1.out hal
            rw [hz] at oX
            clear hal q1 q2 q3 hbb
            go_wp2_with (at_builtin; refine append_spans rfl (.tmp 47) (.tmp 52) rfl w.heap.size _ _ _ rfl oX HCA.out.size ⟨v1.heap.size, 0, none⟩ 1 1 [.int .i64 (k : Int), .int .i64 (k : Int), .slice sa s.length sc] rfl rfl (fun j u hj => by rw [Go.WideShapes.add_plain, Nat.zero_add, cell_lit]; simpa using hj) (by intro u hu; simp at hu; rcases hu with rfl | rfl | rfl <;> rfl) (by have := HAL.out; omega) ?_)
            intro x3 W3 oX3 gX3 _ hat3
            have oX4 : SpansC W3 w.heap.size x3 (acc.length + 1) (cs ++ [.int .i64 (k : Int), .int .i64 (k : Int), .slice sa s.length sc]) := by
              rw [hz]; exact oX3
            rw [show (Value.slice oa 0 ocap).ownBlock = (Value.slice oa acc.length ocap).ownBlock by rw [hz]] at gX3 hat3
            have FO := append_ownsP (r := ((k : Int), (k : Int), s)) H1.out H2.out H3.out HL1.out HL2.out HBL.out.size HS2.out HAL2.out gX3 oX4 (by simpa [World.size_alloc] using hat3)
            have FB := HCA.out.grown gX3 HCA.out.size (fun q e => (H1.out.lt q e).1)
            rw [HX.out] at FO
            clear oX oX3 oX4 gX3 hat3
            go_wp2
            go_roundw
            case rel => exact ⟨k + 1, by omega, by go_num, FO, FB⟩
            case measure => simp [intOf]; omega
        · obtain rfl : k = 100 := by omega
          rw [HR.out] at hown
          have i2 : ¬ ((100 : Nat) : Int) ≤ 99 := by omega
          have i3 : ¬ ((100 : Nat) : Int) < 100 := by omega
          obtain ⟨oa, ocap, rfl⟩ := ownsP_len hown
          go_wp2
          go_ret
          exact ⟨_, rfl, hown, hbel⟩
end Go.Proofs.YtmkcfkblfjhnhaaDoor
namespace Go.Proofs.YtmkcfkblfjhnhaaDoor
open Go.RowKit
set_option linter.unusedVariables false
set_option linter.unusedSimpArgs false
theorem zpL_len {rs : List SpanD} (hs : zpL rs ≤ 1048576) : rs.length ≤ 1048576 := by
  have := zpTo_le (rs := rs) (Nat.zero_le _); rw [zpTo_zero] at this; omega
theorem spans_ne_at {rs ss : List SpanD} {k : Nat} (h : ¬ rs.getD k p0D = ss.getD k p0D) : ¬ rs = ss := fun e => h (by rw [e])
theorem spans_eq_all {rs ss : List SpanD} (hl : rs.length = ss.length) (h : ∀ j, j < rs.length → rs.getD j p0D = ss.getD j p0D) : rs = ss := by
  apply List.ext_getElem hl
  intro i h1 h2
  have := h i h1
  simpa [List.getD, h1, h2] using this
set_option maxHeartbeats 16000000 in
set_option maxRecDepth 100000 in
theorem specEqSpans (v u : Value) (rs ss : List SpanD) (w : World) (h : SpansR w v rs) (g : SpansR w u ss) (hs : zpL rs ≤ 1048576) (ht : zpL ss ≤ 1048576) :
    Calls Tryd.prog 8 #[v, u] w fun e w' => e = .returned (.bool (decide (rs = ss))) ∧ Below w.heap.size w w' := by
  have H := Lib.hid h
  have G := Lib.hid g
  have HS := Lib.hid hs
  have HT := Lib.hid ht
  have hlen := zpL_len hs
  obtain ⟨a, cap, rfl⟩ := spansR_len h
  obtain ⟨a2, cap2, rfl⟩ := spansR_len g
  clear h g hs ht
  by_cases hl : rs.length = ss.length
  · have HL := Lib.hid hl
    have hne : ((rs.length : Int) != (ss.length : Int)) = false := by rw [hl]; simp
    clear hl
    go_enter Tryd.func8, Tryd.ntmps8
    go_wp2
    clear hne
    go_loopw [5] (fun i wr => ∃ k : Nat, k ≤ rs.length ∧ i = .int .i64 k ∧ Hid (∀ j, j < k → rs.getD j p0D = ss.getD j p0D) ∧ Below w.heap.size w wr) (fun i _ => rs.length - (intOf i).toNat)
    case atStart => exact ⟨0, Nat.zero_le _, rfl, Lib.hid (fun j hj => by omega), Below.refl _ _⟩
    case round =>
      obtain ⟨k, hk, rfl, hall, hbel⟩ := hrel
      by_cases hlt : k < rs.length
      · have hlt2 : k < ss.length := by have := HL.out; omega
        obtain ⟨b, off, cap', vv, hv, hbl, hc1, hc2, hc3, hI⟩ := spansR_at (spansR_below H.out hbel) hlt
        simp only [Value.slice.injEq] at hv
        obtain ⟨rfl, _, rfl⟩ := hv
        obtain ⟨b2, off2, cap2', uv, hv2, hbl2, hd1, hd2, hd3, hJ⟩ := spansR_at (spansR_below G.out hbel) hlt2
        simp only [Value.slice.injEq] at hv2
        obtain ⟨rfl, _, rfl⟩ := hv2
        have hxl := zpL_span HS.out hlt
        have hyl := zpL_span HT.out hlt2
        have i1 : (0 : Int) ≤ (k : Int) := by omega
        have i2 : (k : Int) < (rs.length : Int) := by omega
        have i3 : (k : Int) < (ss.length : Int) := by omega
        have HNE := Lib.hid (fun e => decide_eq_false (spans_ne_at (rs := rs) (ss := ss) (k := k) e))
        have HALL : Hid (rs.getD k p0D = ss.getD k p0D → ∀ j, j < k + 1 → rs.getD j p0D = ss.getD j p0D) := Lib.hid (fun he j hj => by
          by_cases e : j = k
          · exact e ▸ he
          · exact hall.out j (by omega))
        clear hall
        generalize rs.getD k p0D = r at *
        generalize ss.getD k p0D = q at *
        obtain ⟨sf, st, xs⟩ := r
        obtain ⟨tf, tt, ys⟩ := q
        simp only at hc1 hc2 hc3 hd1 hd2 hd3 hI hJ hxl hyl
        have HII := Lib.hid hI
        have HJJ := Lib.hid hJ
        have HSI := Lib.hid (fun w h g => specInts vv uv xs ys w h g hxl hyl)
        clear hI hJ hxl hyl
        by_cases hf : sf = tf
        · subst hf
          have ef : (sf != sf) = false := by simp
          by_cases ht : st = tt
          · subst ht
            have et : (st != st) = false := by simp
            by_cases hx : xs = ys
            · have HA := Lib.hid (HALL.out (by rw [hx]))
              rw [decide_eq_true hx] at HSI
              clear hx HNE HALL
              go_wp2
              refine wp_region_held_drew (S := fun w' => w'.cell? ⟨b, off + k * 3, none⟩ = some (.int .i64 sf) ∧ w'.cell? ⟨b, off + k * 3 + 1, none⟩ = some (.int .i64 st) ∧ w'.cell? ⟨b, off + k * 3 + 2, none⟩ = some vv ∧ w'.cell? ⟨b2, off2 + k * 3, none⟩ = some (.int .i64 sf) ∧ w'.cell? ⟨b2, off2 + k * 3 + 1, none⟩ = some (.int .i64 st) ∧ w'.cell? ⟨b2, off2 + k * 3 + 2, none⟩ = some uv) (by kernel_rfl) ⟨hc1, hc2, hc3, hd1, hd2, hd3⟩ (fun hHeld => ?_)
              refine take_runs (i := 0) (v := ?_) (by simp only [List.getElem?_toArray, List.getElem?_cons_succ, List.getElem?_cons_zero]; rfl) (by kernel_rfl) (by kernel_rfl) (by kernel_rfl) rfl (by exact fun _ _ _ h => h) (by rfl) ?_ (by assumption) ?_
              rotate_left
              · intro w hSw; (try dsimp only at hSw); go_simp; try (with_reducible rfl)
              try simp only [Act.put, List.setIfInBounds_toArray, List.set_cons_zero, List.set_cons_succ]
              refine take_runs (i := 1) (v := ?_) (by simp only [List.getElem?_toArray, List.getElem?_cons_succ, List.getElem?_cons_zero]; rfl) (by kernel_rfl) (by kernel_rfl) (by kernel_rfl) rfl (by exact fun _ _ _ h => h) (by rfl) ?_ (by assumption) ?_
              rotate_left
              · intro w hSw; (try dsimp only at hSw); go_simp; try (with_reducible rfl)
              try simp only [Act.put, List.setIfInBounds_toArray, List.set_cons_zero, List.set_cons_succ]
              refine take_runs (i := 2) (v := ?_) (by simp only [List.getElem?_toArray, List.getElem?_cons_succ, List.getElem?_cons_zero]; rfl) (by kernel_rfl) (by kernel_rfl) (by kernel_rfl) rfl (by exact fun _ _ _ h => h) (by rfl) ?_ (by assumption) ?_
              rotate_left
              · intro w hSw; (try dsimp only at hSw); go_simp; try (with_reducible rfl)
              try simp only [Act.put, List.setIfInBounds_toArray, List.set_cons_zero, List.set_cons_succ]
              refine take_runs (i := 3) (v := ?_) (by simp only [List.getElem?_toArray, List.getElem?_cons_succ, List.getElem?_cons_zero]; rfl) (by kernel_rfl) (by kernel_rfl) (by kernel_rfl) rfl (by exact fun _ _ _ h => h) (by rfl) ?_ (by assumption) ?_
              rotate_left
              · intro w hSw; (try dsimp only at hSw); go_simp; try (with_reducible rfl)
              try simp only [Act.put, List.setIfInBounds_toArray, List.set_cons_zero, List.set_cons_succ]
              refine take_runs (i := 4) (v := ?_) (by simp only [List.getElem?_toArray, List.getElem?_cons_succ, List.getElem?_cons_zero]; rfl) (by kernel_rfl) (by kernel_rfl) (by kernel_rfl) rfl (by exact fun _ _ _ h => h) (by rfl) ?_ (by assumption) ?_
              rotate_left
              · intro w hSw; (try dsimp only at hSw); go_simp; try (with_reducible rfl)
              try simp only [Act.put, List.setIfInBounds_toArray, List.set_cons_zero, List.set_cons_succ]
              refine take_runs (i := 5) (v := ?_) (by simp only [List.getElem?_toArray, List.getElem?_cons_succ, List.getElem?_cons_zero]; rfl) (by kernel_rfl) (by kernel_rfl) (by kernel_rfl) rfl (by exact fun _ _ _ h => h) (by rfl) ?_ (by assumption) ?_
              rotate_left
              · intro w hSw; (try dsimp only at hSw); go_simp; try (with_reducible rfl)
              try simp only [Act.put, List.setIfInBounds_toArray, List.set_cons_zero, List.set_cons_succ]
              refine take_runs (i := 6) (v := ?_) (by simp only [List.getElem?_toArray, List.getElem?_cons_succ, List.getElem?_cons_zero]; rfl) (by kernel_rfl) (by kernel_rfl) (by kernel_rfl) rfl (by exact fun _ _ _ h => h) (by rfl) ?_ (by assumption) ?_
              rotate_left
              · intro w hSw; (try dsimp only at hSw); go_simp; try (with_reducible rfl)
              try simp only [Act.put, List.setIfInBounds_toArray, List.set_cons_zero, List.set_cons_succ]
              refine take_runs (i := 7) (v := ?_) (by simp only [List.getElem?_toArray, List.getElem?_cons_succ, List.getElem?_cons_zero]; rfl) (by kernel_rfl) (by kernel_rfl) (by kernel_rfl) rfl (by exact fun _ _ _ h => h) (by rfl) ?_ (by assumption) ?_
              rotate_left
              · intro w hSw; (try dsimp only at hSw); go_simp; try (with_reducible rfl)
              try simp only [Act.put, List.setIfInBounds_toArray, List.set_cons_zero, List.set_cons_succ]
              refine take_runs (i := 8) (v := ?_) (by simp only [List.getElem?_toArray, List.getElem?_cons_succ, List.getElem?_cons_zero]; rfl) (by kernel_rfl) (by kernel_rfl) (by kernel_rfl) rfl (by exact fun _ _ _ h => h) (by rfl) ?_ (by assumption) ?_
              rotate_left
              · intro w hSw; (try dsimp only at hSw); go_simp; try (with_reducible rfl)
              try simp only [Act.put, List.setIfInBounds_toArray, List.set_cons_zero, List.set_cons_succ]
              refine take_runs (i := 9) (v := ?_) (by simp only [List.getElem?_toArray, List.getElem?_cons_succ, List.getElem?_cons_zero]; rfl) (by kernel_rfl) (by kernel_rfl) (by kernel_rfl) rfl (by exact fun _ _ _ h => h) (by rfl) ?_ (by assumption) ?_
              rotate_left
              · intro w hSw; (try dsimp only at hSw); go_simp; try (with_reducible rfl)
              try simp only [Act.put, List.setIfInBounds_toArray, List.set_cons_zero, List.set_cons_succ]
              refine take_runs (i := 10) (v := ?_) (by simp only [List.getElem?_toArray, List.getElem?_cons_succ, List.getElem?_cons_zero]; rfl) (by kernel_rfl) (by kernel_rfl) (by kernel_rfl) rfl (by exact fun _ _ _ h => h) (by rfl) ?_ (by assumption) ?_
              rotate_left
              · intro w hSw; (try dsimp only at hSw); go_simp; try (with_reducible rfl)
              try simp only [Act.put, List.setIfInBounds_toArray, List.set_cons_zero, List.set_cons_succ]
              refine take_runs (i := 11) (v := ?_) (by simp only [List.getElem?_toArray, List.getElem?_cons_succ, List.getElem?_cons_zero]; rfl) (by kernel_rfl) (by kernel_rfl) (by kernel_rfl) rfl (by exact fun _ _ _ h => h) (by rfl) ?_ (by assumption) ?_
              rotate_left
              · intro w hSw; (try dsimp only at hSw); go_simp; try (with_reducible rfl)
              try simp only [Act.put, List.setIfInBounds_toArray, List.set_cons_zero, List.set_cons_succ]
              refine take_runs (i := 12) (v := ?_) (by simp only [List.getElem?_toArray, List.getElem?_cons_succ, List.getElem?_cons_zero]; rfl) (by kernel_rfl) (by kernel_rfl) (by kernel_rfl) rfl (by exact fun _ _ _ h => h) (by rfl) ?_ (by assumption) ?_
              rotate_left
              · intro w hSw; (try dsimp only at hSw); go_simp; try (with_reducible rfl)
              try simp only [Act.put, List.setIfInBounds_toArray, List.set_cons_zero, List.set_cons_succ]
              refine take_runs (i := 13) (v := ?_) (by simp only [List.getElem?_toArray, List.getElem?_cons_succ, List.getElem?_cons_zero]; rfl) (by kernel_rfl) (by kernel_rfl) (by kernel_rfl) rfl (by exact fun _ _ _ h => h) (by rfl) ?_ (by assumption) ?_
              rotate_left
              · intro w hSw; (try dsimp only at hSw); go_simp; try (with_reducible rfl)
              try simp only [Act.put, List.setIfInBounds_toArray, List.set_cons_zero, List.set_cons_succ]
              refine take_runs (i := 14) (v := ?_) (by simp only [List.getElem?_toArray, List.getElem?_cons_succ, List.getElem?_cons_zero]; rfl) (by kernel_rfl) (by kernel_rfl) (by kernel_rfl) rfl (by exact fun _ _ _ h => h) (by rfl) ?_ (by assumption) ?_
              rotate_left
              · intro w hSw; (try dsimp only at hSw); go_simp; try (with_reducible rfl)
              try simp only [Act.put, List.setIfInBounds_toArray, List.set_cons_zero, List.set_cons_succ]
              refine take_runs (i := 15) (v := ?_) (by simp only [List.getElem?_toArray, List.getElem?_cons_succ, List.getElem?_cons_zero]; rfl) (by kernel_rfl) (by kernel_rfl) (by kernel_rfl) rfl (by exact fun _ _ _ h => h) (by rfl) ?_ (by assumption) ?_
              rotate_left
              · intro w hSw; (try dsimp only at hSw); go_simp; try (with_reducible rfl)
              try simp only [Act.put, List.setIfInBounds_toArray, List.set_cons_zero, List.set_cons_succ]
              refine take_runs (i := 16) (v := ?_) (by simp only [List.getElem?_toArray, List.getElem?_cons_succ, List.getElem?_cons_zero]; rfl) (by kernel_rfl) (by kernel_rfl) (by kernel_rfl) rfl (by exact fun _ _ _ h => h) (by rfl) ?_ (by assumption) ?_
              rotate_left
              · intro w hSw; (try dsimp only at hSw); go_simp; try (with_reducible rfl)
              try simp only [Act.put, List.setIfInBounds_toArray, List.set_cons_zero, List.set_cons_succ]
              refine take_runs (i := 17) (v := ?_) (by simp only [List.getElem?_toArray, List.getElem?_cons_succ, List.getElem?_cons_zero]; rfl) (by kernel_rfl) (by kernel_rfl) (by kernel_rfl) rfl (by exact fun _ _ _ h => h) (by rfl) ?_ (by assumption) ?_
              rotate_left
              · intro w hSw; (try dsimp only at hSw); go_simp; try (with_reducible rfl)
              try simp only [Act.put, List.setIfInBounds_toArray, List.set_cons_zero, List.set_cons_succ]
              refine take_runs (i := 18) (v := ?_) (by simp only [List.getElem?_toArray, List.getElem?_cons_succ, List.getElem?_cons_zero]; rfl) (by kernel_rfl) (by kernel_rfl) (by kernel_rfl) rfl (by exact fun _ _ _ h => h) (by rfl) ?_ (by assumption) ?_
              rotate_left
              · intro w hSw; (try dsimp only at hSw); go_simp; try (with_reducible rfl)
              try simp only [Act.put, List.setIfInBounds_toArray, List.set_cons_zero, List.set_cons_succ]
              refine take_runs (i := 19) (v := ?_) (by simp only [List.getElem?_toArray, List.getElem?_cons_succ, List.getElem?_cons_zero]; rfl) (by kernel_rfl) (by kernel_rfl) (by kernel_rfl) rfl (by exact fun _ _ _ h => h) (by rfl) ?_ (by assumption) ?_
              rotate_left
              · intro w hSw; (try dsimp only at hSw); go_simp; try (with_reducible rfl)
              try simp only [Act.put, List.setIfInBounds_toArray, List.set_cons_zero, List.set_cons_succ]
              refine take_runs (i := 20) (v := ?_) (by simp only [List.getElem?_toArray, List.getElem?_cons_succ, List.getElem?_cons_zero]; rfl) (by kernel_rfl) (by kernel_rfl) (by kernel_rfl) rfl (by exact fun _ _ _ h => h) (by rfl) ?_ (by assumption) ?_
              rotate_left
              · intro w hSw; (try dsimp only at hSw); go_simp; try (with_reducible rfl)
              try simp only [Act.put, List.setIfInBounds_toArray, List.set_cons_zero, List.set_cons_succ]
              refine take_runs (i := 21) (v := ?_) (by simp only [List.getElem?_toArray, List.getElem?_cons_succ, List.getElem?_cons_zero]; rfl) (by kernel_rfl) (by kernel_rfl) (by kernel_rfl) rfl (by exact fun _ _ _ h => h) (by rfl) ?_ (by assumption) ?_
              rotate_left
              · intro w hSw; (try dsimp only at hSw); go_simp; try (with_reducible rfl)
              try simp only [Act.put, List.setIfInBounds_toArray, List.set_cons_zero, List.set_cons_succ]
              refine take_runs (i := 22) (v := ?_) (by simp only [List.getElem?_toArray, List.getElem?_cons_succ, List.getElem?_cons_zero]; rfl) (by kernel_rfl) (by kernel_rfl) (by kernel_rfl) rfl (by exact fun _ _ _ h => h) (by rfl) ?_ (by assumption) ?_
              rotate_left
              · intro w hSw; (try dsimp only at hSw); go_simp; try (with_reducible rfl)
              try simp only [Act.put, List.setIfInBounds_toArray, List.set_cons_zero, List.set_cons_succ]
              refine take_runs (i := 23) (v := ?_) (by simp only [List.getElem?_toArray, List.getElem?_cons_succ, List.getElem?_cons_zero]; rfl) (by kernel_rfl) (by kernel_rfl) (by kernel_rfl) rfl (by exact fun _ _ _ h => h) (by rfl) ?_ (by assumption) ?_
              rotate_left
              · intro w hSw; (try dsimp only at hSw); go_simp; try (with_reducible rfl)
              try simp only [Act.put, List.setIfInBounds_toArray, List.set_cons_zero, List.set_cons_succ]
              refine take_runs (i := 24) (v := ?_) (by simp only [List.getElem?_toArray, List.getElem?_cons_succ, List.getElem?_cons_zero]; rfl) (by kernel_rfl) (by kernel_rfl) (by kernel_rfl) rfl (by exact fun _ _ _ h => h) (by rfl) ?_ (by assumption) ?_
              rotate_left
              · intro w hSw; (try dsimp only at hSw); go_simp; try (with_reducible rfl)
              try simp only [Act.put, List.setIfInBounds_toArray, List.set_cons_zero, List.set_cons_succ]
              refine take_runs (i := 25) (v := ?_) (by simp only [List.getElem?_toArray, List.getElem?_cons_succ, List.getElem?_cons_zero]; rfl) (by kernel_rfl) (by kernel_rfl) (by kernel_rfl) rfl (by exact fun _ _ _ h => h) (by rfl) ?_ (by assumption) ?_
              rotate_left
              · intro w hSw; (try dsimp only at hSw); go_simp; try (with_reducible rfl)
              try simp only [Act.put, List.setIfInBounds_toArray, List.set_cons_zero, List.set_cons_succ]
              refine take_runs (i := 26) (v := ?_) (by simp only [List.getElem?_toArray, List.getElem?_cons_succ, List.getElem?_cons_zero]; rfl) (by kernel_rfl) (by kernel_rfl) (by kernel_rfl) rfl (by exact fun _ _ _ h => h) (by rfl) ?_ (by assumption) ?_
              rotate_left
              · intro w hSw; (try dsimp only at hSw); go_simp; try (with_reducible rfl)
              try simp only [Act.put, List.setIfInBounds_toArray, List.set_cons_zero, List.set_cons_succ]
              refine take_runs (i := 27) (v := ?_) (by simp only [List.getElem?_toArray, List.getElem?_cons_succ, List.getElem?_cons_zero]; rfl) (by kernel_rfl) (by kernel_rfl) (by kernel_rfl) rfl (by exact fun _ _ _ h => h) (by rfl) ?_ (by assumption) ?_
              rotate_left
              · intro w hSw; (try dsimp only at hSw); go_simp; try (with_reducible rfl)
              try simp only [Act.put, List.setIfInBounds_toArray, List.set_cons_zero, List.set_cons_succ]
              refine take_runs (i := 28) (v := ?_) (by simp only [List.getElem?_toArray, List.getElem?_cons_succ, List.getElem?_cons_zero]; rfl) (by kernel_rfl) (by kernel_rfl) (by kernel_rfl) rfl (by exact fun _ _ _ h => h) (by rfl) ?_ (by assumption) ?_
              rotate_left
              · intro w hSw; (try dsimp only at hSw); go_simp; try (with_reducible rfl)
              try simp only [Act.put, List.setIfInBounds_toArray, List.set_cons_zero, List.set_cons_succ]
              refine take_runs (i := 29) (v := ?_) (by simp only [List.getElem?_toArray, List.getElem?_cons_succ, List.getElem?_cons_zero]; rfl) (by kernel_rfl) (by kernel_rfl) (by kernel_rfl) rfl (by exact fun _ _ _ h => h) (by rfl) ?_ (by assumption) ?_
              rotate_left
              · intro w hSw; (try dsimp only at hSw); go_simp; try (with_reducible rfl)
              try simp only [Act.put, List.setIfInBounds_toArray, List.set_cons_zero, List.set_cons_succ]
              refine take_runs (i := 30) (v := ?_) (by simp only [List.getElem?_toArray, List.getElem?_cons_succ, List.getElem?_cons_zero]; rfl) (by kernel_rfl) (by kernel_rfl) (by kernel_rfl) rfl (by exact fun _ _ _ h => h) (by rfl) ?_ (by assumption) ?_
              rotate_left
              · intro w hSw; (try dsimp only at hSw); go_simp; try (with_reducible rfl)
              try simp only [Act.put, List.setIfInBounds_toArray, List.set_cons_zero, List.set_cons_succ]
              refine take_runs (i := 31) (v := ?_) (by simp only [List.getElem?_toArray, List.getElem?_cons_succ, List.getElem?_cons_zero]; rfl) (by kernel_rfl) (by kernel_rfl) (by kernel_rfl) rfl (by exact fun _ _ _ h => h) (by rfl) ?_ (by assumption) ?_
              rotate_left
              · intro w hSw; (try dsimp only at hSw); go_simp; try (with_reducible rfl)
              try simp only [Act.put, List.setIfInBounds_toArray, List.set_cons_zero, List.set_cons_succ]
              refine take_runs (i := 32) (v := ?_) (by simp only [List.getElem?_toArray, List.getElem?_cons_succ, List.getElem?_cons_zero]; rfl) (by kernel_rfl) (by kernel_rfl) (by kernel_rfl) rfl (by exact fun _ _ _ h => h) (by rfl) ?_ (by assumption) ?_
              rotate_left
              · intro w hSw; (try dsimp only at hSw); go_simp; try (with_reducible rfl)
              try simp only [Act.put, List.setIfInBounds_toArray, List.set_cons_zero, List.set_cons_succ]
              refine take_runs (i := 33) (v := ?_) (by simp only [List.getElem?_toArray, List.getElem?_cons_succ, List.getElem?_cons_zero]; rfl) (by kernel_rfl) (by kernel_rfl) (by kernel_rfl) rfl (by exact fun _ _ _ h => h) (by rfl) ?_ (by assumption) ?_
              rotate_left
              · intro w hSw; (try dsimp only at hSw); go_simp; try (with_reducible rfl)
              try simp only [Act.put, List.setIfInBounds_toArray, List.set_cons_zero, List.set_cons_succ]
              refine take_runs (i := 34) (v := ?_) (by simp only [List.getElem?_toArray, List.getElem?_cons_succ, List.getElem?_cons_zero]; rfl) (by kernel_rfl) (by kernel_rfl) (by kernel_rfl) rfl (by exact fun _ _ _ h => h) (by rfl) ?_ (by assumption) ?_
              rotate_left
              · intro w hSw; (try dsimp only at hSw); go_simp; try (with_reducible rfl)
              try simp only [Act.put, List.setIfInBounds_toArray, List.set_cons_zero, List.set_cons_succ]
              refine wpAnyH_ready (rs := [35]) (by kernel_rfl) (by simp) ?_
              refine AllReadyH.cons (o := _) (by simp only [List.getElem?_toArray, List.getElem?_cons_succ, List.getElem?_cons_zero]; rfl) (fun K hK => ?_) AllReadyH.nil
              go_simp
              refine (HSI.out _ (by exact ints_heap HII.out rfl) (by exact ints_heap HJJ.out rfl)).mono ?_
              rintro e w8 ⟨rfl, b9⟩
              have b10 : Below wr.heap.size wr w8 := ⟨b9.os, b9.tape, b9.output, b9.size, b9.block⟩
              have shc1 := (b10.cell (p := ⟨b, off + k * 3, none⟩) hbl).trans hc1
              have shc2 := (b10.cell (p := ⟨b, off + k * 3 + 1, none⟩) hbl).trans hc2
              have shc3 := (b10.cell (p := ⟨b, off + k * 3 + 2, none⟩) hbl).trans hc3
              have shd1 := (b10.cell (p := ⟨b2, off2 + k * 3, none⟩) hbl2).trans hd1
              have shd2 := (b10.cell (p := ⟨b2, off2 + k * 3 + 1, none⟩) hbl2).trans hd2
              have shd3 := (b10.cell (p := ⟨b2, off2 + k * 3 + 2, none⟩) hbl2).trans hd3
              refine hK.out _ _ ⟨shc1, shc2, shc3, shd1, shd2, shd3⟩ (fun hHeld => ?_)
              clear hK K
              try simp only [Act.put, List.setIfInBounds_toArray, List.set_cons_zero, List.set_cons_succ]
              refine take_runs (i := 36) (v := ?_) (by simp only [List.getElem?_toArray, List.getElem?_cons_succ, List.getElem?_cons_zero]; rfl) (by kernel_rfl) (by kernel_rfl) (by kernel_rfl) rfl (by exact fun _ _ _ h => h) (by rfl) ?_ (by assumption) ?_
              rotate_left
              · intro w hSw; (try dsimp only at hSw); go_simp; try (with_reducible rfl)
              try simp only [Act.put, List.setIfInBounds_toArray, List.set_cons_zero, List.set_cons_succ]
              refine take_runs (i := 37) (v := ?_) (by simp only [List.getElem?_toArray, List.getElem?_cons_succ, List.getElem?_cons_zero]; rfl) (by kernel_rfl) (by kernel_rfl) (by kernel_rfl) rfl (by exact fun _ _ _ h => h) (by rfl) ?_ (by assumption) ?_
              rotate_left
              · intro w hSw; (try dsimp only at hSw); go_simp; try (with_reducible rfl)
              try simp only [Act.put, List.setIfInBounds_toArray, List.set_cons_zero, List.set_cons_succ]
              refine wpAnyH_done (by kernel_rfl) ?_ _
              have b11 := hbel.trans (b10.mono hbel.size)
              clear shc1 shc2 shc3 shd1 shd2 shd3 hHeld b9 b10
              go_wp2
              go_roundw
              case rel => exact ⟨k + 1, by omega, by go_num, HA, b11⟩
              case measure => simp [intOf]; omega
            · have HF := Lib.hid (HNE.out (fun e => hx (Prod.mk.inj (Prod.mk.inj e).2).2))
              rw [decide_eq_false hx] at HSI
              clear hx HNE HALL
              go_wp2
              refine wp_region_held_drew (S := fun w' => w'.cell? ⟨b, off + k * 3, none⟩ = some (.int .i64 sf) ∧ w'.cell? ⟨b, off + k * 3 + 1, none⟩ = some (.int .i64 st) ∧ w'.cell? ⟨b, off + k * 3 + 2, none⟩ = some vv ∧ w'.cell? ⟨b2, off2 + k * 3, none⟩ = some (.int .i64 sf) ∧ w'.cell? ⟨b2, off2 + k * 3 + 1, none⟩ = some (.int .i64 st) ∧ w'.cell? ⟨b2, off2 + k * 3 + 2, none⟩ = some uv) (by kernel_rfl) ⟨hc1, hc2, hc3, hd1, hd2, hd3⟩ (fun hHeld => ?_)
              refine take_runs (i := 0) (v := ?_) (by simp only [List.getElem?_toArray, List.getElem?_cons_succ, List.getElem?_cons_zero]; rfl) (by kernel_rfl) (by kernel_rfl) (by kernel_rfl) rfl (by exact fun _ _ _ h => h) (by rfl) ?_ (by assumption) ?_
              rotate_left
              · intro w hSw; (try dsimp only at hSw); go_simp; try (with_reducible rfl)
              try simp only [Act.put, List.setIfInBounds_toArray, List.set_cons_zero, List.set_cons_succ]
              refine take_runs (i := 1) (v := ?_) (by simp only [List.getElem?_toArray, List.getElem?_cons_succ, List.getElem?_cons_zero]; rfl) (by kernel_rfl) (by kernel_rfl) (by kernel_rfl) rfl (by exact fun _ _ _ h => h) (by rfl) ?_ (by assumption) ?_
              rotate_left
              · intro w hSw; (try dsimp only at hSw); go_simp; try (with_reducible rfl)
              try simp only [Act.put, List.setIfInBounds_toArray, List.set_cons_zero, List.set_cons_succ]
              refine take_runs (i := 2) (v := ?_) (by simp only [List.getElem?_toArray, List.getElem?_cons_succ, List.getElem?_cons_zero]; rfl) (by kernel_rfl) (by kernel_rfl) (by kernel_rfl) rfl (by exact fun _ _ _ h => h) (by rfl) ?_ (by assumption) ?_
              rotate_left
              · intro w hSw; (try dsimp only at hSw); go_simp; try (with_reducible rfl)
              try simp only [Act.put, List.setIfInBounds_toArray, List.set_cons_zero, List.set_cons_succ]
              refine take_runs (i := 3) (v := ?_) (by simp only [List.getElem?_toArray, List.getElem?_cons_succ, List.getElem?_cons_zero]; rfl) (by kernel_rfl) (by kernel_rfl) (by kernel_rfl) rfl (by exact fun _ _ _ h => h) (by rfl) ?_ (by assumption) ?_
              rotate_left
              · intro w hSw; (try dsimp only at hSw); go_simp; try (with_reducible rfl)
              try simp only [Act.put, List.setIfInBounds_toArray, List.set_cons_zero, List.set_cons_succ]
              refine take_runs (i := 4) (v := ?_) (by simp only [List.getElem?_toArray, List.getElem?_cons_succ, List.getElem?_cons_zero]; rfl) (by kernel_rfl) (by kernel_rfl) (by kernel_rfl) rfl (by exact fun _ _ _ h => h) (by rfl) ?_ (by assumption) ?_
              rotate_left
              · intro w hSw; (try dsimp only at hSw); go_simp; try (with_reducible rfl)
              try simp only [Act.put, List.setIfInBounds_toArray, List.set_cons_zero, List.set_cons_succ]
              refine take_runs (i := 5) (v := ?_) (by simp only [List.getElem?_toArray, List.getElem?_cons_succ, List.getElem?_cons_zero]; rfl) (by kernel_rfl) (by kernel_rfl) (by kernel_rfl) rfl (by exact fun _ _ _ h => h) (by rfl) ?_ (by assumption) ?_
              rotate_left
              · intro w hSw; (try dsimp only at hSw); go_simp; try (with_reducible rfl)
              try simp only [Act.put, List.setIfInBounds_toArray, List.set_cons_zero, List.set_cons_succ]
              refine take_runs (i := 6) (v := ?_) (by simp only [List.getElem?_toArray, List.getElem?_cons_succ, List.getElem?_cons_zero]; rfl) (by kernel_rfl) (by kernel_rfl) (by kernel_rfl) rfl (by exact fun _ _ _ h => h) (by rfl) ?_ (by assumption) ?_
              rotate_left
              · intro w hSw; (try dsimp only at hSw); go_simp; try (with_reducible rfl)
              try simp only [Act.put, List.setIfInBounds_toArray, List.set_cons_zero, List.set_cons_succ]
              refine take_runs (i := 7) (v := ?_) (by simp only [List.getElem?_toArray, List.getElem?_cons_succ, List.getElem?_cons_zero]; rfl) (by kernel_rfl) (by kernel_rfl) (by kernel_rfl) rfl (by exact fun _ _ _ h => h) (by rfl) ?_ (by assumption) ?_
              rotate_left
              · intro w hSw; (try dsimp only at hSw); go_simp; try (with_reducible rfl)
              try simp only [Act.put, List.setIfInBounds_toArray, List.set_cons_zero, List.set_cons_succ]
              refine take_runs (i := 8) (v := ?_) (by simp only [List.getElem?_toArray, List.getElem?_cons_succ, List.getElem?_cons_zero]; rfl) (by kernel_rfl) (by kernel_rfl) (by kernel_rfl) rfl (by exact fun _ _ _ h => h) (by rfl) ?_ (by assumption) ?_
              rotate_left
              · intro w hSw; (try dsimp only at hSw); go_simp; try (with_reducible rfl)
              try simp only [Act.put, List.setIfInBounds_toArray, List.set_cons_zero, List.set_cons_succ]
              refine take_runs (i := 9) (v := ?_) (by simp only [List.getElem?_toArray, List.getElem?_cons_succ, List.getElem?_cons_zero]; rfl) (by kernel_rfl) (by kernel_rfl) (by kernel_rfl) rfl (by exact fun _ _ _ h => h) (by rfl) ?_ (by assumption) ?_
              rotate_left
              · intro w hSw; (try dsimp only at hSw); go_simp; try (with_reducible rfl)
              try simp only [Act.put, List.setIfInBounds_toArray, List.set_cons_zero, List.set_cons_succ]
              refine take_runs (i := 10) (v := ?_) (by simp only [List.getElem?_toArray, List.getElem?_cons_succ, List.getElem?_cons_zero]; rfl) (by kernel_rfl) (by kernel_rfl) (by kernel_rfl) rfl (by exact fun _ _ _ h => h) (by rfl) ?_ (by assumption) ?_
              rotate_left
              · intro w hSw; (try dsimp only at hSw); go_simp; try (with_reducible rfl)
              try simp only [Act.put, List.setIfInBounds_toArray, List.set_cons_zero, List.set_cons_succ]
              refine take_runs (i := 11) (v := ?_) (by simp only [List.getElem?_toArray, List.getElem?_cons_succ, List.getElem?_cons_zero]; rfl) (by kernel_rfl) (by kernel_rfl) (by kernel_rfl) rfl (by exact fun _ _ _ h => h) (by rfl) ?_ (by assumption) ?_
              rotate_left
              · intro w hSw; (try dsimp only at hSw); go_simp; try (with_reducible rfl)
              try simp only [Act.put, List.setIfInBounds_toArray, List.set_cons_zero, List.set_cons_succ]
              refine take_runs (i := 12) (v := ?_) (by simp only [List.getElem?_toArray, List.getElem?_cons_succ, List.getElem?_cons_zero]; rfl) (by kernel_rfl) (by kernel_rfl) (by kernel_rfl) rfl (by exact fun _ _ _ h => h) (by rfl) ?_ (by assumption) ?_
              rotate_left
              · intro w hSw; (try dsimp only at hSw); go_simp; try (with_reducible rfl)
              try simp only [Act.put, List.setIfInBounds_toArray, List.set_cons_zero, List.set_cons_succ]
              refine take_runs (i := 13) (v := ?_) (by simp only [List.getElem?_toArray, List.getElem?_cons_succ, List.getElem?_cons_zero]; rfl) (by kernel_rfl) (by kernel_rfl) (by kernel_rfl) rfl (by exact fun _ _ _ h => h) (by rfl) ?_ (by assumption) ?_
              rotate_left
              · intro w hSw; (try dsimp only at hSw); go_simp; try (with_reducible rfl)
              try simp only [Act.put, List.setIfInBounds_toArray, List.set_cons_zero, List.set_cons_succ]
              refine take_runs (i := 14) (v := ?_) (by simp only [List.getElem?_toArray, List.getElem?_cons_succ, List.getElem?_cons_zero]; rfl) (by kernel_rfl) (by kernel_rfl) (by kernel_rfl) rfl (by exact fun _ _ _ h => h) (by rfl) ?_ (by assumption) ?_
              rotate_left
              · intro w hSw; (try dsimp only at hSw); go_simp; try (with_reducible rfl)
              try simp only [Act.put, List.setIfInBounds_toArray, List.set_cons_zero, List.set_cons_succ]
              refine take_runs (i := 15) (v := ?_) (by simp only [List.getElem?_toArray, List.getElem?_cons_succ, List.getElem?_cons_zero]; rfl) (by kernel_rfl) (by kernel_rfl) (by kernel_rfl) rfl (by exact fun _ _ _ h => h) (by rfl) ?_ (by assumption) ?_
              rotate_left
              · intro w hSw; (try dsimp only at hSw); go_simp; try (with_reducible rfl)
              try simp only [Act.put, List.setIfInBounds_toArray, List.set_cons_zero, List.set_cons_succ]
              refine take_runs (i := 16) (v := ?_) (by simp only [List.getElem?_toArray, List.getElem?_cons_succ, List.getElem?_cons_zero]; rfl) (by kernel_rfl) (by kernel_rfl) (by kernel_rfl) rfl (by exact fun _ _ _ h => h) (by rfl) ?_ (by assumption) ?_
              rotate_left
              · intro w hSw; (try dsimp only at hSw); go_simp; try (with_reducible rfl)
              try simp only [Act.put, List.setIfInBounds_toArray, List.set_cons_zero, List.set_cons_succ]
              refine take_runs (i := 17) (v := ?_) (by simp only [List.getElem?_toArray, List.getElem?_cons_succ, List.getElem?_cons_zero]; rfl) (by kernel_rfl) (by kernel_rfl) (by kernel_rfl) rfl (by exact fun _ _ _ h => h) (by rfl) ?_ (by assumption) ?_
              rotate_left
              · intro w hSw; (try dsimp only at hSw); go_simp; try (with_reducible rfl)
              try simp only [Act.put, List.setIfInBounds_toArray, List.set_cons_zero, List.set_cons_succ]
              refine take_runs (i := 18) (v := ?_) (by simp only [List.getElem?_toArray, List.getElem?_cons_succ, List.getElem?_cons_zero]; rfl) (by kernel_rfl) (by kernel_rfl) (by kernel_rfl) rfl (by exact fun _ _ _ h => h) (by rfl) ?_ (by assumption) ?_
              rotate_left
              · intro w hSw; (try dsimp only at hSw); go_simp; try (with_reducible rfl)
              try simp only [Act.put, List.setIfInBounds_toArray, List.set_cons_zero, List.set_cons_succ]
              refine take_runs (i := 19) (v := ?_) (by simp only [List.getElem?_toArray, List.getElem?_cons_succ, List.getElem?_cons_zero]; rfl) (by kernel_rfl) (by kernel_rfl) (by kernel_rfl) rfl (by exact fun _ _ _ h => h) (by rfl) ?_ (by assumption) ?_
              rotate_left
              · intro w hSw; (try dsimp only at hSw); go_simp; try (with_reducible rfl)
              try simp only [Act.put, List.setIfInBounds_toArray, List.set_cons_zero, List.set_cons_succ]
              refine take_runs (i := 20) (v := ?_) (by simp only [List.getElem?_toArray, List.getElem?_cons_succ, List.getElem?_cons_zero]; rfl) (by kernel_rfl) (by kernel_rfl) (by kernel_rfl) rfl (by exact fun _ _ _ h => h) (by rfl) ?_ (by assumption) ?_
              rotate_left
              · intro w hSw; (try dsimp only at hSw); go_simp; try (with_reducible rfl)
              try simp only [Act.put, List.setIfInBounds_toArray, List.set_cons_zero, List.set_cons_succ]
              refine take_runs (i := 21) (v := ?_) (by simp only [List.getElem?_toArray, List.getElem?_cons_succ, List.getElem?_cons_zero]; rfl) (by kernel_rfl) (by kernel_rfl) (by kernel_rfl) rfl (by exact fun _ _ _ h => h) (by rfl) ?_ (by assumption) ?_
              rotate_left
              · intro w hSw; (try dsimp only at hSw); go_simp; try (with_reducible rfl)
              try simp only [Act.put, List.setIfInBounds_toArray, List.set_cons_zero, List.set_cons_succ]
              refine take_runs (i := 22) (v := ?_) (by simp only [List.getElem?_toArray, List.getElem?_cons_succ, List.getElem?_cons_zero]; rfl) (by kernel_rfl) (by kernel_rfl) (by kernel_rfl) rfl (by exact fun _ _ _ h => h) (by rfl) ?_ (by assumption) ?_
              rotate_left
              · intro w hSw; (try dsimp only at hSw); go_simp; try (with_reducible rfl)
              try simp only [Act.put, List.setIfInBounds_toArray, List.set_cons_zero, List.set_cons_succ]
              refine take_runs (i := 23) (v := ?_) (by simp only [List.getElem?_toArray, List.getElem?_cons_succ, List.getElem?_cons_zero]; rfl) (by kernel_rfl) (by kernel_rfl) (by kernel_rfl) rfl (by exact fun _ _ _ h => h) (by rfl) ?_ (by assumption) ?_
              rotate_left
              · intro w hSw; (try dsimp only at hSw); go_simp; try (with_reducible rfl)
              try simp only [Act.put, List.setIfInBounds_toArray, List.set_cons_zero, List.set_cons_succ]
              refine take_runs (i := 24) (v := ?_) (by simp only [List.getElem?_toArray, List.getElem?_cons_succ, List.getElem?_cons_zero]; rfl) (by kernel_rfl) (by kernel_rfl) (by kernel_rfl) rfl (by exact fun _ _ _ h => h) (by rfl) ?_ (by assumption) ?_
              rotate_left
              · intro w hSw; (try dsimp only at hSw); go_simp; try (with_reducible rfl)
              try simp only [Act.put, List.setIfInBounds_toArray, List.set_cons_zero, List.set_cons_succ]
              refine take_runs (i := 25) (v := ?_) (by simp only [List.getElem?_toArray, List.getElem?_cons_succ, List.getElem?_cons_zero]; rfl) (by kernel_rfl) (by kernel_rfl) (by kernel_rfl) rfl (by exact fun _ _ _ h => h) (by rfl) ?_ (by assumption) ?_
              rotate_left
              · intro w hSw; (try dsimp only at hSw); go_simp; try (with_reducible rfl)
              try simp only [Act.put, List.setIfInBounds_toArray, List.set_cons_zero, List.set_cons_succ]
              refine take_runs (i := 26) (v := ?_) (by simp only [List.getElem?_toArray, List.getElem?_cons_succ, List.getElem?_cons_zero]; rfl) (by kernel_rfl) (by kernel_rfl) (by kernel_rfl) rfl (by exact fun _ _ _ h => h) (by rfl) ?_ (by assumption) ?_
              rotate_left
              · intro w hSw; (try dsimp only at hSw); go_simp; try (with_reducible rfl)
              try simp only [Act.put, List.setIfInBounds_toArray, List.set_cons_zero, List.set_cons_succ]
              refine take_runs (i := 27) (v := ?_) (by simp only [List.getElem?_toArray, List.getElem?_cons_succ, List.getElem?_cons_zero]; rfl) (by kernel_rfl) (by kernel_rfl) (by kernel_rfl) rfl (by exact fun _ _ _ h => h) (by rfl) ?_ (by assumption) ?_
              rotate_left
              · intro w hSw; (try dsimp only at hSw); go_simp; try (with_reducible rfl)
              try simp only [Act.put, List.setIfInBounds_toArray, List.set_cons_zero, List.set_cons_succ]
              refine take_runs (i := 28) (v := ?_) (by simp only [List.getElem?_toArray, List.getElem?_cons_succ, List.getElem?_cons_zero]; rfl) (by kernel_rfl) (by kernel_rfl) (by kernel_rfl) rfl (by exact fun _ _ _ h => h) (by rfl) ?_ (by assumption) ?_
              rotate_left
              · intro w hSw; (try dsimp only at hSw); go_simp; try (with_reducible rfl)
              try simp only [Act.put, List.setIfInBounds_toArray, List.set_cons_zero, List.set_cons_succ]
              refine take_runs (i := 29) (v := ?_) (by simp only [List.getElem?_toArray, List.getElem?_cons_succ, List.getElem?_cons_zero]; rfl) (by kernel_rfl) (by kernel_rfl) (by kernel_rfl) rfl (by exact fun _ _ _ h => h) (by rfl) ?_ (by assumption) ?_
              rotate_left
              · intro w hSw; (try dsimp only at hSw); go_simp; try (with_reducible rfl)
              try simp only [Act.put, List.setIfInBounds_toArray, List.set_cons_zero, List.set_cons_succ]
              refine take_runs (i := 30) (v := ?_) (by simp only [List.getElem?_toArray, List.getElem?_cons_succ, List.getElem?_cons_zero]; rfl) (by kernel_rfl) (by kernel_rfl) (by kernel_rfl) rfl (by exact fun _ _ _ h => h) (by rfl) ?_ (by assumption) ?_
              rotate_left
              · intro w hSw; (try dsimp only at hSw); go_simp; try (with_reducible rfl)
              try simp only [Act.put, List.setIfInBounds_toArray, List.set_cons_zero, List.set_cons_succ]
              refine take_runs (i := 31) (v := ?_) (by simp only [List.getElem?_toArray, List.getElem?_cons_succ, List.getElem?_cons_zero]; rfl) (by kernel_rfl) (by kernel_rfl) (by kernel_rfl) rfl (by exact fun _ _ _ h => h) (by rfl) ?_ (by assumption) ?_
              rotate_left
              · intro w hSw; (try dsimp only at hSw); go_simp; try (with_reducible rfl)
              try simp only [Act.put, List.setIfInBounds_toArray, List.set_cons_zero, List.set_cons_succ]
              refine take_runs (i := 32) (v := ?_) (by simp only [List.getElem?_toArray, List.getElem?_cons_succ, List.getElem?_cons_zero]; rfl) (by kernel_rfl) (by kernel_rfl) (by kernel_rfl) rfl (by exact fun _ _ _ h => h) (by rfl) ?_ (by assumption) ?_
              rotate_left
              · intro w hSw; (try dsimp only at hSw); go_simp; try (with_reducible rfl)
              try simp only [Act.put, List.setIfInBounds_toArray, List.set_cons_zero, List.set_cons_succ]
              refine take_runs (i := 33) (v := ?_) (by simp only [List.getElem?_toArray, List.getElem?_cons_succ, List.getElem?_cons_zero]; rfl) (by kernel_rfl) (by kernel_rfl) (by kernel_rfl) rfl (by exact fun _ _ _ h => h) (by rfl) ?_ (by assumption) ?_
              rotate_left
              · intro w hSw; (try dsimp only at hSw); go_simp; try (with_reducible rfl)
              try simp only [Act.put, List.setIfInBounds_toArray, List.set_cons_zero, List.set_cons_succ]
              refine take_runs (i := 34) (v := ?_) (by simp only [List.getElem?_toArray, List.getElem?_cons_succ, List.getElem?_cons_zero]; rfl) (by kernel_rfl) (by kernel_rfl) (by kernel_rfl) rfl (by exact fun _ _ _ h => h) (by rfl) ?_ (by assumption) ?_
              rotate_left
              · intro w hSw; (try dsimp only at hSw); go_simp; try (with_reducible rfl)
              try simp only [Act.put, List.setIfInBounds_toArray, List.set_cons_zero, List.set_cons_succ]
              refine wpAnyH_ready (rs := [35]) (by kernel_rfl) (by simp) ?_
              refine AllReadyH.cons (o := _) (by simp only [List.getElem?_toArray, List.getElem?_cons_succ, List.getElem?_cons_zero]; rfl) (fun K hK => ?_) AllReadyH.nil
              go_simp
              refine (HSI.out _ (by exact ints_heap HII.out rfl) (by exact ints_heap HJJ.out rfl)).mono ?_
              rintro e w8 ⟨rfl, b9⟩
              have b10 : Below wr.heap.size wr w8 := ⟨b9.os, b9.tape, b9.output, b9.size, b9.block⟩
              have shc1 := (b10.cell (p := ⟨b, off + k * 3, none⟩) hbl).trans hc1
              have shc2 := (b10.cell (p := ⟨b, off + k * 3 + 1, none⟩) hbl).trans hc2
              have shc3 := (b10.cell (p := ⟨b, off + k * 3 + 2, none⟩) hbl).trans hc3
              have shd1 := (b10.cell (p := ⟨b2, off2 + k * 3, none⟩) hbl2).trans hd1
              have shd2 := (b10.cell (p := ⟨b2, off2 + k * 3 + 1, none⟩) hbl2).trans hd2
              have shd3 := (b10.cell (p := ⟨b2, off2 + k * 3 + 2, none⟩) hbl2).trans hd3
              refine hK.out _ _ ⟨shc1, shc2, shc3, shd1, shd2, shd3⟩ (fun hHeld => ?_)
              clear hK K
              try simp only [Act.put, List.setIfInBounds_toArray, List.set_cons_zero, List.set_cons_succ]
              refine take_runs (i := 36) (v := ?_) (by simp only [List.getElem?_toArray, List.getElem?_cons_succ, List.getElem?_cons_zero]; rfl) (by kernel_rfl) (by kernel_rfl) (by kernel_rfl) rfl (by exact fun _ _ _ h => h) (by rfl) ?_ (by assumption) ?_
              rotate_left
              · intro w hSw; (try dsimp only at hSw); go_simp; try (with_reducible rfl)
              try simp only [Act.put, List.setIfInBounds_toArray, List.set_cons_zero, List.set_cons_succ]
              refine take_runs (i := 37) (v := ?_) (by simp only [List.getElem?_toArray, List.getElem?_cons_succ, List.getElem?_cons_zero]; rfl) (by kernel_rfl) (by kernel_rfl) (by kernel_rfl) rfl (by exact fun _ _ _ h => h) (by rfl) ?_ (by assumption) ?_
              rotate_left
              · intro w hSw; (try dsimp only at hSw); go_simp; try (with_reducible rfl)
              try simp only [Act.put, List.setIfInBounds_toArray, List.set_cons_zero, List.set_cons_succ]
              refine wpAnyH_done (by kernel_rfl) ?_ _
              have b11 := hbel.trans (b10.mono hbel.size)
              clear shc1 shc2 shc3 shd1 shd2 shd3 hHeld b9 b10
              go_wp2
              go_ret
              exact ⟨ret_b HF.out.symm, b11⟩
          · have HF := Lib.hid (HNE.out (fun e => ht (Prod.mk.inj (Prod.mk.inj e).2).1))
            have et : (st != tt) = true := by rw [bne_iff_ne]; exact ht
            clear ht HNE HALL
            go_wp2
            go_quiet (fail)
            go_wp2
            go_ret
            exact ⟨ret_b HF.out.symm, below_dn hbel _⟩
        · have HF := Lib.hid (HNE.out (fun e => hf (Prod.mk.inj e).1))
          have ef : (sf != tf) = true := by rw [bne_iff_ne]; exact hf
          clear hf HNE HALL
          go_wp2
          go_quiet (fail)
          go_wp2
          go_ret
          exact ⟨ret_b HF.out.symm, below_dn hbel _⟩
      · obtain rfl : k = rs.length := by omega
        have HE := Lib.hid (decide_eq_true (spans_eq_all HL.out hall.out))
        clear hall
        go_wp2
        go_ret
        exact ⟨ret_b HE.out.symm, hbel⟩
  · have HF := Lib.hid (decide_eq_false (show ¬ rs = ss from fun e => hl (by rw [e])))
    have hne : ((rs.length : Int) != (ss.length : Int)) = true := by rw [bne_iff_ne]; omega
    clear hl
    go_enter Tryd.func8, Tryd.ntmps8
    go_wp2
    go_ret
    exact ⟨ret_b HF.out.symm, Below.refl _ _⟩
end Go.Proofs.YtmkcfkblfjhnhaaDoor
namespace Go.Proofs.YtmkcfkblfjhnhaaDoor
open Go.RowKit
set_option linter.unusedVariables false
set_option linter.unusedSimpArgs false
set_option maxHeartbeats 4000000 in
set_option maxRecDepth 100000 in
theorem interval_of (f t : Int) (a : Option Addr) (m c : Nat) (w : World) : Calls Tryd.prog 35 #[.agg #[.int .i64 f, .int .i64 t, .slice a m c]] w fun e w' => e = .returned (.agg #[.int .i64 f, .int .i64 t, .slice a m c]) ∧ Below w.heap.size w w' := by
  have hb1 : Below w.heap.size w (w.alloc (.cells #[.int .i64 f, .int .i64 t, .slice a m c] 34)) := (Below.refl _ w).alloc (Nat.le_refl _) _
  go_enter Tryd.func35, Tryd.ntmps35
  go_wp2
  refine bodyPost_ret (v := .agg #[.int .i64 f, .int .i64 t, .slice a m c]) ?_ rfl ?_
  · simp [results, Tryd.f35, go_sem]
  · refine ⟨rfl, ?_⟩
    first
    | exact ((((((Below.refl _ w).alloc (Nat.le_refl _) _).alloc (by simp) _).setCell (by simp) _).setCell (by simp) _).setCell (by simp) _)
    | exact ((Below.refl _ w).alloc (Nat.le_refl _) _).alloc (by simp) _
set_option maxHeartbeats 4000000 in
set_option maxRecDepth 100000 in
theorem containsS_is (a b : Int) (p : Option Addr) (m c : Nat) (v : Int) (w : World) : Calls Tryd.prog 36 #[.agg #[.int .i64 a, .int .i64 b, .slice p m c], .int .i64 v] w fun e w' => e = .returned (.bool (decide (a ≤ v ∧ v ≤ b))) ∧ Below w.heap.size w w' := by
  have hb : Below w.heap.size w (w.alloc (.cells #[.int .i64 a, .int .i64 b, .slice p m c] 61)) := (Below.refl _ w).alloc (Nat.le_refl _) _
  obtain ⟨r, hr⟩ : ∃ r, decide (a ≤ v ∧ v ≤ b) = r := ⟨_, rfl⟩
  rw [hr]
  by_cases h1 : a ≤ v
  · by_cases h2 : v ≤ b
    · have HT : Hid (r = true) := Lib.hid (by rw [← hr]; exact decide_eq_true ⟨h1, h2⟩)
      clear hr
      go_enter Tryd.func36, Tryd.ntmps36
      go_wp2
      go_ret
      exact ⟨ret_b HT.out.symm, hb⟩
    · have HT : Hid (r = false) := Lib.hid (by rw [← hr]; exact decide_eq_false (fun g => h2 g.2))
      clear hr
      go_enter Tryd.func36, Tryd.ntmps36
      go_wp2
      go_ret
      exact ⟨ret_b HT.out.symm, hb⟩
  · have HT : Hid (r = false) := Lib.hid (by rw [← hr]; exact decide_eq_false (fun g => h1 g.1))
    clear hr
    go_enter Tryd.func36, Tryd.ntmps36
    go_wp2
    go_ret
    exact ⟨ret_b HT.out.symm, hb⟩
set_option maxHeartbeats 8000000 in
set_option maxRecDepth 100000 in
theorem implFindSpan (va : Value) (rs : List SpanD) (v : Int) (w : World) (h : SpansR w va rs) (hs : zpL rs ≤ 1048576) :
    Calls Tryd.prog 15 #[va, .int .i64 v] w (FreshInts w (findL rs v)) := by
  have H := Lib.hid h
  have HS := Lib.hid hs
  have hlen := zpL_len hs
  obtain ⟨a, cap, rfl⟩ := spansR_len h
  clear h hs
  go_enter Tryd.func15, Tryd.ntmps15
  go_wp2
  go_loopw [10] (fun i wr => ∃ k : Nat, k ≤ rs.length ∧ i = .int .i64 k ∧ Hid (∀ j, j < k → hitB v (rs.getD j p0D) = false) ∧ Below w.heap.size w wr) (fun i _ => rs.length - (intOf i).toNat)
  case atStart => exact ⟨0, Nat.zero_le _, rfl, Lib.hid (fun j hj => by omega), Below.refl _ _⟩
  case round =>
    obtain ⟨k, hk, rfl, hall, hbel⟩ := hrel
    by_cases hlt : k < rs.length
    · obtain ⟨b, off, cap', vv, hv, hbl, hc1, hc2, hc3, hI⟩ := spansR_at (spansR_below H.out hbel) hlt
      simp only [Value.slice.injEq] at hv
      obtain ⟨rfl, _, rfl⟩ := hv
      obtain ⟨ua, uc, rfl⟩ := ints_len hI
      have HXL := Lib.hid (zpL_span HS.out hlt)
      have i1 : (0 : Int) ≤ (k : Int) := by omega
      have i2 : (k : Int) < (rs.length : Int) := by omega
      have HHIT := Lib.hid (fun e => find_at (v := v) hlt hall.out e)
      have HALL : Hid (hitB v (rs.getD k p0D) = false → ∀ j, j < k + 1 → hitB v (rs.getD j p0D) = false) := Lib.hid (fun he j hj => by
        by_cases e : j = k
        · exact e ▸ he
        · exact hall.out j (by omega))
      clear hall
      generalize rs.getD k p0D = r at *
      obtain ⟨sf, st, xs⟩ := r
      simp only at hc1 hc2 hc3 hI HXL HHIT
      have hal : Below wr.heap.size wr (wr.alloc (.cells #[.int .i64 sf, .int .i64 st, .slice ua xs.length uc] 34)) := (Below.refl _ _).alloc (Nat.le_refl _) _
      have HII := Lib.hid (ints_below hI hal)
      have HBW := Lib.hid (hbel.trans (hal.mono hbel.size))
      have HB : Hid (hitB v (sf, st, xs) = decide (sf ≤ v ∧ v ≤ st)) := Lib.hid rfl
      clear hI hbel hal
      go_wp2_with fail
      generalize wr.alloc (.cells #[.int .i64 sf, .int .i64 st, .slice ua xs.length uc] 34) = W at *
      refine (interval_of sf st ua xs.length uc _).mono ?_
      rintro e w2 ⟨rfl, b2⟩
      have hal : Below w2.heap.size w2 (w2.alloc (.cells #[.int .i64 sf, .int .i64 st, .slice ua xs.length uc] 61)) := (Below.refl _ _).alloc (Nat.le_refl _) _
      have g0 := heap_alloc_new w2 (.cells #[.int .i64 sf, .int .i64 st, .slice ua xs.length uc] 61)
      have HZL : Hid (w2.heap.size < (w2.alloc (.cells #[.int .i64 sf, .int .i64 st, .slice ua xs.length uc] 61)).heap.size) := Lib.hid (by simp)
      have HI2 := Lib.hid (ints_below (ints_below HII.out b2) hal)
      have HB2 := Lib.hid ((HBW.out.trans (b2.mono HBW.out.size)).trans (hal.mono (HBW.out.trans (b2.mono HBW.out.size)).size))
      clear hc1 hc2 hc3 HII HBW b2 hal
      go_wp2_with fail
      generalize w2.alloc (.cells #[.int .i64 sf, .int .i64 st, .slice ua xs.length uc] 61) = W2 at *
      refine (containsS_is sf st ua xs.length uc v _).mono ?_
      rintro e w3 ⟨rfl, b3⟩
      have k3 := (b3.block _ HZL.out).trans g0
      have p2 := (cell_of_row w3 _ 2 _ _ _ k3).trans (show _ = some (Value.slice ua xs.length uc) from rfl)
      have I3 := ints_below HI2.out b3
      have B3 := HB2.out.trans (b3.mono HB2.out.size)
      rw [← HB.out]
      clear k3 g0 b3 HI2 HB2
      cases hh : hitB v (sf, st, xs) with
      | true =>
        have HF := Lib.hid (HHIT.out hh)
        clear HHIT HALL hh
        go_wp2_with fail
        refine (copyInts_any (.slice ua xs.length uc) xs w3 I3 HXL.out).mono ?_
        rintro e w4 ⟨u, rfl, oB, bB⟩
        obtain ⟨pa, pc, rfl⟩ := ints_len (ownsN_ints oB)
        have oB2 := ownsN_up oB B3.size
        have B4 := B3.trans (bB.mono B3.size)
        clear oB bB B3 I3 p2
        go_wp2
        go_ret
        rw [HF.out]
        exact ⟨_, rfl, oB2, B4⟩
      | false =>
        have HA := Lib.hid (HALL.out hh)
        clear HHIT HALL hh
        go_wp2
        go_roundw
        case rel => exact ⟨k + 1, by omega, by go_num, HA, B3⟩
        case measure => simp [intOf]; omega
    · obtain rfl : k = rs.length := by omega
      have HF := Lib.hid (find_none hall.out)
      clear hall
      go_wp2
      go_ret
      rw [HF.out]
      exact ⟨_, rfl, ownsN_nil _ _, hbel⟩
end Go.Proofs.YtmkcfkblfjhnhaaDoor
namespace Go.Proofs.YtmkcfkblfjhnhaaDoor
open Go.RowKit
set_option linter.unusedVariables false
set_option linter.unusedSimpArgs false
theorem span_eq3 {fr tt fr2 tt2 : Int} {xs ys : List Int} (h1 : fr = fr2) (h2 : tt = tt2) : decide (((fr, tt, xs) : SpanD) = (fr2, tt2, ys)) = decide (xs = ys) := by subst h1; subst h2; simp
set_option maxHeartbeats 8000000 in
set_option maxRecDepth 100000 in
theorem equalSpan_any (fr tt fr2 tt2 : Int) (v u : Value) (xs ys : List Int) (w : World) (h : Ints w v xs) (g : Ints w u ys) (hn : xs.length ≤ 1048576) (hm : ys.length ≤ 1048576) :
    Calls Tryd.prog 27 #[.agg #[.int .i64 fr, .int .i64 tt, v], .agg #[.int .i64 fr2, .int .i64 tt2, u]] w fun e w' => e = .returned (.bool (decide (((fr, tt, xs) : SpanD) = (fr2, tt2, ys)))) ∧ Below w.heap.size w w' := by
  obtain ⟨va, vcap, rfl⟩ := ints_len h
  obtain ⟨ua, ucap, rfl⟩ := ints_len g
  have hb : Below w.heap.size w ((w.alloc (.cells #[.int .i64 fr, .int .i64 tt, .slice va xs.length vcap] 34)).alloc (.cells #[.int .i64 fr2, .int .i64 tt2, .slice ua ys.length ucap] 34)) := ((Below.refl _ w).alloc (Nat.le_refl _) _).alloc (by simp) _
  have HQ := Lib.hid (fun w h g => equalInts_any (.slice va xs.length vcap) (.slice ua ys.length ucap) xs ys w h g hn hm)
  have HV := Lib.hid (ints_below h hb)
  have HU := Lib.hid (ints_below g hb)
  clear h g hn hm
  by_cases h1 : fr = fr2
  · by_cases h2 : tt = tt2
    · have HE := Lib.hid (span_eq3 (xs := xs) (ys := ys) h1 h2)
      have e1 : (fr == fr2) = true := by simp [h1]
      have e2 : (tt == tt2) = true := by simp [h2]
      rw [HE.out]
      generalize decide (xs = ys) = r at *
      clear h1 h2 HE
      go_enter Tryd.func27, Tryd.ntmps27
      go_wp2_with fail
      generalize ((w.alloc (.cells #[.int .i64 fr, .int .i64 tt, .slice va xs.length vcap] 34)).alloc (.cells #[.int .i64 fr2, .int .i64 tt2, .slice ua ys.length ucap] 34)) = W at *
      refine (HQ.out _ HV.out HU.out).mono ?_
      rintro e w1 ⟨rfl, b1⟩
      have b2 := hb.trans (b1.mono hb.size)
      go_wp2
      go_ret
      exact ⟨rfl, b2⟩
    · have HE : Hid (decide (((fr, tt, xs) : SpanD) = (fr2, tt2, ys)) = false) := Lib.hid (decide_eq_false (fun e => h2 (by injection e with _ e; injection e)))
      have e1 : (fr == fr2) = true := by simp [h1]
      have e2 : (tt == tt2) = false := by simp [h2]
      clear h1 h2 HQ
      go_enter Tryd.func27, Tryd.ntmps27
      go_wp2
      go_ret
      exact ⟨ret_b HE.out.symm, hb⟩
  · have HE : Hid (decide (((fr, tt, xs) : SpanD) = (fr2, tt2, ys)) = false) := Lib.hid (decide_eq_false (fun e => h1 (by injection e)))
    have e1 : (fr == fr2) = false := by simp [h1]
    clear h1 HQ
    go_enter Tryd.func27, Tryd.ntmps27
    go_wp2
    go_ret
    exact ⟨ret_b HE.out.symm, hb⟩
set_option maxHeartbeats 8000000 in
set_option maxRecDepth 100000 in
theorem spansFunc_any (v u : Value) (rs ss : List SpanD) (w : World) (h : SpansR w v rs) (g : SpansR w u ss) (hs : zpL rs ≤ 1048576) (ht : zpL ss ≤ 1048576) :
    Calls Tryd.prog 26 #[v, u, .func (.func 27) #[] #[]] w fun e w' => e = .returned (.bool (decide (rs = ss))) ∧ Below w.heap.size w w' := by
  have H := Lib.hid h
  have G := Lib.hid g
  have HS := Lib.hid hs
  have HT := Lib.hid ht
  have hlen := zpL_len hs
  have hlen2 := zpL_len ht
  obtain ⟨a, cap, rfl⟩ := spansR_len h
  obtain ⟨a2, cap2, rfl⟩ := spansR_len g
  clear h g hs ht
  by_cases hl : rs.length = ss.length
  · have HL := Lib.hid hl
    have hne : ((rs.length : Int) != (ss.length : Int)) = false := by rw [hl]; simp
    clear hl
    go_enter Tryd.func26, Tryd.ntmps26
    go_wp2
    clear hne
    go_loopw [17] (fun i wr => ∃ k : Nat, k ≤ rs.length ∧ i = .int .i64 k ∧ Hid (∀ j, j < k → rs.getD j p0D = ss.getD j p0D) ∧ Below w.heap.size w wr) (fun i _ => rs.length - (intOf i).toNat)
    case atStart => exact ⟨0, Nat.zero_le _, rfl, Lib.hid (fun j hj => by omega), Below.refl _ _⟩
    case round =>
      obtain ⟨k, hk, rfl, hall, hbel⟩ := hrel
      by_cases hlt : k < rs.length
      · have hlt2 : k < ss.length := by have := HL.out; omega
        obtain ⟨b, off, cap', vv, hv, hbl, hc1, hc1b, hc2, hI⟩ := spansR_at (spansR_below H.out hbel) hlt
        simp only [Value.slice.injEq] at hv
        obtain ⟨rfl, _, rfl⟩ := hv
        obtain ⟨b2, off2, cap2', uv, hv2, hbl2, hd1, hd1b, hd2, hJ⟩ := spansR_at (spansR_below G.out hbel) hlt2
        simp only [Value.slice.injEq] at hv2
        obtain ⟨rfl, _, rfl⟩ := hv2
        have hxl := zpL_span HS.out hlt
        have hyl := zpL_span HT.out hlt2
        have i1 : (0 : Int) ≤ (k : Int) := by omega
        have i2 : (k : Int) < (rs.length : Int) := by omega
        have i3 : (k : Int) < (ss.length : Int) := by omega
        have HNE := Lib.hid (fun e => decide_eq_false (spans_ne_at (rs := rs) (ss := ss) (k := k) e))
        have HALL : Hid (rs.getD k p0D = ss.getD k p0D → ∀ j, j < k + 1 → rs.getD j p0D = ss.getD j p0D) := Lib.hid (fun he j hj => by
          by_cases e : j = k
          · exact e ▸ he
          · exact hall.out j (by omega))
        clear hall
        generalize rs.getD k p0D = r at *
        generalize ss.getD k p0D = q at *
        obtain ⟨fr, tt, xs⟩ := r
        obtain ⟨fr2, tt2, ys⟩ := q
        simp only at hc1 hc1b hc2 hd1 hd1b hd2 hI hJ hxl hyl
        obtain ⟨va, vcap, rfl⟩ := ints_len hI
        obtain ⟨ua, ucap, rfl⟩ := ints_len hJ
        have HSM := Lib.hid (fun w h g => equalSpan_any fr tt fr2 tt2 (.slice va xs.length vcap) (.slice ua ys.length ucap) xs ys w h g hxl hyl)
        have bb := ((Below.refl wr.heap.size wr).alloc (Nat.le_refl _) (.cells #[.int .i64 fr, .int .i64 tt, .slice va xs.length vcap] 34)).alloc (by simp) (.cells #[.int .i64 fr2, .int .i64 tt2, .slice ua ys.length ucap] 34)
        have hd1' := ((Below.refl wr.heap.size wr).alloc (Nat.le_refl _) (.cells #[.int .i64 fr, .int .i64 tt, .slice va xs.length vcap] 34)).cell (p := ⟨b2, off2 + k * 3, none⟩) hbl2
        have hd1b' := ((Below.refl wr.heap.size wr).alloc (Nat.le_refl _) (.cells #[.int .i64 fr, .int .i64 tt, .slice va xs.length vcap] 34)).cell (p := ⟨b2, off2 + k * 3 + 1, none⟩) hbl2
        have hd2' := ((Below.refl wr.heap.size wr).alloc (Nat.le_refl _) (.cells #[.int .i64 fr, .int .i64 tt, .slice va xs.length vcap] 34)).cell (p := ⟨b2, off2 + k * 3 + 2, none⟩) hbl2
        rw [hd1] at hd1'
        rw [hd1b] at hd1b'
        rw [hd2] at hd2'
        by_cases he : ((fr, tt, xs) : SpanD) = (fr2, tt2, ys)
        · have HA := Lib.hid (HALL.out he)
          rw [decide_eq_true he] at HSM
          clear he HNE HALL
          go_wp2_with fail
          refine (HSM.out _ (ints_below hI bb) (ints_below hJ bb)).mono ?_
          rintro e w8 ⟨rfl, b9⟩
          have b11 := hbel.trans ((bb.trans (b9.mono bb.size)).mono hbel.size)
          clear b9 bb hd1' hd1b' hd2'
          go_wp2
          go_roundw
          case rel => exact ⟨k + 1, by omega, by go_num, HA, b11⟩
          case measure => simp [intOf]; omega
        · have HF := Lib.hid (HNE.out he)
          rw [decide_eq_false he] at HSM
          clear he HNE HALL
          go_wp2_with fail
          refine (HSM.out _ (ints_below hI bb) (ints_below hJ bb)).mono ?_
          rintro e w8 ⟨rfl, b9⟩
          have b11 := hbel.trans ((bb.trans (b9.mono bb.size)).mono hbel.size)
          clear b9 bb hd1' hd1b' hd2'
          go_wp2
          go_ret
          exact ⟨ret_b HF.out.symm, b11⟩
      · obtain rfl : k = rs.length := by omega
        have HE := Lib.hid (decide_eq_true (spans_eq_all HL.out hall.out))
        clear hall
        go_wp2
        go_ret
        exact ⟨ret_b HE.out.symm, hbel⟩
  · have HF := Lib.hid (decide_eq_false (show ¬ rs = ss from fun e => hl (by rw [e])))
    have hne : ((rs.length : Int) != (ss.length : Int)) = true := by rw [bne_iff_ne]; omega
    clear hl
    go_enter Tryd.func26, Tryd.ntmps26
    go_wp2
    go_ret
    exact ⟨ret_b HF.out.symm, Below.refl _ _⟩
set_option maxHeartbeats 2000000 in
set_option maxRecDepth 100000 in
theorem implEqualSpans (v u : Value) (rs ss : List SpanD) (w : World) (h : SpansR w v rs) (g : SpansR w u ss) (hs : zpL rs ≤ 1048576) (ht : zpL ss ≤ 1048576) :
    Calls Tryd.prog 9 #[v, u] w fun e w' => e = .returned (.bool (decide (rs = ss))) ∧ Below w.heap.size w w' := by
  have H := Lib.hid (fun w h g => spansFunc_any v u rs ss w h g hs ht)
  have HV := Lib.hid h
  have HU := Lib.hid g
  clear h g hs ht
  generalize decide (rs = ss) = r at *
  go_enter Tryd.func9, Tryd.ntmps9
  go_wp2_with fail
  refine (H.out _ HV.out HU.out).mono ?_
  rintro e w1 ⟨rfl, b1⟩
  go_wp2
  go_ret
  exact ⟨rfl, b1⟩
end Go.Proofs.YtmkcfkblfjhnhaaDoor
namespace Go.Proofs.YtmkcfkblfjhnhaaDoor
/-- The decimal digits of u. -/
def decI (u : Nat) : List Int := if u < 10 then [48 + (u : Int)] else decI (u / 10) ++ [48 + ((u % 10 : Nat) : Int)]
  termination_by u
  decreasing_by omega
theorem decI_small (u : Nat) (h : u < 10) : decI u = [48 + (u : Int)] := by rw [decI, if_pos h]
theorem decI_big (u : Nat) (h : 10 ≤ u) : decI u = decI (u / 10) ++ [48 + ((u % 10 : Nat) : Int)] := by rw [decI, if_neg (by omega)]
theorem decI_digits (u : Nat) : (decI u).map (fun n => UInt8.ofNat n.toNat) = Lib.decDigits u := by
  induction u using Nat.strongRecOn with
  | _ u ih =>
    by_cases h : u < 10
    · rw [decI_small u h, Lib.decDigits_one h]
      simp only [List.map_cons, List.map_nil]
      rw [show (48 + (u : Int)).toNat = 48 + u by omega]
    · rw [decI_big u (by omega), Lib.decDigits, dif_neg h, List.map_append, ih _ (by omega)]
      simp only [List.map_cons, List.map_nil]
      rw [show (48 + ((u % 10 : Nat) : Int)).toNat = 48 + u % 10 by omega]
theorem str_decI (u : Nat) : strOfNums (decI u) = ⟨(Lib.itoa (u : Int)).toArray⟩ := by
  unfold strOfNums; rw [decI_digits, Lib.itoa_nonneg]
theorem str_decI_neg (u : Nat) (h : 1 ≤ u) : strOfNums (45 :: decI u) = ⟨(Lib.itoa (-(u : Int))).toArray⟩ := by
  unfold strOfNums; rw [List.map_cons, decI_digits, Lib.itoa_neg u h]; rfl
theorem decI_length (u : Nat) (h : u ≤ 9223372036854775808) (h1 : 1 ≤ u) : (decI u).length ≤ 21 := by
  have h2 := Lib.itoa_length_le (-(u : Int)) (by omega) (by omega)
  rw [Lib.itoa_neg u h1, ← decI_digits] at h2
  simp at h2
  omega
/-- What the loop has made of u: xs, and m is left. -/
def DecInv (u m : Nat) (xs : List Int) : Prop := if m = 0 then xs = decI u else decI m ++ xs = decI u
theorem decInv_start (u : Nat) (h : 1 ≤ u) : DecInv u u [] := by unfold DecInv; rw [if_neg (by omega)]; simp
theorem decInv_step {u m : Nat} {xs : List Int} (h : DecInv u m xs) (hm : 1 ≤ m) : DecInv u (m / 10) ((48 + ((m % 10 : Nat) : Int)) :: xs) := by
  unfold DecInv at *
  rw [if_neg (by omega)] at h
  by_cases h10 : m < 10
  · rw [if_pos (by omega), ← h, decI_small m h10, show m % 10 = m by omega]; rfl
  · rw [if_neg (by omega), ← h, decI_big m (by omega)]; simp
theorem decInv_end {u : Nat} {xs : List Int} (h : DecInv u 0 xs) : xs = decI u := by unfold DecInv at h; rwa [if_pos rfl] at h
theorem decInv_len {u m : Nat} {xs : List Int} (h : DecInv u m xs) (hu : u ≤ 9223372036854775808) (h1 : 1 ≤ u) : xs.length ≤ 21 := by
  have h2 := decI_length u hu h1
  unfold DecInv at h
  split at h
  · rw [h]; exact h2
  · rw [← h] at h2; simp at h2; omega
end Go.Proofs.YtmkcfkblfjhnhaaDoor
namespace Go.Proofs.YtmkcfkblfjhnhaaDoor
open Go.RowKit
set_option linter.unusedVariables false
theorem specFmt_zero (w : World) : Calls Tryd.prog 33 #[.int .i64 0] w fun e w' => e = .returned (.string ⟨#[48]⟩) ∧ Below w.heap.size w w' := by
  go_enter Tryd.func33, Tryd.ntmps33
  go_wp2
  go_ret
  exact ⟨rfl, Below.refl _ _⟩
set_option maxRecDepth 100000 in
theorem specFmt_pos (u : Nat) (w : World) (h1 : 1 ≤ u) (h2 : u ≤ 9223372036854775807) : Calls Tryd.prog 33 #[.int .i64 u] w fun e w' => e = .returned (.string (strOfNums (decI u))) ∧ Below w.heap.size w w' := by
  have hcv := string_lit1
  have hz : ((u : Int) == 0) = false := by rw [beq_eq_false_iff_ne]; omega
  have hneg : decide ((u : Int) < 0) = false := by simp
  go_enter Tryd.func33, Tryd.ntmps33
  go_wp2
  go_loopw [0, 3] (fun n s wr => ∃ (m : Nat) (xs : List Int), m ≤ u ∧ n = .int .i64 m ∧ s = .string (strOfNums xs) ∧ Below w.heap.size w wr ∧ Hid (DecInv u m xs)) (fun n _ _ => (intOf n).toNat)
  case atStart => exact ⟨u, [], Nat.le_refl _, rfl, rfl, Below.refl _ _, Lib.hid (decInv_start u h1)⟩
  case round =>
    obtain ⟨m, xs, hm, rfl, rfl, hbel, hinv⟩ := hrel
    have hB := hbel.size
    by_cases hlt : 1 ≤ m
    · have hz : ((m : Int) != 0) = true := by rw [bne_iff_ne]; omega
      have HS := Lib.hid (decInv_step hinv.out hlt)
      have hl := decInv_len hinv.out (by omega) h1
      have hb2 := hbel.alloc hB (.cells #[.int .u8 (48 + (m : Int) % 10)] 5)
      have hadd := concat_cons (48 + (m : Int) % 10) xs (by omega)
      have hml : m / 10 < m := by omega
      go_wp2
      go_roundw
      case rel => exact ⟨m / 10, _, by omega, by go_num, by rfl, hb2, by have := HS.out; simpa using Lib.hid this⟩
      case measure => simp [intOf]; omega
    · obtain rfl : m = 0 := by omega
      have HE := Lib.hid (decInv_end hinv.out)
      go_wp2
      go_ret
      exact ⟨ret_strI HE.out, hbel⟩
set_option maxRecDepth 100000 in
theorem specFmt_neg (u : Nat) (w : World) (h1 : 1 ≤ u) (h2 : u ≤ 9223372036854775808) : Calls Tryd.prog 33 #[.int .i64 (-(u : Int))] w fun e w' => e = .returned (.string (strOfNums (45 :: decI u))) ∧ Below w.heap.size w w' := by
  have hcv := string_lit1
  have hz : ((-(u : Int)) == 0) = false := by rw [beq_eq_false_iff_ne]; omega
  have hneg : decide (0 < u) = true := by simp; omega
  have H2 := Lib.hid h2; clear h2
  go_enter Tryd.func33, Tryd.ntmps33
  go_wp2
  go_loopw [0, 3] (fun n s wr => ∃ (m : Nat) (xs : List Int), m ≤ u ∧ n = .int .i64 (-(m : Int)) ∧ s = .string (strOfNums xs) ∧ Below w.heap.size w wr ∧ Hid (DecInv u m xs)) (fun n _ _ => (-(intOf n)).toNat)
  case atStart => exact ⟨u, [], Nat.le_refl _, rfl, rfl, Below.refl _ _, Lib.hid (decInv_start u h1)⟩
  case round =>
    obtain ⟨m, xs, hm, rfl, rfl, hbel, hinv⟩ := hrel
    have hB := hbel.size
    by_cases hlt : 1 ≤ m
    · have hz : ((-(m : Int)) != 0) = true := by rw [bne_iff_ne]; omega
      have HS := Lib.hid (decInv_step hinv.out hlt)
      have hl := decInv_len hinv.out H2.out h1
      have hml : m / 10 < m := by omega
      have e1 : (-(m : Int)).tmod 10 = -((m : Int) % 10) := by rw [Int.neg_tmod, Int.tmod_eq_emod_of_nonneg (by omega)]
      have e2 : (-(m : Int)).tdiv 10 = -((m : Int) / 10) := by rw [Int.neg_tdiv, Int.tdiv_eq_ediv_of_nonneg (by omega)]
      have hbd : (m : Int) / 10 ≤ 922337203685477580 := by have := H2.out; omega
      by_cases hr : m % 10 = 0
      · have hr' : (m : Int) % 10 = 0 := by omega
        have HX : Hid (DecInv u (m / 10) (48 :: xs)) := Lib.hid (by have := HS.out; rwa [show ((m % 10 : Nat) : Int) = 0 by omega] at this)
        have hadd := concat_cons 48 xs (by omega)
        have hb2 := hbel.alloc hB (.cells #[.int .u8 48] 5)
        rw [hr'] at e1
        clear hr hr' HS
        go_wp2
        go_roundw
        case rel => exact ⟨m / 10, _, by omega, by go_num, by rfl, hb2, HX⟩
        case measure => simp [intOf]; omega
      · have hr' : 0 < (m : Int) % 10 := by omega
        have hadd := concat_cons (48 + (m : Int) % 10) xs (by omega)
        have hb2 := hbel.alloc hB (.cells #[.int .u8 (48 + (m : Int) % 10)] 5)
        clear hr
        go_wp2
        go_roundw
        case rel => exact ⟨m / 10, _, by omega, by go_num, by rfl, hb2, by have := HS.out; simpa using Lib.hid this⟩
        case measure => simp [intOf]; omega
    · obtain rfl : m = 0 := by omega
      have HE := Lib.hid (decInv_end hinv.out)
      have hl := decInv_len hinv.out H2.out h1
      have hadd := concat_cons 45 xs (by omega)
      have hadd' : ∀ w, (Op.stringOp .add ⟨#[45]⟩ (strOfNums xs)).run Tryd.prog w = .ok (.string (strOfNums (45 :: xs))) w := hadd
      go_wp2
      go_ret
      exact ⟨ret_strI (by rw [HE.out]), hbel⟩
theorem specFmt (n : Int) (w : World) (h0 : -9223372036854775808 ≤ n) (h1 : n ≤ 9223372036854775807) : Calls Tryd.prog 33 #[.int .i64 n] w fun e w' => e = .returned (.string ⟨(Lib.itoa n).toArray⟩) ∧ Below w.heap.size w w' := by
  by_cases hz : n = 0
  · subst hz; rw [show Lib.itoa 0 = [48] by unfold Lib.itoa; rw [if_neg (by decide)]; exact Lib.decDigits_one (by decide)]; exact specFmt_zero w
  · by_cases hp : 0 < n
    · obtain ⟨u, rfl⟩ := Int.eq_ofNat_of_zero_le (show 0 ≤ n by omega)
      rw [← str_decI]; exact specFmt_pos u w (by omega) (by omega)
    · obtain ⟨u, hu⟩ := Int.eq_ofNat_of_zero_le (show 0 ≤ -n by omega)
      obtain rfl : n = -(u : Int) := by omega
      rw [← str_decI_neg u (by omega)]; exact specFmt_neg u w (by omega) (by omega)
/-- The library's table reads as its text lays it. -/
def Tab (w : World) : Prop := Lib.TabIs Tryd.prog w "internal/strconv.uint64pow10" .u64 Lib.pow10Tab
theorem Tab.on {w w' : World} (h : Tab w) (hb : Below w.heap.size w w') : Tab w' := Lib.tabBelow_of_tabIs h w' hb
theorem implFmt (n : Int) (w : World) (h0 : -9223372036854775808 ≤ n) (h1 : n ≤ 9223372036854775807) (htab : Tab w) : Calls Tryd.prog 50 #[.int .i64 n] w fun e w' => e = .returned (.string ⟨(Lib.itoa n).toArray⟩) ∧ Below w.heap.size w w' := by
  have H := Lib.hid htab; clear htab
  go_enter Tryd.func50, Tryd.ntmps50
  go_wp2_with (go_at_call 66; refine (Tryd.strconv_Itoa n h0 h1 _ H.out).mono ?_; rintro e w' ⟨rfl, k, os, rfl⟩)
  go_ret
  exact ⟨rfl, Lib.below_grow _ _ (Nat.le_refl _) k os⟩
end Go.Proofs.YtmkcfkblfjhnhaaDoor
namespace Go.Proofs.YtmkcfkblfjhnhaaDoor
/-- The runs of adjacent numbers. -/
def runs : List Int → List (Int × Int)
  | [] => []
  | x :: r => match runs r with
    | [] => [(x, x)]
    | (a, b) :: t => if a = x + 1 then (x, b) :: t else (x, x) :: (a, b) :: t
theorem runs_cons (x : Int) (r : List Int) : ∃ b t, runs (x :: r) = (x, b) :: t := by
  simp only [runs]
  split
  · exact ⟨x, [], rfl⟩
  · split
    · exact ⟨_, _, rfl⟩
    · exact ⟨_, _, rfl⟩
theorem runs_join {x y : Int} {r : List Int} {b : Int} {t : List (Int × Int)} (h : y = x + 1) (e : runs (y :: r) = (y, b) :: t) : runs (x :: y :: r) = (x, b) :: t := by
  rw [runs, e]; simp only [if_pos h]
theorem runs_part {x y : Int} {r : List Int} (h : y ≠ x + 1) : runs (x :: y :: r) = (x, x) :: runs (y :: r) := by
  obtain ⟨b, t, e⟩ := runs_cons y r
  rw [runs, e]; simp only [if_neg h]
/-- The greatest run that begins at i ends at i + n. -/
theorem run_max (l : List Int) : ∀ (n i : Nat), i + n < l.length → (∀ j, j < n → l.getD (i + j + 1) 0 = l.getD (i + j) 0 + 1) → (i + n + 1 < l.length → l.getD (i + n + 1) 0 ≠ l.getD (i + n) 0 + 1) →
    runs (l.drop i) = (l.getD i 0, l.getD (i + n) 0) :: runs (l.drop (i + n + 1)) := by
  have hd : ∀ i, i < l.length → l.drop i = l.getD i 0 :: l.drop (i + 1) := by
    intro i hi
    rw [List.drop_eq_getElem_cons hi]; simp [List.getD, hi]
  intro n
  induction n with
  | zero =>
    intro i hi _ hm
    rw [hd i (by omega)]
    by_cases h1 : i + 1 < l.length
    · rw [show i + 0 + 1 = i + 1 from rfl, hd (i + 1) h1]
      rw [runs_part (by simpa using hm (by omega))]
      rfl
    · rw [List.drop_eq_nil_of_le (show l.length ≤ i + 1 by omega)]
      rfl
  | succ n ih =>
    intro i hi hc hm
    have h1 := ih (i + 1) (by omega) (fun j hj => by have := hc (j + 1) (by omega); rw [show i + 1 + j + 1 = i + (j + 1) + 1 by omega, show i + 1 + j = i + (j + 1) by omega]; exact this)
      (fun hl => by rw [show i + 1 + n + 1 = i + (n + 1) + 1 by omega, show i + 1 + n = i + (n + 1) by omega]; exact hm (by omega))
    have h0 := hc 0 (by omega)
    rw [hd i (by omega), hd (i + 1) (by omega)]
    rw [hd (i + 1) (by omega)] at h1
    rw [runs_join (by simpa using h0) h1, show i + 1 + n = i + (n + 1) by omega]
/-- The text of a run. -/
def runText (r : Int × Int) : List UInt8 := if r.1 = r.2 then Lib.itoa r.1 else Lib.itoa r.1 ++ 45 :: Lib.itoa r.2
/-- The texts of runs behind the text s. -/
def glue (s : List UInt8) : List (Int × Int) → List UInt8
  | [] => s
  | r :: t => glue ((if s = [] then s else s ++ [32]) ++ runText r) t
/-- FormatSet of a set. -/
def fmtRuns (l : List Int) : List UInt8 := if l = [] then [110, 111, 110, 101] else glue [] (runs l)
theorem itoa_ne (n : Int) : Lib.itoa n ≠ [] := by
  unfold Lib.itoa
  split
  · simp
  · unfold Lib.decDigits; split <;> simp
theorem runText_ne (r : Int × Int) : runText r ≠ [] := by
  unfold runText; split
  · exact itoa_ne _
  · simp
theorem runText_len (r : Int × Int) (h1 : -9223372036854775808 ≤ r.1 ∧ r.1 ≤ 9223372036854775807) (h2 : -9223372036854775808 ≤ r.2 ∧ r.2 ≤ 9223372036854775807) : (runText r).length ≤ 43 := by
  have a := Lib.itoa_length_le r.1 h1.1 h1.2
  have b := Lib.itoa_length_le r.2 h2.1 h2.2
  unfold runText; split
  · omega
  · simp; omega
/-- n numbers from f on. -/
def upN (f : Int) (n : Nat) : List Int := (List.range n).map (fun (i : Nat) => f + (i : Int))
end Go.Proofs.YtmkcfkblfjhnhaaDoor
namespace Go.Proofs.YtmkcfkblfjhnhaaDoor
open Go.RowKit
set_option linter.unusedVariables false
/-- A text as a string. -/
def strB (l : List UInt8) : ByteArray := ⟨l.toArray⟩
theorem strB_size (l : List UInt8) : (strB l).size = l.length := by simp [strB, ByteArray.size]
theorem strB_add (a b : List UInt8) (h : a.length + b.length ≤ 1073741824) (w : World) : (Op.stringOp .add (strB a) (strB b)).run Tryd.prog w = .ok (.string (strB (a ++ b))) w := by
  rw [run_string_add_sum w _ _ (by rw [strB_size, strB_size]; omega)]
  congr 2
theorem strB_toList (l : List UInt8) : (strB l).toList = l := by rw [ByteArray.toList_eq]; rfl
theorem strB_none {l : List UInt8} (h : l = []) : (strB l).toList = [] ∧ (strB l).toList.isEmpty = true := by rw [strB_toList, h]; exact ⟨rfl, rfl⟩
theorem strB_some {l : List UInt8} (h : l ≠ []) : ¬ (strB l).toList = [] ∧ (strB l).toList.isEmpty = false := by
  rw [strB_toList]
  cases l with
  | nil => exact absurd rfl h
  | cons a r => exact ⟨by simp, rfl⟩
theorem fmtB (n : Int) (w : World) (h0 : 0 ≤ n) (h1 : n ≤ 23) : Calls Tryd.prog 33 #[.int .i64 n] w fun e w' => e = .returned (.string (strB (Lib.itoa n))) ∧ Below w.heap.size w w' := specFmt n w (by omega) (by omega)
theorem set_ge {l : List Int} (h : SetL l) : ∀ i, i < l.length → (i : Int) ≤ l.getD i 0 := by
  intro i
  induction i with
  | zero => intro hi; have := h.1 0 hi; omega
  | succ i ih => intro hi; have h1 := ih (by omega); have h2 := h.2 i hi; omega
theorem set_len {l : List Int} (h : SetL l) : l.length ≤ 24 := by
  by_cases h0 : l.length = 0
  · omega
  · have h1 := set_ge h (l.length - 1) (by omega)
    have h2 := h.1 (l.length - 1) (by omega)
    omega
/-- FormatSet. -/
def fmtSet (l : List Int) : List UInt8 := if setB l then fmtRuns l else []
theorem fmtSet_no {l : List Int} (h : setB l = false) : fmtSet l = [] := by unfold fmtSet; rw [h]; rfl
theorem fmtSet_nil : fmtSet [] = [110, 111, 110, 101] := rfl
theorem fmtSet_yes {l : List Int} (h : setB l = true) (h0 : l ≠ []) : fmtSet l = glue [] (runs l) := by unfold fmtSet fmtRuns; rw [h, if_neg h0]; rfl
theorem glue_one (s : List UInt8) (r : Int × Int) (t : List (Int × Int)) : glue s (r :: t) = glue ((if s = [] then s else s ++ [32]) ++ runText r) t := rfl
theorem text_one {x y : Int} (h : x = y) : runText (x, y) = Lib.itoa x := by unfold runText; rw [if_pos h]
theorem text_two {x y : Int} (h : x ≠ y) : runText (x, y) = Lib.itoa x ++ 45 :: Lib.itoa y := by unfold runText; rw [if_neg h]
theorem ret_s {a b : List UInt8} (h : a = b) : Ending.returned (.string (strB a)) = .returned (.string (strB b)) := by rw [h]
theorem run_up (l : List Int) (i n : Nat) (h : ∀ j, j < n → l.getD (i + j + 1) 0 = l.getD (i + j) 0 + 1) : l.getD (i + n) 0 = l.getD i 0 + n := by
  induction n with
  | zero => simp
  | succ n ih => have h1 := ih (fun j hj => h j (by omega)); have h2 := h n (by omega); rw [show i + (n + 1) = i + n + 1 by omega, h2, h1]; omega
theorem below_step {q : Nat} {w wr w5 : World} (h : Below w.heap.size w wr) (h5 : Below (wr.drewN q).heap.size (wr.drewN q) w5) : Below w.heap.size w w5 := by
  have h2 : Below w.heap.size w (wr.drewN q) := below_same h rfl rfl rfl rfl
  exact h2.trans (h5.mono h2.size)
theorem specFmtSet_no (v : Value) (xs : List Int) (w : World) (h : Ints w v xs) (hn : xs.length ≤ 1073741824) (hs : setB xs = false) :
    Calls Tryd.prog 32 #[v] w fun e w' => e = .returned (.string (strB (fmtSet xs))) ∧ Below w.heap.size w w' := by
  have H := Lib.hid h
  have HS := Lib.hid hs
  have HE := Lib.hid (fmtSet_no hs)
  clear h hs
  go_enter Tryd.func32, Tryd.ntmps32
  go_wp2_with fail
  refine (specIsSetBig v xs _ H.out hn).mono ?_
  rintro e w1 ⟨rfl, b1⟩
  rw [HS.out]
  go_wp2
  go_ret
  exact ⟨ret_s HE.out.symm, b1⟩
set_option maxHeartbeats 16000000 in
set_option maxRecDepth 100000 in
theorem specFmtSet_yes (v : Value) (xs : List Int) (w : World) (h : Ints w v xs) (hn : xs.length ≤ 1073741824) (hs : setB xs = true) :
    Calls Tryd.prog 32 #[v] w fun e w' => e = .returned (.string (strB (fmtSet xs))) ∧ Below w.heap.size w w' := by
  have hset := (setB_iff xs).1 hs
  have hl24 := set_len hset
  have H := Lib.hid h
  have HS := Lib.hid hs
  have HR := Lib.hid hset.1
  obtain ⟨a, cap, rfl⟩ := ints_len h
  clear h hs hset
  go_enter Tryd.func32, Tryd.ntmps32
  go_wp2_with fail
  refine (specIsSetBig _ xs _ H.out hn).mono ?_
  rintro e w1 ⟨rfl, b1⟩
  rw [HS.out]
  go_wp2
  go_loopw [3, 4] (fun s i wr => ∃ (k : Nat) (t : List UInt8), k ≤ xs.length ∧ i = .int .i64 k ∧ s = .string (strB t) ∧ t.length ≤ 45 * k ∧ Below w.heap.size w wr ∧ Hid (glue t (runs (xs.drop k)) = glue [] (runs xs)) ∧ Hid (t = [] ↔ k = 0)) (fun _ i _ => xs.length - (intOf i).toNat)
  case atStart => exact ⟨0, [], Nat.zero_le _, rfl, rfl, by simp, b1, Lib.hid rfl, Lib.hid ⟨fun _ => rfl, fun _ => rfl⟩⟩
  case round =>
    obtain ⟨k, t, hk, rfl, rfl, htl, hbel, hgl, hte⟩ := hrel
    clear b1
    by_cases hlt : k < xs.length
    · obtain ⟨b, off, cap', hv, hbl, hc⟩ := ints_cell H.out (by omega)
      simp only [Value.slice.injEq] at hv
      obtain ⟨rfl, _, rfl⟩ := hv
      have HC := Lib.hid hc
      clear hc
      obtain ⟨wo, hwo⟩ : ∃ wo : World, wo = wr := ⟨_, rfl⟩
      subst hwo
      have i1 : (0 : Int) ≤ (k : Int) := by omega
      have i2 : (k : Int) < (xs.length : Int) := by omega
      go_wp2
      go_loopw [5] (fun j wr => ∃ n : Nat, k + n < xs.length ∧ j = .int .i64 ((k + n : Nat) : Int) ∧ Below w.heap.size w wr ∧ Hid (∀ j, j < n → xs.getD (k + j + 1) 0 = xs.getD (k + j) 0 + 1)) (fun j _ => xs.length - (intOf j).toNat)
      case atStart => exact ⟨0, by omega, rfl, hbel, Lib.hid (fun j hj => by omega)⟩
      case round =>
        obtain ⟨n, hkn, rfl, hbel2, hcon⟩ := hrel
        clear hbel
        have hcell := (hbel2.cell (p := ⟨b, off + (k + n), none⟩) hbl).trans (HC.out (k + n) hkn)
        have hcellk := (hbel2.cell (p := ⟨b, off + k, none⟩) hbl).trans (HC.out k hlt)
        have hrk := HR.out k hlt
        have hrm := HR.out (k + n) hkn
        have HUP := Lib.hid (run_up xs k n hcon.out)
        generalize hm : k + n = m at *
        by_cases hn1 : m + 1 < xs.length
        · have hcell1 := (hbel2.cell (p := ⟨b, off + (m + 1), none⟩) hbl).trans (HC.out (m + 1) hn1)
          have i3 : (0 : Int) ≤ (m : Int) + 1 := by omega
          have i4 : (m : Int) + 1 < (xs.length : Int) := by omega
          have i5 : (0 : Int) ≤ (m : Int) := by omega
          have i6 : (m : Int) < (xs.length : Int) := by omega
          have e1 : IntKind.i64.wrap ((m : Int) + 1) = (m : Int) + 1 := IntWalk.i64_in _ (by omega)
          have e2 : IntKind.i64.wrap (xs.getD m 0 + 1) = xs.getD m 0 + 1 := IntWalk.i64_in _ (by omega)
          have i7 : ((m : Int) + 1).toNat = m + 1 := by omega
          by_cases hne : xs.getD (m + 1) 0 = xs.getD m 0 + 1
          · have HN : Hid (∀ j, j < n + 1 → xs.getD (k + j + 1) 0 = xs.getD (k + j) 0 + 1) := Lib.hid (fun j hj => by
              by_cases e : j = n
              · rw [e, hm]; exact hne
              · exact hcon.out j (by omega))
            have heq : (xs.getD (m + 1) 0 == xs.getD m 0 + 1) = true := by rw [beq_iff_eq]; exact hne
            have HMK := Lib.hid hm
            clear hne hm hcellk HUP
            generalize xs.getD (m + 1) 0 = z at *
            generalize xs.getD m 0 = y at *
            clear hcon
            go_wp2_with fail
            go_quiet (fail)
            go_wp2
            go_roundw
            case rel => exact ⟨n + 1, by have := HMK.out; omega, by have := HMK.out; go_num, below_same hbel2 rfl rfl rfl rfl, HN⟩
            case measure => simp [intOf]; omega
          · have heq : (xs.getD (m + 1) 0 == xs.getD m 0 + 1) = false := by rw [beq_eq_false_iff_ne]; exact hne
            have HNE := Lib.hid hne
            clear hne
            generalize hz : xs.getD (m + 1) 0 = z at hcell1 heq
            clear hz
            have HM : Hid (runs (xs.drop k) = (xs.getD k 0, xs.getD m 0) :: runs (xs.drop (m + 1))) := Lib.hid (by rw [← hm]; exact run_max xs n k (by omega) hcon.out (by rw [hm]; exact fun _ => HNE.out))
            have HG : Hid (glue ((if t = [] then t else t ++ [32]) ++ runText (xs.getD k 0, xs.getD m 0)) (runs (xs.drop (m + 1))) = glue [] (runs xs)) := Lib.hid (by rw [← glue_one, ← HM.out]; exact hgl.out)
            clear HM hgl hcon
            generalize hx : xs.getD k 0 = x at *
            obtain ⟨x0, x1⟩ := hrk
            generalize hy : xs.getD m 0 = y at *
            obtain ⟨y0, y1⟩ := hrm
            have hlx := Lib.hid (Lib.itoa_length_le x (by omega) (by omega))
            have hly := Lib.hid (Lib.itoa_length_le y (by omega) (by omega))
            have HXY : Hid (y = x + (n : Int)) := Lib.hid HUP.out
            clear HUP hx hy
            have HKM : Hid (m = k + n) := Lib.hid hm.symm
            have hkm : k ≤ m := by omega
            clear hm
            by_cases ht : t = []
            · have f := strB_none ht
              obtain ⟨f1, f2⟩ := f
              have HG2 : Hid (glue (t ++ runText (x, y)) (runs (xs.drop (m + 1))) = glue [] (runs xs)) := Lib.hid (by have := HG.out; rwa [if_pos ht] at this)
              have d2 := strB_add t (Lib.itoa x) (by have := hlx.out; omega)
              clear HG ht
              by_cases hn0 : n = 0
              · have hxy : x = y := by have := HXY.out; omega
                have hmk : m = k := by have := HKM.out; omega
                have HF : Hid (glue (t ++ Lib.itoa x) (runs (xs.drop (m + 1))) = glue [] (runs xs)) := Lib.hid (by have := HG2.out; rwa [text_one hxy] at this)
                have HT : Hid (t ++ Lib.itoa x = [] ↔ m + 1 = 0) := Lib.hid ⟨fun g => absurd (List.append_eq_nil_iff.1 g).2 (itoa_ne _), fun g => by omega⟩
                have HLEN : Hid ((t ++ Lib.itoa x).length ≤ 45 * (m + 1)) := Lib.hid (by have := hlx.out; simp; omega)
                have hgt : decide (k < m) = false := by rw [decide_eq_false_iff_not]; omega
                have HMK := Lib.hid hmk
                clear hxy hn0 hmk HG2
                go_wp2_with fail
                go_quiet (fail)
                go_wp2_with (go_at_call 33; refine (fmtB x _ x0 x1).mono ?_; rintro e w5 ⟨rfl, hb5⟩)
                go_roundw
                case rel => exact ⟨m + 1, t ++ Lib.itoa x, by omega, by go_num, by simp, HLEN.out, below_step hbel2 hb5, HF, HT⟩
                case measure => simp [intOf]; omega
              · have hxy : x ≠ y := by have := HXY.out; omega
                have HF : Hid (glue (t ++ Lib.itoa x ++ [45] ++ Lib.itoa y) (runs (xs.drop (m + 1))) = glue [] (runs xs)) := Lib.hid (by have := HG2.out; rw [text_two hxy] at this; simpa using this)
                have HT : Hid (t ++ Lib.itoa x ++ [45] ++ Lib.itoa y = [] ↔ m + 1 = 0) := Lib.hid ⟨fun g => absurd (List.append_eq_nil_iff.1 g).2 (itoa_ne _), fun g => by omega⟩
                have HLEN : Hid ((t ++ Lib.itoa x ++ [45] ++ Lib.itoa y).length ≤ 45 * (m + 1)) := Lib.hid (by have := hlx.out; have := hly.out; have := HKM.out; simp; omega)
                have hgt : k < m := by have := HKM.out; omega
                have d3 : ∀ w, (Op.stringOp .add (strB (t ++ Lib.itoa x)) ⟨#[45]⟩).run Tryd.prog w = .ok (.string (strB (t ++ Lib.itoa x ++ [45]))) w := strB_add (t ++ Lib.itoa x) [45] (by have := hlx.out; simp; omega)
                have d4 := strB_add (t ++ Lib.itoa x ++ [45]) (Lib.itoa y) (by have := hlx.out; have := hly.out; simp; omega)
                simp only [List.append_assoc, List.cons_append, List.nil_append] at d4
                clear hxy hn0 HG2
                go_wp2_with fail
                go_quiet (fail)
                go_wp2_with fail
                refine (fmtB x _ x0 x1).mono ?_
                rintro e w5 ⟨rfl, hb5⟩
                have hb6 := below_step hbel2 hb5
                have hcell6 := (hb6.cell (p := ⟨b, off + m, none⟩) hbl).trans ((hbel2.cell (p := ⟨b, off + m, none⟩) hbl).symm.trans hcell)
                clear hb5 hcellk hcell
                go_wp2_with fail
                refine (fmtB y _ y0 y1).mono ?_
                rintro e w6 ⟨rfl, hb7⟩
                go_wp2
                go_roundw
                case rel => exact ⟨m + 1, t ++ Lib.itoa x ++ [45] ++ Lib.itoa y, by omega, by go_num, by simp, HLEN.out, hb6.trans (hb7.mono hb6.size), HF, HT⟩
                case measure => simp [intOf]; omega
            · have f := strB_some ht
              obtain ⟨f1, f2⟩ := f
              have HG2 : Hid (glue ((t ++ [32]) ++ runText (x, y)) (runs (xs.drop (m + 1))) = glue [] (runs xs)) := Lib.hid (by have := HG.out; rwa [if_neg ht] at this)
              have d1 : ∀ w, (Op.stringOp .add (strB t) ⟨#[32]⟩).run Tryd.prog w = .ok (.string (strB (t ++ [32]))) w := strB_add t [32] (by simp; omega)
              have d2 := strB_add (t ++ [32]) (Lib.itoa x) (by have := hlx.out; simp; omega)
              clear HG ht
              by_cases hn0 : n = 0
              · have hxy : x = y := by have := HXY.out; omega
                have hmk : m = k := by have := HKM.out; omega
                have HF : Hid (glue ((t ++ [32]) ++ Lib.itoa x) (runs (xs.drop (m + 1))) = glue [] (runs xs)) := Lib.hid (by have := HG2.out; rwa [text_one hxy] at this)
                have HT : Hid ((t ++ [32]) ++ Lib.itoa x = [] ↔ m + 1 = 0) := Lib.hid ⟨fun g => absurd (List.append_eq_nil_iff.1 g).2 (itoa_ne _), fun g => by omega⟩
                have HLEN : Hid (((t ++ [32]) ++ Lib.itoa x).length ≤ 45 * (m + 1)) := Lib.hid (by have := hlx.out; simp; omega)
                have hgt : decide (k < m) = false := by rw [decide_eq_false_iff_not]; omega
                have HMK := Lib.hid hmk
                clear hxy hn0 hmk HG2
                go_wp2_with fail
                go_quiet (fail)
                go_wp2_with (go_at_call 33; refine (fmtB x _ x0 x1).mono ?_; rintro e w5 ⟨rfl, hb5⟩)
                go_roundw
                case rel => exact ⟨m + 1, (t ++ [32]) ++ Lib.itoa x, by omega, by go_num, by simp, HLEN.out, below_step hbel2 hb5, HF, HT⟩
                case measure => simp [intOf]; omega
              · have hxy : x ≠ y := by have := HXY.out; omega
                have HF : Hid (glue ((t ++ [32]) ++ Lib.itoa x ++ [45] ++ Lib.itoa y) (runs (xs.drop (m + 1))) = glue [] (runs xs)) := Lib.hid (by have := HG2.out; rw [text_two hxy] at this; simpa using this)
                have HT : Hid ((t ++ [32]) ++ Lib.itoa x ++ [45] ++ Lib.itoa y = [] ↔ m + 1 = 0) := Lib.hid ⟨fun g => absurd (List.append_eq_nil_iff.1 g).2 (itoa_ne _), fun g => by omega⟩
                have HLEN : Hid (((t ++ [32]) ++ Lib.itoa x ++ [45] ++ Lib.itoa y).length ≤ 45 * (m + 1)) := Lib.hid (by have := hlx.out; have := hly.out; have := HKM.out; simp; omega)
                have hgt : k < m := by have := HKM.out; omega
                have d3 : ∀ w, (Op.stringOp .add (strB ((t ++ [32]) ++ Lib.itoa x)) ⟨#[45]⟩).run Tryd.prog w = .ok (.string (strB ((t ++ [32]) ++ Lib.itoa x ++ [45]))) w := strB_add ((t ++ [32]) ++ Lib.itoa x) [45] (by have := hlx.out; simp; omega)
                have d4 := strB_add ((t ++ [32]) ++ Lib.itoa x ++ [45]) (Lib.itoa y) (by have := hlx.out; have := hly.out; simp; omega)
                simp only [List.append_assoc, List.cons_append, List.nil_append] at d4
                simp only [List.append_assoc, List.cons_append, List.nil_append] at d3
                clear hxy hn0 HG2
                go_wp2_with fail
                go_quiet (fail)
                go_wp2_with fail
                refine (fmtB x _ x0 x1).mono ?_
                rintro e w5 ⟨rfl, hb5⟩
                have hb6 := below_step hbel2 hb5
                have hcell6 := (hb6.cell (p := ⟨b, off + m, none⟩) hbl).trans ((hbel2.cell (p := ⟨b, off + m, none⟩) hbl).symm.trans hcell)
                clear hb5 hcellk hcell
                go_wp2_with fail
                refine (fmtB y _ y0 y1).mono ?_
                rintro e w6 ⟨rfl, hb7⟩
                go_wp2
                go_roundw
                case rel => exact ⟨m + 1, (t ++ [32]) ++ Lib.itoa x ++ [45] ++ Lib.itoa y, by omega, by go_num, by simp, HLEN.out, hb6.trans (hb7.mono hb6.size), HF, HT⟩
                case measure => simp [intOf]; omega
        · have i3 : ¬ ((m : Int) + 1 < (xs.length : Int)) := by omega
          have i4 : decide ((m : Int) + 1 < (xs.length : Int)) = false := decide_eq_false i3
          have i5 : (0 : Int) ≤ (m : Int) := by omega
          have i6 : (m : Int) < (xs.length : Int) := by omega
          have e1 : IntKind.i64.wrap ((m : Int) + 1) = (m : Int) + 1 := IntWalk.i64_in _ (by omega)
          have HM : Hid (runs (xs.drop k) = (xs.getD k 0, xs.getD m 0) :: runs (xs.drop (m + 1))) := Lib.hid (by rw [← hm]; exact run_max xs n k (by omega) hcon.out (by rw [hm]; exact fun g => absurd g hn1))
          have HG : Hid (glue ((if t = [] then t else t ++ [32]) ++ runText (xs.getD k 0, xs.getD m 0)) (runs (xs.drop (m + 1))) = glue [] (runs xs)) := Lib.hid (by rw [← glue_one, ← HM.out]; exact hgl.out)
          clear HM hgl hcon
          generalize hx : xs.getD k 0 = x at *
          obtain ⟨x0, x1⟩ := hrk
          generalize hy : xs.getD m 0 = y at *
          obtain ⟨y0, y1⟩ := hrm
          have hlx := Lib.hid (Lib.itoa_length_le x (by omega) (by omega))
          have hly := Lib.hid (Lib.itoa_length_le y (by omega) (by omega))
          have HXY : Hid (y = x + (n : Int)) := Lib.hid HUP.out
          clear HUP hx hy
          have HKM : Hid (m = k + n) := Lib.hid hm.symm
          have hkm : k ≤ m := by omega
          clear hm
          by_cases ht : t = []
          · have f := strB_none ht
            obtain ⟨f1, f2⟩ := f
            have HG2 : Hid (glue (t ++ runText (x, y)) (runs (xs.drop (m + 1))) = glue [] (runs xs)) := Lib.hid (by have := HG.out; rwa [if_pos ht] at this)
            have d2 := strB_add t (Lib.itoa x) (by have := hlx.out; omega)
            clear HG ht
            by_cases hn0 : n = 0
            · have hxy : x = y := by have := HXY.out; omega
              have hmk : m = k := by have := HKM.out; omega
              have HF : Hid (glue (t ++ Lib.itoa x) (runs (xs.drop (m + 1))) = glue [] (runs xs)) := Lib.hid (by have := HG2.out; rwa [text_one hxy] at this)
              have HT : Hid (t ++ Lib.itoa x = [] ↔ m + 1 = 0) := Lib.hid ⟨fun g => absurd (List.append_eq_nil_iff.1 g).2 (itoa_ne _), fun g => by omega⟩
              have HLEN : Hid ((t ++ Lib.itoa x).length ≤ 45 * (m + 1)) := Lib.hid (by have := hlx.out; simp; omega)
              have hgt : decide (k < m) = false := by rw [decide_eq_false_iff_not]; omega
              have HMK := Lib.hid hmk
              clear hxy hn0 hmk HG2
              go_wp2_with fail
              go_quiet (fail)
              go_wp2_with (go_at_call 33; refine (fmtB x _ x0 x1).mono ?_; rintro e w5 ⟨rfl, hb5⟩)
              go_roundw
              case rel => exact ⟨m + 1, t ++ Lib.itoa x, by omega, by go_num, by simp, HLEN.out, below_step hbel2 hb5, HF, HT⟩
              case measure => simp [intOf]; omega
            · have hxy : x ≠ y := by have := HXY.out; omega
              have HF : Hid (glue (t ++ Lib.itoa x ++ [45] ++ Lib.itoa y) (runs (xs.drop (m + 1))) = glue [] (runs xs)) := Lib.hid (by have := HG2.out; rw [text_two hxy] at this; simpa using this)
              have HT : Hid (t ++ Lib.itoa x ++ [45] ++ Lib.itoa y = [] ↔ m + 1 = 0) := Lib.hid ⟨fun g => absurd (List.append_eq_nil_iff.1 g).2 (itoa_ne _), fun g => by omega⟩
              have HLEN : Hid ((t ++ Lib.itoa x ++ [45] ++ Lib.itoa y).length ≤ 45 * (m + 1)) := Lib.hid (by have := hlx.out; have := hly.out; have := HKM.out; simp; omega)
              have hgt : k < m := by have := HKM.out; omega
              have d3 : ∀ w, (Op.stringOp .add (strB (t ++ Lib.itoa x)) ⟨#[45]⟩).run Tryd.prog w = .ok (.string (strB (t ++ Lib.itoa x ++ [45]))) w := strB_add (t ++ Lib.itoa x) [45] (by have := hlx.out; simp; omega)
              have d4 := strB_add (t ++ Lib.itoa x ++ [45]) (Lib.itoa y) (by have := hlx.out; have := hly.out; simp; omega)
              simp only [List.append_assoc, List.cons_append, List.nil_append] at d4
              clear hxy hn0 HG2
              go_wp2_with fail
              go_quiet (fail)
              go_wp2_with fail
              refine (fmtB x _ x0 x1).mono ?_
              rintro e w5 ⟨rfl, hb5⟩
              have hb6 := below_step hbel2 hb5
              have hcell6 := (hb6.cell (p := ⟨b, off + m, none⟩) hbl).trans ((hbel2.cell (p := ⟨b, off + m, none⟩) hbl).symm.trans hcell)
              clear hb5 hcellk hcell
              go_wp2_with fail
              refine (fmtB y _ y0 y1).mono ?_
              rintro e w6 ⟨rfl, hb7⟩
              go_wp2
              go_roundw
              case rel => exact ⟨m + 1, t ++ Lib.itoa x ++ [45] ++ Lib.itoa y, by omega, by go_num, by simp, HLEN.out, hb6.trans (hb7.mono hb6.size), HF, HT⟩
              case measure => simp [intOf]; omega
          · have f := strB_some ht
            obtain ⟨f1, f2⟩ := f
            have HG2 : Hid (glue ((t ++ [32]) ++ runText (x, y)) (runs (xs.drop (m + 1))) = glue [] (runs xs)) := Lib.hid (by have := HG.out; rwa [if_neg ht] at this)
            have d1 : ∀ w, (Op.stringOp .add (strB t) ⟨#[32]⟩).run Tryd.prog w = .ok (.string (strB (t ++ [32]))) w := strB_add t [32] (by simp; omega)
            have d2 := strB_add (t ++ [32]) (Lib.itoa x) (by have := hlx.out; simp; omega)
            clear HG ht
            by_cases hn0 : n = 0
            · have hxy : x = y := by have := HXY.out; omega
              have hmk : m = k := by have := HKM.out; omega
              have HF : Hid (glue ((t ++ [32]) ++ Lib.itoa x) (runs (xs.drop (m + 1))) = glue [] (runs xs)) := Lib.hid (by have := HG2.out; rwa [text_one hxy] at this)
              have HT : Hid ((t ++ [32]) ++ Lib.itoa x = [] ↔ m + 1 = 0) := Lib.hid ⟨fun g => absurd (List.append_eq_nil_iff.1 g).2 (itoa_ne _), fun g => by omega⟩
              have HLEN : Hid (((t ++ [32]) ++ Lib.itoa x).length ≤ 45 * (m + 1)) := Lib.hid (by have := hlx.out; simp; omega)
              have hgt : decide (k < m) = false := by rw [decide_eq_false_iff_not]; omega
              have HMK := Lib.hid hmk
              clear hxy hn0 hmk HG2
              go_wp2_with fail
              go_quiet (fail)
              go_wp2_with (go_at_call 33; refine (fmtB x _ x0 x1).mono ?_; rintro e w5 ⟨rfl, hb5⟩)
              go_roundw
              case rel => exact ⟨m + 1, (t ++ [32]) ++ Lib.itoa x, by omega, by go_num, by simp, HLEN.out, below_step hbel2 hb5, HF, HT⟩
              case measure => simp [intOf]; omega
            · have hxy : x ≠ y := by have := HXY.out; omega
              have HF : Hid (glue ((t ++ [32]) ++ Lib.itoa x ++ [45] ++ Lib.itoa y) (runs (xs.drop (m + 1))) = glue [] (runs xs)) := Lib.hid (by have := HG2.out; rw [text_two hxy] at this; simpa using this)
              have HT : Hid ((t ++ [32]) ++ Lib.itoa x ++ [45] ++ Lib.itoa y = [] ↔ m + 1 = 0) := Lib.hid ⟨fun g => absurd (List.append_eq_nil_iff.1 g).2 (itoa_ne _), fun g => by omega⟩
              have HLEN : Hid (((t ++ [32]) ++ Lib.itoa x ++ [45] ++ Lib.itoa y).length ≤ 45 * (m + 1)) := Lib.hid (by have := hlx.out; have := hly.out; have := HKM.out; simp; omega)
              have hgt : k < m := by have := HKM.out; omega
              have d3 : ∀ w, (Op.stringOp .add (strB ((t ++ [32]) ++ Lib.itoa x)) ⟨#[45]⟩).run Tryd.prog w = .ok (.string (strB ((t ++ [32]) ++ Lib.itoa x ++ [45]))) w := strB_add ((t ++ [32]) ++ Lib.itoa x) [45] (by have := hlx.out; simp; omega)
              have d4 := strB_add ((t ++ [32]) ++ Lib.itoa x ++ [45]) (Lib.itoa y) (by have := hlx.out; have := hly.out; simp; omega)
              simp only [List.append_assoc, List.cons_append, List.nil_append] at d4
              simp only [List.append_assoc, List.cons_append, List.nil_append] at d3
              clear hxy hn0 HG2
              go_wp2_with fail
              go_quiet (fail)
              go_wp2_with fail
              refine (fmtB x _ x0 x1).mono ?_
              rintro e w5 ⟨rfl, hb5⟩
              have hb6 := below_step hbel2 hb5
              have hcell6 := (hb6.cell (p := ⟨b, off + m, none⟩) hbl).trans ((hbel2.cell (p := ⟨b, off + m, none⟩) hbl).symm.trans hcell)
              clear hb5 hcellk hcell
              go_wp2_with fail
              refine (fmtB y _ y0 y1).mono ?_
              rintro e w6 ⟨rfl, hb7⟩
              go_wp2
              go_roundw
              case rel => exact ⟨m + 1, (t ++ [32]) ++ Lib.itoa x ++ [45] ++ Lib.itoa y, by omega, by go_num, by simp, HLEN.out, hb6.trans (hb7.mono hb6.size), HF, HT⟩
              case measure => simp [intOf]; omega
    · obtain rfl : k = xs.length := by omega
      have hg := hgl.out
      rw [List.drop_eq_nil_of_le (Nat.le_refl _)] at hg
      have hg2 : t = glue [] (runs xs) := hg
      by_cases h0 : xs = []
      · have ht : t = [] := hte.out.2 (by rw [h0]; rfl)
        obtain ⟨f1, f2⟩ := strB_none ht
        have HE : Hid (fmtSet xs = [110, 111, 110, 101]) := Lib.hid (by rw [h0]; exact fmtSet_nil)
        clear hg hg2 h0 ht
        go_wp2_with fail
        go_ret
        exact ⟨ret_s HE.out.symm, hbel⟩
      · have ht : t ≠ [] := fun g => h0 (List.eq_nil_of_length_eq_zero (hte.out.1 g))
        obtain ⟨f1, f2⟩ := strB_some ht
        have HE : Hid (fmtSet xs = t) := Lib.hid (by rw [fmtSet_yes HS.out h0]; exact hg2.symm)
        clear hg hg2 h0 ht
        go_wp2_with fail
        go_ret
        exact ⟨ret_s HE.out.symm, hbel⟩
/-- FormatSet returns the text 'fmtSet'. -/
theorem specFmtSetBig (v : Value) (xs : List Int) (w : World) (h : Ints w v xs) (hn : xs.length ≤ 1073741824) :
    Calls Tryd.prog 32 #[v] w fun e w' => e = .returned (.string (strB (fmtSet xs))) ∧ Below w.heap.size w w' := by
  cases hs : setB xs
  · exact specFmtSet_no v xs w h hn hs
  · exact specFmtSet_yes v xs w h hn hs
theorem specFmtSet (v : Value) (xs : List Int) (w : World) (h : Ints w v xs) (hn : xs.length ≤ 1048576) :
    Calls Tryd.prog 32 #[v] w fun e w' => e = .returned (.string (strB (fmtSet xs))) ∧ Below w.heap.size w w' := specFmtSetBig v xs w h (by omega)
end Go.Proofs.YtmkcfkblfjhnhaaDoor
