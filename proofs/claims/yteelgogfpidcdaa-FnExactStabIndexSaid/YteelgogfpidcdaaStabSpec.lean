/-
  The walk of the specification's StabSet.
-/
import Derived.Test.YteelgogfpidcdaaStabMath
import Derived.Test.YteelgogfpidcdaaFindSpec
namespace Go.Proofs.Yteelgogfpidcdaa
open Go.RowKit
set_option linter.unusedVariables false
set_option linter.unusedSimpArgs false
theorem in_is (x lo hi : Int) (w : World) : Calls Try.prog 51 #[.int .i64 x, .int .i64 lo, .int .i64 hi] w fun e w' => e = .returned (.bool (decide (lo ≤ x ∧ x ≤ hi))) ∧ w' = w := by
  by_cases h : lo ≤ x ∧ x ≤ hi
  · rw [decide_eq_true h]; exact in_yes x lo hi w h.1 h.2
  · rw [decide_eq_false h]; exact in_no x lo hi w h
theorem stabS_no {a : List QD} {f v : Int} (h : (areQB a && (okF f && okV v)) = false) : stabL a f v = [] := by unfold stabL; rw [h]; rfl
theorem stabS_yes {a : List QD} {f v : Int} (h : (areQB a && (okF f && okV v)) = true) : stabL a f v = (a.filter (admQ f v)).map (·.1) := by unfold stabL; rw [h]; rfl
theorem admF_yes {a : List QD} {f v : Int} {k : Nat} (hk : k < a.length) (h : admQ f v (a.getD k q0D) = true) : ((a.take k).filter (admQ f v)).map (·.1) ++ [(a.getD k q0D).1] = ((a.take (k + 1)).filter (admQ f v)).map (·.1) := by
  have e : a.getD k q0D = a[k] := by simp [List.getD, hk]
  rw [e] at h ⊢
  rw [List.take_succ_eq_append_getElem hk, List.filter_append, List.map_append]
  simp [List.filter_cons, h]
theorem admF_no {a : List QD} {f v : Int} {k : Nat} (hk : k < a.length) (h : admQ f v (a.getD k q0D) = false) : ((a.take k).filter (admQ f v)).map (·.1) = ((a.take (k + 1)).filter (admQ f v)).map (·.1) := by
  have e : a.getD k q0D = a[k] := by simp [List.getD, hk]
  rw [e] at h
  rw [List.take_succ_eq_append_getElem hk, List.filter_append, List.map_append]
  simp [List.filter_cons, h]
theorem admF_len (a : List QD) (f v : Int) (k : Nat) : (((a.take k).filter (admQ f v)).map (·.1)).length ≤ a.length := by
  rw [List.length_map]
  have := List.length_filter_le (admQ f v) (a.take k)
  rw [List.length_take] at this
  omega
set_option maxHeartbeats 8000000 in
set_option maxRecDepth 100000 in
theorem specStabSet (va : Value) (a : List QD) (f v : Int) (w : World) (h : QueriesR w va a) (hs : szQL a ≤ 1048576) :
    Calls Try.prog 43 #[va, .int .i64 f, .int .i64 v] w (FreshInts w (stabL a f v)) := by
  have H := Lib.hid h
  have HS := Lib.hid hs
  have hn := szQL_len hs
  obtain ⟨ao, cap, rfl⟩ := queriesR_len h
  have HA := Lib.hid (fun w h => specAreQueries (.slice ao a.length cap) a w h hs)
  have HF : Hid (∀ w, Calls Try.prog 51 #[.int .i64 f, .int .i64 0, .int .i64 2] w fun e w' => e = .returned (.bool (okF f)) ∧ w' = w) := Lib.hid (fun w => in_is f 0 2 w)
  have HV : Hid (∀ w, Calls Try.prog 51 #[.int .i64 v, .int .i64 0, .int .i64 99] w fun e w' => e = .returned (.bool (okV v)) ∧ w' = w) := Lib.hid (fun w => in_is v 0 99 w)
  clear h hs
  cases ha : areQB a with
  | false =>
    have HE : Hid (stabL a f v = []) := Lib.hid (stabS_no (by rw [ha]; rfl))
    rw [ha] at HA
    clear ha HF HV
    rw [HE.out]
    clear HE
    go_enter Try.func43, Try.ntmps43
    go_wp2
    have hown := ownsN_lit w w.heap.size (Nat.le_refl _) #[] 0 [] rfl rfl (by decide)
    have hbel := (Below.refl w.heap.size w).alloc (Nat.le_refl _) (.cells #[] 3)
    generalize w.alloc (.cells #[] 3) = w0 at hown hbel ⊢
    go_loopw [7, 8] (fun v i wr => wr = w0 ∧ i = .int .i64 0 ∧ v = .slice (some ⟨w.heap.size, 0, none⟩) 0 0) (fun _ _ _ => 0)
    case atStart => exact ⟨rfl, rfl, rfl⟩
    case round =>
      obtain ⟨rfl, rfl, rfl⟩ := hrel
      by_cases hl : 0 < a.length
      · have i2 : (0 : Int) < (a.length : Int) := by omega
        go_wp2_with fail
        refine (HA.out _ (queriesR_below H.out hbel)).mono ?_
        rintro e w1 ⟨rfl, hb1⟩
        have hown1 := ownsN_below hown hb1
        have hbel1 := hbel.trans (hb1.mono hbel.size)
        clear hown hbel hb1
        go_wp2
        go_ret
        exact ⟨_, rfl, hown1, hbel1⟩
      · have hl2 : ¬ ((0 : Int) < (a.length : Int)) := by omega
        go_wp2
        go_ret
        exact ⟨_, rfl, hown, hbel⟩
  | true =>
    rw [ha] at HA
    cases hf : okF f with
    | false =>
      have HE : Hid (stabL a f v = []) := Lib.hid (stabS_no (by rw [ha, hf]; rfl))
      rw [hf] at HF
      clear ha hf HV
      rw [HE.out]
      clear HE
      go_enter Try.func43, Try.ntmps43
      go_wp2
      have hown := ownsN_lit w w.heap.size (Nat.le_refl _) #[] 0 [] rfl rfl (by decide)
      have hbel := (Below.refl w.heap.size w).alloc (Nat.le_refl _) (.cells #[] 3)
      generalize w.alloc (.cells #[] 3) = w0 at hown hbel ⊢
      go_loopw [7, 8] (fun v i wr => wr = w0 ∧ i = .int .i64 0 ∧ v = .slice (some ⟨w.heap.size, 0, none⟩) 0 0) (fun _ _ _ => 0)
      case atStart => exact ⟨rfl, rfl, rfl⟩
      case round =>
        obtain ⟨rfl, rfl, rfl⟩ := hrel
        by_cases hl : 0 < a.length
        · have i2 : (0 : Int) < (a.length : Int) := by omega
          go_wp2_with fail
          refine (HA.out _ (queriesR_below H.out hbel)).mono ?_
          rintro e w1 ⟨rfl, hb1⟩
          have hown1 := ownsN_below hown hb1
          have hbel1 := hbel.trans (hb1.mono hbel.size)
          clear hown hbel hb1
          go_wp2_with fail
          refine (HF.out _).mono ?_
          rintro e w2 ⟨rfl, rfl⟩
          go_wp2
          go_ret
          exact ⟨_, rfl, hown1, hbel1⟩
        · have hl2 : ¬ ((0 : Int) < (a.length : Int)) := by omega
          go_wp2
          go_ret
          exact ⟨_, rfl, hown, hbel⟩
    | true =>
      rw [hf] at HF
      cases hv : okV v with
      | false =>
        have HE : Hid (stabL a f v = []) := Lib.hid (stabS_no (by rw [ha, hf, hv]; rfl))
        rw [hv] at HV
        clear ha hf hv
        rw [HE.out]
        clear HE
        go_enter Try.func43, Try.ntmps43
        go_wp2
        have hown := ownsN_lit w w.heap.size (Nat.le_refl _) #[] 0 [] rfl rfl (by decide)
        have hbel := (Below.refl w.heap.size w).alloc (Nat.le_refl _) (.cells #[] 3)
        generalize w.alloc (.cells #[] 3) = w0 at hown hbel ⊢
        go_loopw [7, 8] (fun v i wr => wr = w0 ∧ i = .int .i64 0 ∧ v = .slice (some ⟨w.heap.size, 0, none⟩) 0 0) (fun _ _ _ => 0)
        case atStart => exact ⟨rfl, rfl, rfl⟩
        case round =>
          obtain ⟨rfl, rfl, rfl⟩ := hrel
          by_cases hl : 0 < a.length
          · have i2 : (0 : Int) < (a.length : Int) := by omega
            go_wp2_with fail
            refine (HA.out _ (queriesR_below H.out hbel)).mono ?_
            rintro e w1 ⟨rfl, hb1⟩
            have hown1 := ownsN_below hown hb1
            have hbel1 := hbel.trans (hb1.mono hbel.size)
            clear hown hbel hb1
            go_wp2_with fail
            refine (HF.out _).mono ?_
            rintro e w2 ⟨rfl, rfl⟩
            go_wp2_with fail
            refine (HV.out _).mono ?_
            rintro e w2 ⟨rfl, rfl⟩
            go_wp2
            go_ret
            exact ⟨_, rfl, hown1, hbel1⟩
          · have hl2 : ¬ ((0 : Int) < (a.length : Int)) := by omega
            go_wp2
            go_ret
            exact ⟨_, rfl, hown, hbel⟩
      | true =>
        have HE := Lib.hid (stabS_yes (a := a) (f := f) (v := v) (by rw [ha, hf, hv]; rfl))
        rw [hv] at HV
        rw [HE.out]
        clear ha hf hv HE
        go_enter Try.func43, Try.ntmps43
        go_wp2
        go_loopw [7, 8] (fun o i wr => ∃ k : Nat, k ≤ a.length ∧ i = .int .i64 k ∧ OwnsN wr w.heap.size o (((a.take k).filter (admQ f v)).map (·.1)) ∧ Below w.heap.size w wr) (fun _ i _ => a.length - (intOf i).toNat)
        case atStart => exact ⟨0, Nat.zero_le _, rfl, ownsN_lit w _ (Nat.le_refl _) #[] 0 [] rfl rfl (by decide), (Below.refl _ _).alloc (Nat.le_refl _) _⟩
        case round =>
          obtain ⟨k, hk, rfl, hown, hbel⟩ := hrel
          by_cases hlt : k < a.length
          · have i1 : (0 : Int) ≤ (k : Int) := by omega
            have i2 : (k : Int) < (a.length : Int) := by omega
            have HL := Lib.hid (admF_len a f v k)
            have HYES := Lib.hid (fun h => admF_yes (f := f) (v := v) hlt h)
            have HNO := Lib.hid (fun h => admF_no (f := f) (v := v) hlt h)
            have HCL := Lib.hid (szQL_at HS.out hlt).1
            go_wp2_with fail
            refine (HA.out _ (queriesR_below H.out hbel)).mono ?_
            rintro e w1 ⟨rfl, hb1⟩
            have hown1 := ownsN_below hown hb1
            have hbel1 := hbel.trans (hb1.mono hbel.size)
            clear hown hbel hb1
            go_wp2_with fail
            refine (HF.out _).mono ?_
            rintro e w2 ⟨rfl, rfl⟩
            go_wp2_with fail
            refine (HV.out _).mono ?_
            rintro e w2 ⟨rfl, rfl⟩
            have hB1 := hbel1.size
            obtain ⟨b, off, cap', cv, ov, hv, hbl, hc1, hc2, hc3, hc4, hC, hO⟩ := queriesR_at (queriesR_below H.out hbel1) hlt
            simp only [Value.slice.injEq] at hv
            obtain ⟨rfl, _, rfl⟩ := hv
            generalize a.getD k q0D = q at *
            obtain ⟨qid, qtn, qc, qo⟩ := q
            simp only at hc1 hc2 hc3 hc4 hC hO HCL HYES
            have HAQ : Hid (admQ f v (qid, qtn, qc, qo) = admB qc f v) := Lib.hid rfl
            obtain ⟨ca, ccap, rfl⟩ := condsR_len hC
            obtain ⟨oa, ocap, rfl⟩ := ints_len hO
            have HCC := Lib.hid hC
            clear hC hO
            generalize ((a.take k).filter (admQ f v)).map (·.1) = ac at *
            go_wp2_with fail
            refine (specAdmits qid qtn f v (.slice ca qc.length ccap) (.slice oa qo.length ocap) qc _ HCC.out HCL.out).mono ?_
            rintro e w3 ⟨rfl, hb3⟩
            rw [← HAQ.out]
            have hown3 := ownsN_below hown1 hb3
            have hbel3 := hbel1.trans (hb3.mono hbel1.size)
            have hB3 := hbel3.size
            have p1 := (hb3.cell (p := ⟨b, off + k * 4, none⟩) hbl).trans hc1
            clear hown1 hbel1 hb3 hc1 hc2 hc3 hc4
            cases hmb : admQ f v (qid, qtn, qc, qo) with
            | true =>
              have HY := Lib.hid (HYES.out hmb)
              clear hmb HYES HNO
              go_wp2_with (at_builtin; refine append_ints rfl (.tmp 35) (.tmp 41) rfl w.heap.size _ _ rfl hown3 hB3 _ [qid] 1 _ rfl (by first | rfl | (simp; done)) rfl (by have := HL.out; simp; omega) ?_)
              intro v' w4 hown4 hb4
              rw [HY.out] at hown4
              have hb5 := hbel3.trans hb4
              clear hown3 hbel3 hb4 p1
              go_wp2
              go_roundw
              case rel => exact ⟨k + 1, by omega, by go_num, hown4, hb5⟩
              case measure => simp [intOf]; omega
            | false =>
              have HY := Lib.hid (HNO.out hmb)
              clear hmb HYES HNO
              rw [HY.out] at hown3
              go_wp2
              go_roundw
              case rel => exact ⟨k + 1, by omega, by go_num, hown3, hbel3⟩
              case measure => simp [intOf]; omega
          · obtain rfl : k = a.length := by omega
            rw [List.take_length] at hown
            go_wp2
            go_ret
            exact ⟨_, rfl, hown, hbel⟩
end Go.Proofs.Yteelgogfpidcdaa
