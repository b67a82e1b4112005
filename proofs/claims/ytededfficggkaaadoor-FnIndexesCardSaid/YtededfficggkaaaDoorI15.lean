/-
 Texts of the proof, merged: StabSpec, StabsSpec, IdxSpec2, IdxSpec1, IdxSpec3, IdxSpec4, IdxSpec6, IdxSpec7.
-/
import Derived.Test.YtededfficggkaaaDoorI2
import Derived.Test.YtededfficggkaaaDoorI4
import Derived.Test.YtededfficggkaaaDoorI5
import Derived.Test.YtededfficggkaaaDoorI10
import Derived.Test.YtededfficggkaaaDoorI11
import Derived.Test.YtededfficggkaaaDoorI12
import Derived.Test.YtededfficggkaaaDoorI13
import Derived.Test.YtededfficggkaaaDoorI14
import Derived.Lib.MinMax
namespace Go.Proofs.YtededfficggkaaaDoor
open Go.RowKit
set_option linter.unusedVariables false
set_option linter.unusedSimpArgs false
theorem in_is (x lo hi : Int) (w : World) : Calls Tryd.prog 54 #[.int .i64 x, .int .i64 lo, .int .i64 hi] w fun e w' => e = .returned (.bool (decide (lo ≤ x ∧ x ≤ hi))) ∧ w' = w := by
 by_cases h : lo ≤ x ∧ x ≤ hi
 ·
  rw [decide_eq_true h]; exact in_yes x lo hi w h.1 h.2
 ·
  rw [decide_eq_false h]; exact in_no x lo hi w h
theorem stabS_no {a : List QD} {f v : Int} (h : (areQB a && (okF f && okV v)) = false) : stabL a f v = [] := by unfold stabL; rw [h]; rfl
theorem stabS_yes {a : List QD} {f v : Int} (h : (areQB a && (okF f && okV v)) = true) : stabL a f v = (a.filter (admQ f v)).map (·.1) := by unfold stabL; rw [h]; rfl
theorem admF_yes {a : List QD} {f v : Int} {k : Nat} (hk : k < a.length) (h : admQ f v (a.getD k q0D) = true) : ((a.take k).filter (admQ f v)).map (·.1) ++ [(a.getD k q0D).1] = ((a.take (k + 1)).filter (admQ f v)).map (·.1) := by
 have e : a.getD k q0D = a[k] := by simp [List.getD, hk]
 rw [e] at h ⊢
 rw [List.take_succ_eq_append_getElem hk, List.filter_append, List.map_append]
 simp [List.filter_cons, h]
theorem admF_no {a : List QD} {f v : Int} {k : Nat} (hk : k < a.length) (h : admQ f v (a.getD k q0D) = false) : ((a.take k).filter (admQ f v)).map (·.1) = ((a.take (k + 1)).filter (admQ f v)).map (·.1) := by
 have e : a.getD k q0D = a[k] := by simp [List.getD, hk]
 rw [e] at h
 rw [List.take_succ_eq_append_getElem hk, List.filter_append, List.map_append]
 simp [List.filter_cons, h]
theorem admF_len (a : List QD) (f v : Int) (k : Nat) : (((a.take k).filter (admQ f v)).map (·.1)).length ≤ a.length := by
 rw [List.length_map]
 have := List.length_filter_le (admQ f v) (a.take k)
 rw [List.length_take] at this
 omega
set_option maxHeartbeats 8000000 in
set_option maxRecDepth 100000 in
theorem specStabSet (va : Value) (a : List QD) (f v : Int) (w : World) (h : QueriesR w va a) (hs : szQL a ≤ 1048576) :
  Calls Tryd.prog 33 #[va, .int .i64 f, .int .i64 v] w (FreshInts w (stabL a f v)) := by
 have H := Lib.hid h
 have HS := Lib.hid hs
 have hn := szQL_len hs
 obtain ⟨ao, cap, rfl⟩ := queriesR_len h
 have HA := Lib.hid (fun w h => specAreQueries (.slice ao a.length cap) a w h hs)
 have HF : Hid (∀ w, Calls Tryd.prog 54 #[.int .i64 f, .int .i64 0, .int .i64 2] w fun e w' => e = .returned (.bool (okF f)) ∧ w' = w) := Lib.hid (fun w => in_is f 0 2 w)
 have HV : Hid (∀ w, Calls Tryd.prog 54 #[.int .i64 v, .int .i64 0, .int .i64 99] w fun e w' => e = .returned (.bool (okV v)) ∧ w' = w) := Lib.hid (fun w => in_is v 0 99 w)
 clear h hs
 cases ha : areQB a with
 | false =>
  have HE : Hid (stabL a f v = []) := Lib.hid (stabS_no (by rw [ha]; rfl))
  rw [ha] at HA
  clear ha HF HV
  rw [HE.out]
  clear HE
  go_enter Tryd.func33, Tryd.ntmps33
  go_wp2
  have hown := ownsN_lit w w.heap.size (Nat.le_refl _) #[] 0 [] rfl rfl (by decide)
  have hbel := (Below.refl w.heap.size w).alloc (Nat.le_refl _) (.cells #[] 3)
  generalize w.alloc (.cells #[] 3) = w0 at hown hbel ⊢
  go_loopw [7, 8] (fun v i wr => wr = w0 ∧ i = .int .i64 0 ∧ v = .slice (some ⟨w.heap.size, 0, none⟩) 0 0) (fun _ _ _ => 0)
  case atStart => exact ⟨rfl, rfl, rfl⟩
  case round =>
   obtain ⟨rfl, rfl, rfl⟩ := hrel
   by_cases hl : 0 < a.length
   ·
    have i2 : (0 : Int) < (a.length : Int) := by omega
    go_wp2_with fail
    refine (HA.out _ (queriesR_below H.out hbel)).mono ?_
    rintro e w1 ⟨rfl, hb1⟩
    have hown1 := ownsN_below hown hb1
    have hbel1 := hbel.trans (hb1.mono hbel.size)
    clear hown hbel hb1
    go_wp2
    go_ret
    exact ⟨_, rfl, hown1, hbel1⟩
   ·
    have hl2 : ¬ ((0 : Int) < (a.length : Int)) := by omega
    go_wp2
    go_ret
    exact ⟨_, rfl, hown, hbel⟩
 | true =>
  rw [ha] at HA
  cases hf : okF f with
  | false =>
   have HE : Hid (stabL a f v = []) := Lib.hid (stabS_no (by rw [ha, hf]; rfl))
   rw [hf] at HF
   clear ha hf HV
   rw [HE.out]
   clear HE
   go_enter Tryd.func33, Tryd.ntmps33
   go_wp2
   have hown := ownsN_lit w w.heap.size (Nat.le_refl _) #[] 0 [] rfl rfl (by decide)
   have hbel := (Below.refl w.heap.size w).alloc (Nat.le_refl _) (.cells #[] 3)
   generalize w.alloc (.cells #[] 3) = w0 at hown hbel ⊢
   go_loopw [7, 8] (fun v i wr => wr = w0 ∧ i = .int .i64 0 ∧ v = .slice (some ⟨w.heap.size, 0, none⟩) 0 0) (fun _ _ _ => 0)
   case atStart => exact ⟨rfl, rfl, rfl⟩
   case round =>
    obtain ⟨rfl, rfl, rfl⟩ := hrel
    by_cases hl : 0 < a.length
    ·
     have i2 : (0 : Int) < (a.length : Int) := by omega
     go_wp2_with fail
     refine (HA.out _ (queriesR_below H.out hbel)).mono ?_
     rintro e w1 ⟨rfl, hb1⟩
     have hown1 := ownsN_below hown hb1
     have hbel1 := hbel.trans (hb1.mono hbel.size)
     clear hown hbel hb1
     go_wp2_with fail
     refine (HF.out _).mono ?_
     rintro e w2 ⟨rfl, rfl⟩
     go_wp2
     go_ret
     exact ⟨_, rfl, hown1, hbel1⟩
    ·
     have hl2 : ¬ ((0 : Int) < (a.length : Int)) := by omega
     go_wp2
     go_ret
     exact ⟨_, rfl, hown, hbel⟩
  | true =>
   rw [hf] at HF
   cases hv : okV v with
   | false =>
    have HE : Hid (stabL a f v = []) := Lib.hid (stabS_no (by rw [ha, hf, hv]; rfl))
    rw [hv] at HV
    clear ha hf hv
    rw [HE.out]
    clear HE
    go_enter Tryd.func33, Tryd.ntmps33
    go_wp2
    have hown := ownsN_lit w w.heap.size (Nat.le_refl _) #[] 0 [] rfl rfl (by decide)
    have hbel := (Below.refl w.heap.size w).alloc (Nat.le_refl _) (.cells #[] 3)
    generalize w.alloc (.cells #[] 3) = w0 at hown hbel ⊢
    go_loopw [7, 8] (fun v i wr => wr = w0 ∧ i = .int .i64 0 ∧ v = .slice (some ⟨w.heap.size, 0, none⟩) 0 0) (fun _ _ _ => 0)
    case atStart => exact ⟨rfl, rfl, rfl⟩
    case round =>
     obtain ⟨rfl, rfl, rfl⟩ := hrel
     by_cases hl : 0 < a.length
     ·
      have i2 : (0 : Int) < (a.length : Int) := by omega
      go_wp2_with fail
      refine (HA.out _ (queriesR_below H.out hbel)).mono ?_
      rintro e w1 ⟨rfl, hb1⟩
      have hown1 := ownsN_below hown hb1
      have hbel1 := hbel.trans (hb1.mono hbel.size)
      clear hown hbel hb1
      go_wp2_with fail
      refine (HF.out _).mono ?_
      rintro e w2 ⟨rfl, rfl⟩
      go_wp2_with fail
      refine (HV.out _).mono ?_
      rintro e w2 ⟨rfl, rfl⟩
      go_wp2
      go_ret
      exact ⟨_, rfl, hown1, hbel1⟩
     ·
      have hl2 : ¬ ((0 : Int) < (a.length : Int)) := by omega
      go_wp2
      go_ret
      exact ⟨_, rfl, hown, hbel⟩
   | true =>
    have HE := Lib.hid (stabS_yes (a := a) (f := f) (v := v) (by rw [ha, hf, hv]; rfl))
    rw [hv] at HV
    rw [HE.out]
    clear ha hf hv HE
    go_enter Tryd.func33, Tryd.ntmps33
    go_wp2
    go_loopw [7, 8] (fun o i wr => ∃ k : Nat, k ≤ a.length ∧ i = .int .i64 k ∧ OwnsN wr w.heap.size o (((a.take k).filter (admQ f v)).map (·.1)) ∧ Below w.heap.size w wr) (fun _ i _ => a.length - (intOf i).toNat)
    case atStart => exact ⟨0, Nat.zero_le _, rfl, ownsN_lit w _ (Nat.le_refl _) #[] 0 [] rfl rfl (by decide), (Below.refl _ _).alloc (Nat.le_refl _) _⟩
    case round =>
     obtain ⟨k, hk, rfl, hown, hbel⟩ := hrel
     by_cases hlt : k < a.length
     ·
      have i1 : (0 : Int) ≤ (k : Int) := by omega
      have i2 : (k : Int) < (a.length : Int) := by omega
      have HL := Lib.hid (admF_len a f v k)
      have HYES := Lib.hid (fun h => admF_yes (f := f) (v := v) hlt h)
      have HNO := Lib.hid (fun h => admF_no (f := f) (v := v) hlt h)
      have HCL := Lib.hid (szQL_at HS.out hlt).1
      go_wp2_with fail
      refine (HA.out _ (queriesR_below H.out hbel)).mono ?_
      rintro e w1 ⟨rfl, hb1⟩
      have hown1 := ownsN_below hown hb1
      have hbel1 := hbel.trans (hb1.mono hbel.size)
      clear hown hbel hb1
      go_wp2_with fail
      refine (HF.out _).mono ?_
      rintro e w2 ⟨rfl, rfl⟩
      go_wp2_with fail
      refine (HV.out _).mono ?_
      rintro e w2 ⟨rfl, rfl⟩
      have hB1 := hbel1.size
      obtain ⟨b, off, cap', cv, ov, hv, hbl, hc1, hc2, hc3, hc4, hC, hO⟩ := queriesR_at (queriesR_below H.out hbel1) hlt
      simp only [Value.slice.injEq] at hv
      obtain ⟨rfl, _, rfl⟩ := hv
      generalize a.getD k q0D = q at *
      obtain ⟨qid, qtn, qc, qo⟩ := q
      simp only at hc1 hc2 hc3 hc4 hC hO HCL HYES
      have HAQ : Hid (admQ f v (qid, qtn, qc, qo) = admB qc f v) := Lib.hid rfl
      obtain ⟨ca, ccap, rfl⟩ := condsR_len hC
      obtain ⟨oa, ocap, rfl⟩ := ints_len hO
      have HCC := Lib.hid hC
      clear hC hO
      generalize ((a.take k).filter (admQ f v)).map (·.1) = ac at *
      go_wp2_with fail
      refine (specAdmits qid qtn f v (.slice ca qc.length ccap) (.slice oa qo.length ocap) qc _ HCC.out HCL.out).mono ?_
      rintro e w3 ⟨rfl, hb3⟩
      rw [← HAQ.out]
      have hown3 := ownsN_below hown1 hb3
      have hbel3 := hbel1.trans (hb3.mono hbel1.size)
      have hB3 := hbel3.size
      have p1 := (hb3.cell (p := ⟨b, off + k * 4, none⟩) hbl).trans hc1
      clear hown1 hbel1 hb3 hc1 hc2 hc3 hc4
      cases hmb : admQ f v (qid, qtn, qc, qo) with
      | true =>
       have HY := Lib.hid (HYES.out hmb)
       clear hmb HYES HNO
       go_wp2_with (at_builtin; refine append_ints rfl (.tmp 35) (.tmp 41) rfl w.heap.size _ _ rfl hown3 hB3 _ [qid] 1 _ rfl (by first | rfl | (simp; done)) rfl (by have := HL.out; simp; omega) ?_)
       intro v' w4 hown4 hb4
       rw [HY.out] at hown4
       have hb5 := hbel3.trans hb4
       clear hown3 hbel3 hb4 p1
       go_wp2
       go_roundw
       case rel => exact ⟨k + 1, by omega, by go_num, hown4, hb5⟩
       case measure => simp [intOf]; omega
      | false =>
       have HY := Lib.hid (HNO.out hmb)
       clear hmb HYES HNO
       rw [HY.out] at hown3
       go_wp2
       go_roundw
       case rel => exact ⟨k + 1, by omega, by go_num, hown3, hbel3⟩
       case measure => simp [intOf]; omega
     ·
      obtain rfl : k = a.length := by omega
      rw [List.take_length] at hown
      go_wp2
      go_ret
      exact ⟨_, rfl, hown, hbel⟩
set_option maxHeartbeats 8000000 in
set_option maxRecDepth 100000 in
theorem specStabIndex (va : Value) (a : List QD) (f : Int) (w : World) (h : QueriesR w va a) (hs : szQL a ≤ 1048576) :
  Calls Tryd.prog 24 #[va, .int .i64 f] w (FreshSpans w (spansL a f)) := by
 have H := Lib.hid h
 obtain ⟨ao, cap, rfl⟩ := queriesR_len h
 have HA := Lib.hid (fun w h => specAreQueries (.slice ao a.length cap) a w h hs)
 have HF : Hid (∀ w, Calls Tryd.prog 54 #[.int .i64 f, .int .i64 0, .int .i64 2] w fun e w' => e = .returned (.bool (okF f)) ∧ w' = w) := Lib.hid (fun w => in_is f 0 2 w)
 have HST : Hid (∀ (k : Nat) (w : World), QueriesR w (.slice ao a.length cap) a → Calls Tryd.prog 33 #[.slice ao a.length cap, .int .i64 f, .int .i64 (k : Int)] w (FreshInts w (stabL a f k))) := Lib.hid (fun k w h => specStabSet _ a f k w h hs)
 have HLN : Hid (∀ k : Nat, (stabL a f k).length ≤ 24) := Lib.hid (fun k => stabL_len a f k)
 have HFL : Hid (∀ v : Int, (stabL a f v).length ≤ 24) := Lib.hid (fun v => stabL_len a f v)
 clear h hs
 cases ha : areQB a with
 | false =>
  have HE : Hid (spansL a f = []) := Lib.hid (spansL_no (by rw [ha, Bool.false_and]))
  rw [ha] at HA
  rw [HE.out]
  clear HF HE ha HLN HST
  have oe := ownsP_empty w
  have be := (Below.refl w.heap.size w).alloc (Nat.le_refl _) (.cells #[] 43)
  go_enter Tryd.func24, Tryd.ntmps24
  go_wp2_with fail
  generalize w.alloc (.cells #[] 43) = W0 at *
  refine (HA.out _ (queriesR_below H.out be)).mono ?_
  rintro e w1 ⟨rfl, b1⟩
  have b2 := be.trans (b1.mono be.size)
  have o2 := ownsP_below oe b1
  clear b1 oe be
  go_wp2
  go_ret
  exact ⟨_, rfl, o2, b2⟩
 | true =>
  rw [ha] at HA
  cases hf : okF f with
  | false =>
   have HE : Hid (spansL a f = []) := Lib.hid (spansL_no (by rw [ha, hf, Bool.and_false]))
   rw [hf] at HF
   rw [HE.out]
   clear HE ha hf HLN HST
   have oe := ownsP_empty w
   have be := (Below.refl w.heap.size w).alloc (Nat.le_refl _) (.cells #[] 43)
   go_enter Tryd.func24, Tryd.ntmps24
   go_wp2_with fail
   generalize w.alloc (.cells #[] 43) = W0 at *
   refine (HA.out _ (queriesR_below H.out be)).mono ?_
   rintro e w1 ⟨rfl, b1⟩
   have b2 := be.trans (b1.mono be.size)
   have o2 := ownsP_below oe b1
   clear b1 oe be
   go_wp2_with fail
   refine (HF.out _).mono ?_
   rintro e w2 ⟨rfl, rfl⟩
   go_wp2
   go_ret
   exact ⟨_, rfl, o2, b2⟩
  | true =>
   have HE : Hid (spansL a f = spansTo (stabL a f) 100) := Lib.hid (spansL_yes (by rw [ha, hf, Bool.and_self]))
   rw [hf] at HF
   rw [HE.out]
   obtain ⟨F, hF⟩ : ∃ F : Int → List Int, stabL a f = F := ⟨_, rfl⟩
   rw [hF] at HFL HLN HST ⊢
   obtain ⟨R, hR⟩ : ∃ R, spansTo F 100 = R := ⟨_, rfl⟩
   rw [hR]
   have HR := Lib.hid hR
   clear HE ha hf hF hR
   have oe := ownsP_empty w
   have be := (Below.refl w.heap.size w).alloc (Nat.le_refl _) (.cells #[] 43)
   go_enter Tryd.func24, Tryd.ntmps24
   go_wp2_with fail
   generalize w.alloc (.cells #[] 43) = W0 at *
   refine (HA.out _ (queriesR_below H.out be)).mono ?_
   rintro e w1 ⟨rfl, b1⟩
   have b2 := be.trans (b1.mono be.size)
   have o2 := ownsP_below oe b1
   clear b1 oe be
   go_wp2_with fail
   refine (HF.out _).mono ?_
   rintro e w2 ⟨rfl, rfl⟩
   go_wp2
   go_loopw [5, 6] (fun o i wr => ∃ k : Nat, k ≤ 100 ∧ i = .int .i64 k ∧ OwnsP wr w.heap.size o (spansTo F k) ∧ Below w.heap.size w wr) (fun _ i _ => 100 - (intOf i).toNat)
   case atStart => exact ⟨0, Nat.zero_le _, rfl, o2, b2⟩
   case round =>
    obtain ⟨k, hk, rfl, hown, hbel⟩ := hrel
    by_cases hlt : k < 100
    ·
     have i1 : (0 : Int) ≤ (k : Int) := by omega
     have i2 : (k : Int) ≤ 99 := by omega
     have i4 : (k : Int) < 100 := by omega
     have HAL : Hid ((spansTo F k).length ≤ 100) := Lib.hid (by have := spansTo_len F k; omega)
     have HSL : Hid ((F (k : Int)).length ≤ 24) := Lib.hid (HLN.out k)
     have HST1 : Hid (0 < (spansTo F k).length → ((spansTo F k).getD ((spansTo F k).length - 1) p0D).2.2 = F (k : Int) → (spansTo F k).set ((spansTo F k).length - 1) (((spansTo F k).getD ((spansTo F k).length - 1) p0D).1, (k : Int), ((spansTo F k).getD ((spansTo F k).length - 1) p0D).2.2) = spansTo F (k + 1)) := Lib.hid (fun h0 h => stepP_set h0 h)
     have HST2 : Hid (¬ (0 < (spansTo F k).length ∧ ((spansTo F k).getD ((spansTo F k).length - 1) p0D).2.2 = F (k : Int)) → spansTo F k ++ [((k : Int), (k : Int), F (k : Int))] = spansTo F (k + 1)) := Lib.hid (fun h => stepP_app h)
     have HSTL : Hid (∀ j, j < (spansTo F k).length → ((spansTo F k).getD j p0D).2.2.length ≤ 24) := Lib.hid (fun j hj => (spansTo_sets (F := F) (M := 24) (fun v => HFL.out v) k _ (getD_mem hj)))
     generalize spansTo F k = acc at *
     obtain ⟨oa, ocap, rfl⟩ := ownsP_len hown
     have HOW := Lib.hid hown
     have HBL := Lib.hid hbel
     clear hown hbel
     go_wp2_with fail
     refine (HST.out k _ (queriesR_below H.out HBL.out)).mono ?_
     rintro e v1 ⟨su, rfl, os, b1⟩
     generalize F (k : Int) = s at *
     obtain ⟨sa, sc, rfl⟩ := ints_len (ownsN_ints os)
     have HOS := Lib.hid os
     have HB1 := Lib.hid b1
     clear os b1
     by_cases hp : 0 < acc.length
     ·
      have hp2 : (0 : Int) < (acc.length : Int) := by omega
      obtain ⟨g, cap2, hv, hBg, hgw, hfz, vv, hc2, hc1, hI⟩ := ownsP_shape HOW.out hp
      simp only [Value.slice.injEq, true_and] at hv
      obtain ⟨rfl, rfl⟩ := hv
      obtain ⟨va2, vcap2, rfl⟩ := ints_len hI
      have d2 := (HB1.out.cell (p := ⟨g, (acc.length - 1) * 3 + 2, none⟩) hgw).trans hc2
      have d1 := (HB1.out.cell (p := ⟨g, (acc.length - 1) * 3 + 1, none⟩) hgw).trans hc1
      have HI1 := Lib.hid (ints_below hI HB1.out)
      have hxl := HSTL.out _ (show acc.length - 1 < acc.length by omega)
      obtain ⟨m, hm⟩ : ∃ m, acc.length = m + 1 := ⟨acc.length - 1, by omega⟩
      have HM := Lib.hid hm
      rw [show acc.length - 1 = m by omega] at d1 d2 HI1 hxl HST1 HST2
      have HW1 := Lib.hid (fun (u : World) (h : OwnsP u w.heap.size (.slice (some ⟨g, 0, none⟩) acc.length ocap) acc) => ownsP_to h (k := m) (by have := HM.out; omega) (k : Int))
      have HOW1 := Lib.hid (ownsP_below HOW.out HB1.out)
      rw [hm] at HOW HOW1 HW1
      have hm9 : m ≤ 99 := by have := HAL.out; omega
      have HMR := Lib.hid hp
      clear hc1 hc2 hI hfz HSTL hp hp2
      have hp2 : (0 : Int) < (m : Int) + 1 := by omega
      have hp3 : (m : Int) < (m : Int) + 1 := by omega
      have hp4 : (0 : Int) ≤ (m : Int) := by omega
      clear hm
      obtain ⟨r, hr⟩ : ∃ r, acc.getD m p0D = r := ⟨_, rfl⟩
      rw [hr] at d1 d2 HI1 hxl HST1 HST2 HW1
      clear hr
      obtain ⟨rf, rt, xs⟩ := r
      simp only at d1 d2 HI1 hxl HST1 HST2 HW1
      rw [HM.out]
      go_wp2_with fail
      refine (specInts (.slice va2 xs.length vcap2) (.slice sa s.length sc) xs s _ HI1.out (ownsN_ints HOS.out) (by omega) (by have := HSL.out; omega)).mono ?_
      rintro e v2 ⟨rfl, b2⟩
      have e1 := (b2.cell (p := ⟨g, m * 3 + 1, none⟩) (Nat.lt_of_lt_of_le hgw HB1.out.size)).trans d1
      have HO2 := Lib.hid (ownsP_below HOW1.out b2)
      have HC2 := Lib.hid ((HBL.out.trans (HB1.out.mono HBL.out.size)).trans (b2.mono (HBL.out.trans (HB1.out.mono HBL.out.size)).size))
      have HS2 := Lib.hid (ownsN_below HOS.out b2)
      clear d1 d2 HI1 HOW1
      cases hd : decide (xs = s) with
      | true =>
       have HX := Lib.hid (HST1.out (by have := HM.out; omega) (of_decide_eq_true hd))
       clear hd HST1 HST2
       have fz : v2.frozen? ⟨g, m * 3 + 1, none⟩ = false := by
        obtain ⟨cs2, vs2, q1, _⟩ := HO2.out
        rw [HM.out] at q1
        exact World.ownsRow.frozenAt q1 _
       have FO := Lib.hid (HW1.out v2 HO2.out)
       rw [HX.out] at FO
       have B4 := HC2.out.setCell (p := ⟨g, m * 3 + 1, none⟩) hBg (.int .i64 (k : Int))
       clear b2 HW1
       go_wp2
       go_roundw
       case rel => exact ⟨k + 1, by omega, by go_num, FO.out, B4⟩
       case measure => simp [intOf]; omega
      | false =>
       have HX := Lib.hid (HST2.out (fun g => of_decide_eq_false hd g.2))
       clear hd HST2 e1
       have HBW := Lib.hid (HB1.out.trans (b2.mono HB1.out.size))
       clear b2
       clear HST1 HW1 hp2 hp3 hp4
       obtain ⟨cs, vs, q1, q2, q3⟩ := HOW.out
       have HL1 := Lib.hid (fun (j : Nat) (hj : j < acc.length) (q : Nat) (e : (vs j).ownBlock = some q) => ((q2 j hj).2.2.2.1.lt q e).2)
       have HL2 := Lib.hid (fun (q : Nat) e => (q1.lt q e).2)
       have hbb := HBW.out
       have H1 := Lib.hid (ownsRow_below q1 hbb)
       have H2 := Lib.hid (fun (j : Nat) (hj : j < acc.length) => (⟨(q2 j hj).1, (q2 j hj).2.1, (q2 j hj).2.2.1, ownsN_below (q2 j hj).2.2.2.1 hbb, (q2 j hj).2.2.2.2⟩ : _ ∧ _ ∧ _ ∧ _ ∧ _))
       have H3 := Lib.hid q3
       have hal : Below v2.heap.size v2 (v2.alloc (.cells #[.int .i64 (k : Int), .int .i64 (k : Int), .slice sa s.length sc] 43)) := (Below.refl _ _).alloc (Nat.le_refl _) _
       have HAL2 := Lib.hid hal
       have HCA := Lib.hid (HC2.out.trans (hal.mono HC2.out.size))
       have oX : SpansC (v2.alloc (.cells #[.int .i64 (k : Int), .int .i64 (k : Int), .slice sa s.length sc] 43)) w.heap.size _ acc.length cs := spansC_kept H1.out hal
       rw [HM.out] at oX
       clear hal q1 q2 q3 hbb
       go_wp2_with (at_builtin; refine append_spans rfl (.tmp 47) (.tmp 52) rfl w.heap.size _ _ _ rfl oX HCA.out.size ⟨v2.heap.size, 0, none⟩ 1 1 [.int .i64 (k : Int), .int .i64 (k : Int), .slice sa s.length sc] rfl rfl (fun j u hj => by rw [Go.WideShapes.add_plain, Nat.zero_add, cell_lit]; simpa using hj) (by intro u hu; simp at hu; rcases hu with rfl | rfl | rfl <;> rfl) (by have := HAL.out; omega) ?_)
       intro x3 W3 oX3 gX3 _ hat3
       have oX4 : SpansC W3 w.heap.size x3 (acc.length + 1) (cs ++ [.int .i64 (k : Int), .int .i64 (k : Int), .slice sa s.length sc]) := by
        rw [HM.out]; exact oX3
       skip
       have FO := append_ownsP (r := ((k : Int), (k : Int), s)) H1.out H2.out H3.out HL1.out HL2.out HBL.out.size HS2.out HAL2.out gX3 oX4 (by simpa [World.size_alloc] using hat3)
       have FB := HCA.out.grown gX3 HCA.out.size (fun q e => (H1.out.lt q e).1)
       rw [HX.out] at FO
       clear oX oX3 oX4 gX3 hat3
       go_wp2
       go_roundw
       case rel => exact ⟨k + 1, by omega, by go_num, FO, FB⟩
       case measure => simp [intOf]; omega
     ·
      have hz : acc.length = 0 := by omega
      have HX := Lib.hid (HST2.out (fun g => hp g.1))
      have HO2 := Lib.hid (ownsP_below HOW.out HB1.out)
      have HC2 := Lib.hid (HBL.out.trans (HB1.out.mono HBL.out.size))
      have HS2 := HOS
      have HBW := HB1
      clear HST2 hp HSTL
      rw [hz]
      clear HST1
      obtain ⟨cs, vs, q1, q2, q3⟩ := HOW.out
      have HL1 := Lib.hid (fun (j : Nat) (hj : j < acc.length) (q : Nat) (e : (vs j).ownBlock = some q) => ((q2 j hj).2.2.2.1.lt q e).2)
      have HL2 := Lib.hid (fun (q : Nat) e => (q1.lt q e).2)
      have hbb := HBW.out
      have H1 := Lib.hid (ownsRow_below q1 hbb)
      have H2 := Lib.hid (fun (j : Nat) (hj : j < acc.length) => (⟨(q2 j hj).1, (q2 j hj).2.1, (q2 j hj).2.2.1, ownsN_below (q2 j hj).2.2.2.1 hbb, (q2 j hj).2.2.2.2⟩ : _ ∧ _ ∧ _ ∧ _ ∧ _))
      have H3 := Lib.hid q3
      have hal : Below v1.heap.size v1 (v1.alloc (.cells #[.int .i64 (k : Int), .int .i64 (k : Int), .slice sa s.length sc] 43)) := (Below.refl _ _).alloc (Nat.le_refl _) _
      have HAL2 := Lib.hid hal
      have HCA := Lib.hid (HC2.out.trans (hal.mono HC2.out.size))
      have oX : SpansC (v1.alloc (.cells #[.int .i64 (k : Int), .int .i64 (k : Int), .slice sa s.length sc] 43)) w.heap.size _ acc.length cs := spansC_kept H1.out hal
      rw [hz] at oX
      clear hal q1 q2 q3 hbb
      go_wp2_with (at_builtin; refine append_spans rfl (.tmp 47) (.tmp 52) rfl w.heap.size _ _ _ rfl oX HCA.out.size ⟨v1.heap.size, 0, none⟩ 1 1 [.int .i64 (k : Int), .int .i64 (k : Int), .slice sa s.length sc] rfl rfl (fun j u hj => by rw [Go.WideShapes.add_plain, Nat.zero_add, cell_lit]; simpa using hj) (by intro u hu; simp at hu; rcases hu with rfl | rfl | rfl <;> rfl) (by have := HAL.out; omega) ?_)
      intro x3 W3 oX3 gX3 _ hat3
      have oX4 : SpansC W3 w.heap.size x3 (acc.length + 1) (cs ++ [.int .i64 (k : Int), .int .i64 (k : Int), .slice sa s.length sc]) := by
       rw [hz]; exact oX3
      rw [show (Value.slice oa 0 ocap).ownBlock = (Value.slice oa acc.length ocap).ownBlock by rw [hz]] at gX3 hat3
      have FO := append_ownsP (r := ((k : Int), (k : Int), s)) H1.out H2.out H3.out HL1.out HL2.out HBL.out.size HS2.out HAL2.out gX3 oX4 (by simpa [World.size_alloc] using hat3)
      have FB := HCA.out.grown gX3 HCA.out.size (fun q e => (H1.out.lt q e).1)
      rw [HX.out] at FO
      clear oX oX3 oX4 gX3 hat3
      go_wp2
      go_roundw
      case rel => exact ⟨k + 1, by omega, by go_num, FO, FB⟩
      case measure => simp [intOf]; omega
    ·
     obtain rfl : k = 100 := by omega
     rw [HR.out] at hown
     have i2 : ¬ ((100 : Nat) : Int) ≤ 99 := by omega
     have i3 : ¬ ((100 : Nat) : Int) < 100 := by omega
     obtain ⟨oa, ocap, rfl⟩ := ownsP_len hown
     go_wp2
     go_ret
     exact ⟨_, rfl, hown, hbel⟩
/-- As far as k the fields are the spans. -/
def FldTo (qs : List QD) (fs : List (List SpanD)) (k : Nat) : Prop := ∀ j, j < k → fs.getD j [] = spansL qs (j : Int)
theorem isIdx_no {qs : List QD} {fs : List (List SpanD)} (h : areQB qs = false) : isIndexB qs fs = false := by unfold isIndexB; rw [h]; rfl
theorem isIdx_len {qs : List QD} {fs : List (List SpanD)} (h : ¬ fs.length = 3) : isIndexB qs fs = false := by
 unfold isIndexB
 rw [decide_eq_false (fun e => h (by rw [e, fldTo_len])), Bool.and_false]
theorem isIdx_at {qs : List QD} {fs : List (List SpanD)} {k : Nat} (hk : k < 3) (h : ¬ fs.getD k [] = spansL qs (k : Int)) : isIndexB qs fs = false := by
 unfold isIndexB
 rw [decide_eq_false (fun e => h (by rw [e, fldTo_at qs hk])), Bool.and_false]
theorem isIdx_yes {qs : List QD} {fs : List (List SpanD)} (hq : areQB qs = true) (hl : fs.length = 3) (h : FldTo qs fs 3) : isIndexB qs fs = true := by
 unfold isIndexB
 rw [hq, Bool.true_and, decide_eq_true_eq]
 apply List.ext_getElem
 ·
  rw [hl, fldTo_len]
 ·
  intro i h1 h2
  have := h i (by omega)
  rw [← fldTo_at qs (k := 3) (by omega)] at this
  simpa [List.getD, h1, h2] using this
set_option maxHeartbeats 16000000 in
set_option maxRecDepth 100000 in
theorem specIsIndex (qv fv : Value) (qs : List QD) (fs : List (List SpanD)) (w : World) (h1 : SlR tQuery w qv qs) (h2 : SlR tSpanS w fv fs) (hs : zL tQuery qs ≤ 1048576) (hz : zL tSpanS fs ≤ 1048576) :
  Calls Tryd.prog 38 #[.agg #[qv, fv]] w fun e w' => e = .returned (.bool (isIndexB qs fs)) ∧ Below w.heap.size w w' := by
 have HSQ : Hid (szQL qs ≤ 1048576) := Lib.hid (by rw [← zL_queries]; exact hs)
 have HZF := Lib.hid hz
 have hlen := zL_len hs
 have hlen2 := zL_len hz
 obtain ⟨qa, qc, rfl⟩ := slR_len h1
 obtain ⟨fa, fc, rfl⟩ := slR_len h2
 have d0 := Lib.hid ((Below.refl w.heap.size w).alloc (Nat.le_refl _) (.cells #[.slice qa qs.length qc, .slice fa fs.length fc] 49))
 have B0 : Hid ((w.alloc (.cells #[.slice qa qs.length qc, .slice fa fs.length fc] 49)).heap[w.heap.size]? = some (.cells #[.slice qa qs.length qc, .slice fa fs.length fc] 49 (0, 0))) := Lib.hid (heap_alloc_new w _)
 have Y0 : Hid (w.heap.size < (w.alloc (.cells #[.slice qa qs.length qc, .slice fa fs.length fc] 49)).heap.size) := Lib.hid (by simp [World.size_alloc])
 have H1 := Lib.hid h1
 have H2 := Lib.hid h2
 have HA := Lib.hid (fun w h => specAreQueries (.slice qa qs.length qc) qs w h HSQ.out)
 clear h1 h2 hs hz
 cases hq : areQB qs with
 | false =>
  have HE := Lib.hid (isIdx_no (fs := fs) hq)
  rw [hq] at HA
  rw [HE.out]
  clear hq HE
  go_enter Tryd.func38, Tryd.ntmps38
  go_wp2_with fail
  generalize w.alloc (.cells #[.slice qa qs.length qc, .slice fa fs.length fc] 49) = W at *
  refine (HA.out W (slR_queries (slR_below tQuery_law H1.out d0.out))).mono ?_
  rintro e w1 ⟨rfl, b1⟩
  have D := Lib.hid (d0.out.trans (b1.mono d0.out.size))
  clear b1
  go_wp2
  go_ret
  exact ⟨rfl, D.out⟩
 | true =>
  have HQ := Lib.hid hq
  rw [hq] at HA
  clear hq
  by_cases hl : fs.length = 3
  ·
   have HL := Lib.hid hl
   have hne : ((fs.length : Int) != 3) = false := by rw [hl]; rfl
   clear hl
   go_enter Tryd.func38, Tryd.ntmps38
   go_wp2_with fail
   generalize w.alloc (.cells #[.slice qa qs.length qc, .slice fa fs.length fc] 49) = W at *
   refine (HA.out W (slR_queries (slR_below tQuery_law H1.out d0.out))).mono ?_
   rintro e w1 ⟨rfl, b1⟩
   have k0 := (b1.block w.heap.size Y0.out).trans B0.out
   have d1 := d0.out.trans (b1.mono d0.out.size)
   have y1 := Nat.lt_of_lt_of_le Y0.out b1.size
   have c1 := (cell_of_row w1 _ 1 _ _ _ k0).trans (show _ = some (Value.slice fa fs.length fc) from rfl)
   clear b1 d0 B0 Y0
   go_wp2
   clear c1 hne
   go_loopw [3] (fun i wr => ∃ k : Nat, k ≤ 3 ∧ i = .int .i64 k ∧ Hid (FldTo qs fs k) ∧ wr.heap[w.heap.size]? = some (.cells #[.slice qa qs.length qc, .slice fa fs.length fc] 49 (0, 0)) ∧ Below w.heap.size w wr ∧ w.heap.size < wr.heap.size) (fun i _ => 3 - (intOf i).toNat)
   case atStart => exact ⟨0, by omega, rfl, Lib.hid (fun j hj => by omega), k0, d1, y1⟩
   case round =>
    obtain ⟨k, hk, rfl, hf, hr, hbel, hsz⟩ := hrel
    by_cases hlt : k < 3
    ·
     have i1 : (0 : Int) ≤ (k : Int) := by omega
     have i2 : (k : Int) < 3 := by omega
     have i3 : (k : Int) < (fs.length : Int) := by have := HL.out; omega
     have hkf : k < fs.length := by have := HL.out; omega
     obtain ⟨b, off, cap', cs, hv, hbl, hcs, hR⟩ := slR_at H2.out hkf
     simp only [Value.slice.injEq] at hv
     obtain ⟨rfl, _, rfl⟩ := hv
     obtain ⟨u, rfl, hU⟩ := hR
     have p0 : w.cell? ⟨b, off + k, none⟩ = some u := by have := hcs 0 Nat.one_pos; rw [show tSpanS.n = 1 from rfl, Nat.mul_one, Nat.add_zero] at this; exact this
     have hzx := zL_at HZF.out hkf
     have HU := Lib.hid hU
     have HZU : Hid (zpL (fs.getD k []) ≤ 1048576) := Lib.hid (by rw [← zL_spans]; exact hzx)
     have HUL : Hid (∃ a cap, u = .slice a (fs.getD k []).length cap) := Lib.hid (slR_len hU)
     have HNO := Lib.hid (fun h => isIdx_at (qs := qs) (fs := fs) hlt h)
     have HST : Hid (fs.getD k [] = spansL qs (k : Int) → FldTo qs fs (k + 1)) := Lib.hid (fun h j hj => by
      by_cases e : j = k
      ·
       rw [e]; exact h
      ·
       exact hf.out j (by omega))
     have P0 := Lib.hid p0
     have HBL := Lib.hid hbl
     have B0 := Lib.hid hr
     have d := Lib.hid hbel
     have ZS : Hid (zpL (spansL qs (k : Int)) ≤ 1048576) := Lib.hid (by have := spansL_size qs (k : Int); omega)
     clear hcs p0 hU hzx hf hr hbel k0 d1 y1 hbl
     change Hid (SlR tSpan w u (fs.getD k [])) at HU
     generalize fs.getD k [] = rs at *
     obtain ⟨ua, uc, rfl⟩ := HUL.out
     clear HUL
     by_cases he : rs = spansL qs (k : Int)
     ·
      have HS := Lib.hid (HST.out he)
      have HDE : Hid (decide (rs = spansL qs (k : Int)) = true) := Lib.hid (decide_eq_true he)
      clear he HST HNO
      go_wp2
      have p_B0_0 := (cell_of_row wr _ 0 _ _ _ B0.out).trans (show _ = some (Value.slice qa qs.length qc) from rfl)
      have p_B0_1 := (cell_of_row wr _ 1 _ _ _ B0.out).trans (show _ = some (Value.slice (some ⟨b, off, none⟩) fs.length fc) from rfl)
      have p_el := (d.out.cell (p := ⟨b, off + k, none⟩) HBL.out).trans P0.out
      refine wp_region_held_drew (S := fun w' => w'.cell? ⟨w.heap.size, 0, none⟩ = some (Value.slice qa qs.length qc) ∧ w'.cell? ⟨w.heap.size, 1, none⟩ = some (Value.slice (some ⟨b, off, none⟩) fs.length fc) ∧ w'.cell? ⟨b, off + k, none⟩ = some (Value.slice ua rs.length uc)) (by kernel_rfl) ⟨p_B0_0, p_B0_1, p_el⟩ (fun hHeld => ?_)
      clear p_B0_0 p_B0_1 p_el
      have cdr : Below wr.heap.size wr wr.drew := below_drew (Below.refl _ _)
      replace B0 := Lib.hid ((cdr.block w.heap.size (Array.getElem?_eq_some_iff.1 B0.out).1).trans B0.out)
      replace d := Lib.hid (d.out.trans (cdr.mono d.out.size))
      clear cdr
      refine tR (i := 0) (v := ?_) ?_ ?_; rotate_left
      ·
       intro w hSw; (try dsimp only at hSw); go_simp; try (with_reducible rfl)
      try simp only [Act.put, lA, lB, lC]
      refine tR (i := 1) (v := ?_) ?_ ?_; rotate_left
      ·
       intro w hSw; (try dsimp only at hSw); go_simp; try (with_reducible rfl)
      try simp only [Act.put, lA, lB, lC]
      refine tR (i := 2) (v := ?_) ?_ ?_; rotate_left
      ·
       intro w hSw; (try dsimp only at hSw); go_simp; try (with_reducible rfl)
      try simp only [Act.put, lA, lB, lC]
      refine tR (i := 3) (v := ?_) ?_ ?_; rotate_left
      ·
       intro w hSw; (try dsimp only at hSw); go_simp; try (with_reducible rfl)
      try simp only [Act.put, lA, lB, lC]
      refine tR (i := 4) (v := ?_) ?_ ?_; rotate_left
      ·
       intro w hSw; (try dsimp only at hSw); go_simp; try (with_reducible rfl)
      try simp only [Act.put, lA, lB, lC]
      refine tR (i := 5) (v := ?_) ?_ ?_; rotate_left
      ·
       intro w hSw; (try dsimp only at hSw); go_simp; try (with_reducible rfl)
      try simp only [Act.put, lA, lB, lC]
      refine tR (i := 6) (v := ?_) ?_ ?_; rotate_left
      ·
       intro w hSw; (try dsimp only at hSw); go_simp; try (with_reducible rfl)
      try simp only [Act.put, lA, lB, lC]
      refine tR (i := 7) (v := ?_) ?_ ?_; rotate_left
      ·
       intro w hSw; (try dsimp only at hSw); go_simp; try (with_reducible rfl)
      try simp only [Act.put, lA, lB, lC]
      refine wpAnyH_ready (rs := [8]) (by kernel_rfl) (by simp) ?_
      refine (AllReadyH.cons (o := _) (by simp only [hA, hB, hC]; rfl) (fun K hK => ?_) AllReadyH.nil)
      go_simp
      refine (specStabIndex (.slice qa qs.length qc) qs (k : Int) (wr.drew) (slR_queries (slR_below tQuery_law H1.out d.out)) HSQ.out).mono ?_
      rintro e w5 ⟨su, rfl, os, c5⟩
      replace B0 := Lib.hid ((c5.block w.heap.size (Array.getElem?_eq_some_iff.1 B0.out).1).trans B0.out)
      replace d := Lib.hid (d.out.trans (c5.mono d.out.size))
      have Z_w5 := Lib.hid (show wr.heap.size ≤ w5.heap.size from c5.size)
      clear c5
      have S5 := Lib.hid (ownsP_spans os)
      have SB5 := Lib.hid (Below.refl w5.heap.size w5)
      clear os
      have p_B0_0 := (cell_of_row w5 _ 0 _ _ _ B0.out).trans (show _ = some (Value.slice qa qs.length qc) from rfl)
      have p_B0_1 := (cell_of_row w5 _ 1 _ _ _ B0.out).trans (show _ = some (Value.slice (some ⟨b, off, none⟩) fs.length fc) from rfl)
      have p_el := (d.out.cell (p := ⟨b, off + k, none⟩) HBL.out).trans P0.out
      refine hK.out _ _ ⟨p_B0_0, p_B0_1, p_el⟩ (fun hHeld => ?_)
      clear p_B0_0 p_B0_1 p_el
      clear hK K
      try simp only [Act.put, lA, lB, lC]
      refine wpAnyH_ready (rs := [9]) (by kernel_rfl) (by simp) ?_
      refine (AllReadyH.cons (o := _) (by simp only [hA, hB, hC]; rfl) (fun K hK => ?_) AllReadyH.nil)
      go_simp
      refine (specEqSpans (.slice ua rs.length uc) su rs (spansL qs (k : Int)) w5 (slR_spans (slR_below tSpan_law HU.out d.out)) S5.out HZU.out ZS.out).mono ?_
      rintro e w6 ⟨rfl, c6⟩
      replace B0 := Lib.hid ((c6.block w.heap.size (Array.getElem?_eq_some_iff.1 B0.out).1).trans B0.out)
      replace d := Lib.hid (d.out.trans (c6.mono d.out.size))
      have Z_w6 := Lib.hid (show w5.heap.size ≤ w6.heap.size from c6.size)
      clear c6 S5 SB5
      rw [HDE.out]
      have p_B0_0 := (cell_of_row w6 _ 0 _ _ _ B0.out).trans (show _ = some (Value.slice qa qs.length qc) from rfl)
      have p_B0_1 := (cell_of_row w6 _ 1 _ _ _ B0.out).trans (show _ = some (Value.slice (some ⟨b, off, none⟩) fs.length fc) from rfl)
      have p_el := (d.out.cell (p := ⟨b, off + k, none⟩) HBL.out).trans P0.out
      refine hK.out _ _ ⟨p_B0_0, p_B0_1, p_el⟩ (fun hHeld => ?_)
      clear p_B0_0 p_B0_1 p_el
      clear hK K
      try simp only [Act.put, lA, lB, lC]
      refine tR (i := 10) (v := ?_) ?_ ?_; rotate_left
      ·
       intro w hSw; (try dsimp only at hSw); go_simp; try (with_reducible rfl)
      try simp only [Act.put, lA, lB, lC]
      refine wpAnyH_done (by kernel_rfl) ?_ _
      clear hHeld
      go_wp2
      go_roundw
      case rel => exact ⟨k + 1, by omega, by go_num, HS, B0.out, d.out, Nat.lt_of_lt_of_le hsz (Nat.le_trans Z_w5.out Z_w6.out)⟩
      case measure => simp [intOf]; omega
     ·
      have HF := Lib.hid (HNO.out he)
      have HDE : Hid (decide (rs = spansL qs (k : Int)) = false) := Lib.hid (decide_eq_false he)
      clear he HST HNO
      go_wp2
      have p_B0_0 := (cell_of_row wr _ 0 _ _ _ B0.out).trans (show _ = some (Value.slice qa qs.length qc) from rfl)
      have p_B0_1 := (cell_of_row wr _ 1 _ _ _ B0.out).trans (show _ = some (Value.slice (some ⟨b, off, none⟩) fs.length fc) from rfl)
      have p_el := (d.out.cell (p := ⟨b, off + k, none⟩) HBL.out).trans P0.out
      refine wp_region_held_drew (S := fun w' => w'.cell? ⟨w.heap.size, 0, none⟩ = some (Value.slice qa qs.length qc) ∧ w'.cell? ⟨w.heap.size, 1, none⟩ = some (Value.slice (some ⟨b, off, none⟩) fs.length fc) ∧ w'.cell? ⟨b, off + k, none⟩ = some (Value.slice ua rs.length uc)) (by kernel_rfl) ⟨p_B0_0, p_B0_1, p_el⟩ (fun hHeld => ?_)
      clear p_B0_0 p_B0_1 p_el
      have cdr : Below wr.heap.size wr wr.drew := below_drew (Below.refl _ _)
      replace B0 := Lib.hid ((cdr.block w.heap.size (Array.getElem?_eq_some_iff.1 B0.out).1).trans B0.out)
      replace d := Lib.hid (d.out.trans (cdr.mono d.out.size))
      clear cdr
      refine tR (i := 0) (v := ?_) ?_ ?_; rotate_left
      ·
       intro w hSw; (try dsimp only at hSw); go_simp; try (with_reducible rfl)
      try simp only [Act.put, lA, lB, lC]
      refine tR (i := 1) (v := ?_) ?_ ?_; rotate_left
      ·
       intro w hSw; (try dsimp only at hSw); go_simp; try (with_reducible rfl)
      try simp only [Act.put, lA, lB, lC]
      refine tR (i := 2) (v := ?_) ?_ ?_; rotate_left
      ·
       intro w hSw; (try dsimp only at hSw); go_simp; try (with_reducible rfl)
      try simp only [Act.put, lA, lB, lC]
      refine tR (i := 3) (v := ?_) ?_ ?_; rotate_left
      ·
       intro w hSw; (try dsimp only at hSw); go_simp; try (with_reducible rfl)
      try simp only [Act.put, lA, lB, lC]
      refine tR (i := 4) (v := ?_) ?_ ?_; rotate_left
      ·
       intro w hSw; (try dsimp only at hSw); go_simp; try (with_reducible rfl)
      try simp only [Act.put, lA, lB, lC]
      refine tR (i := 5) (v := ?_) ?_ ?_; rotate_left
      ·
       intro w hSw; (try dsimp only at hSw); go_simp; try (with_reducible rfl)
      try simp only [Act.put, lA, lB, lC]
      refine tR (i := 6) (v := ?_) ?_ ?_; rotate_left
      ·
       intro w hSw; (try dsimp only at hSw); go_simp; try (with_reducible rfl)
      try simp only [Act.put, lA, lB, lC]
      refine tR (i := 7) (v := ?_) ?_ ?_; rotate_left
      ·
       intro w hSw; (try dsimp only at hSw); go_simp; try (with_reducible rfl)
      try simp only [Act.put, lA, lB, lC]
      refine wpAnyH_ready (rs := [8]) (by kernel_rfl) (by simp) ?_
      refine (AllReadyH.cons (o := _) (by simp only [hA, hB, hC]; rfl) (fun K hK => ?_) AllReadyH.nil)
      go_simp
      refine (specStabIndex (.slice qa qs.length qc) qs (k : Int) (wr.drew) (slR_queries (slR_below tQuery_law H1.out d.out)) HSQ.out).mono ?_
      rintro e w5 ⟨su, rfl, os, c5⟩
      replace B0 := Lib.hid ((c5.block w.heap.size (Array.getElem?_eq_some_iff.1 B0.out).1).trans B0.out)
      replace d := Lib.hid (d.out.trans (c5.mono d.out.size))
      have Z_w5 := Lib.hid (show wr.heap.size ≤ w5.heap.size from c5.size)
      clear c5
      have S5 := Lib.hid (ownsP_spans os)
      have SB5 := Lib.hid (Below.refl w5.heap.size w5)
      clear os
      have p_B0_0 := (cell_of_row w5 _ 0 _ _ _ B0.out).trans (show _ = some (Value.slice qa qs.length qc) from rfl)
      have p_B0_1 := (cell_of_row w5 _ 1 _ _ _ B0.out).trans (show _ = some (Value.slice (some ⟨b, off, none⟩) fs.length fc) from rfl)
      have p_el := (d.out.cell (p := ⟨b, off + k, none⟩) HBL.out).trans P0.out
      refine hK.out _ _ ⟨p_B0_0, p_B0_1, p_el⟩ (fun hHeld => ?_)
      clear p_B0_0 p_B0_1 p_el
      clear hK K
      try simp only [Act.put, lA, lB, lC]
      refine wpAnyH_ready (rs := [9]) (by kernel_rfl) (by simp) ?_
      refine (AllReadyH.cons (o := _) (by simp only [hA, hB, hC]; rfl) (fun K hK => ?_) AllReadyH.nil)
      go_simp
      refine (specEqSpans (.slice ua rs.length uc) su rs (spansL qs (k : Int)) w5 (slR_spans (slR_below tSpan_law HU.out d.out)) S5.out HZU.out ZS.out).mono ?_
      rintro e w6 ⟨rfl, c6⟩
      replace B0 := Lib.hid ((c6.block w.heap.size (Array.getElem?_eq_some_iff.1 B0.out).1).trans B0.out)
      replace d := Lib.hid (d.out.trans (c6.mono d.out.size))
      have Z_w6 := Lib.hid (show w5.heap.size ≤ w6.heap.size from c6.size)
      clear c6 S5 SB5
      rw [HDE.out]
      have p_B0_0 := (cell_of_row w6 _ 0 _ _ _ B0.out).trans (show _ = some (Value.slice qa qs.length qc) from rfl)
      have p_B0_1 := (cell_of_row w6 _ 1 _ _ _ B0.out).trans (show _ = some (Value.slice (some ⟨b, off, none⟩) fs.length fc) from rfl)
      have p_el := (d.out.cell (p := ⟨b, off + k, none⟩) HBL.out).trans P0.out
      refine hK.out _ _ ⟨p_B0_0, p_B0_1, p_el⟩ (fun hHeld => ?_)
      clear p_B0_0 p_B0_1 p_el
      clear hK K
      try simp only [Act.put, lA, lB, lC]
      refine tR (i := 10) (v := ?_) ?_ ?_; rotate_left
      ·
       intro w hSw; (try dsimp only at hSw); go_simp; try (with_reducible rfl)
      try simp only [Act.put, lA, lB, lC]
      refine wpAnyH_done (by kernel_rfl) ?_ _
      clear hHeld
      go_wp2
      go_ret
      exact ⟨ret_b HF.out.symm, d.out⟩
    ·
     obtain rfl : k = 3 := by omega
     have HY := Lib.hid (isIdx_yes HQ.out HL.out hf.out)
     clear hf
     go_wp2
     go_ret
     exact ⟨ret_b HY.out.symm, hbel⟩
  ·
   have HE := Lib.hid (isIdx_len (qs := qs) hl)
   have hne : ((fs.length : Int) != 3) = true := by rw [bne_iff_ne]; omega
   rw [HE.out]
   clear hl HE
   go_enter Tryd.func38, Tryd.ntmps38
   go_wp2_with fail
   generalize w.alloc (.cells #[.slice qa qs.length qc, .slice fa fs.length fc] 49) = W at *
   refine (HA.out W (slR_queries (slR_below tQuery_law H1.out d0.out))).mono ?_
   rintro e w1 ⟨rfl, b1⟩
   have k0 := (b1.block w.heap.size Y0.out).trans B0.out
   have D := Lib.hid (d0.out.trans (b1.mono d0.out.size))
   have c1 := (cell_of_row w1 _ 1 _ _ _ k0).trans (show _ = some (Value.slice fa fs.length fc) from rfl)
   clear b1 k0
   go_wp2
   go_ret
   exact ⟨rfl, D.out⟩
theorem allL_step {qs : List QD} {k : Nat} (h : k < qs.length) : (qs.take k).map (·.1) ++ [(qs.getD k q0D).1] = (qs.take (k + 1)).map (·.1) := by
 have e : qs.getD k q0D = qs[k] := by simp [List.getD, h]
 rw [e, List.take_succ_eq_append_getElem h, List.map_append]; rfl
set_option maxHeartbeats 4000000 in
set_option maxRecDepth 100000 in
theorem specL6All (v : Value) (qs : List QD) (w : World) (h : QueriesR w v qs) (hn : qs.length ≤ 1048576) :
  Calls Tryd.prog 123 #[v] w (FreshInts w (allL qs)) := by
 have H := Lib.hid h
 obtain ⟨a, cap, rfl⟩ := queriesR_len h
 clear h
 go_enter Tryd.func123, Tryd.ntmps123
 go_wp2
 go_loopw [3, 4] (fun o i wr => ∃ k : Nat, k ≤ qs.length ∧ i = .int .i64 k ∧ OwnsN wr w.heap.size o ((qs.take k).map (·.1)) ∧ Below w.heap.size w wr) (fun _ i _ => qs.length - (intOf i).toNat)
 case atStart => exact ⟨0, Nat.zero_le _, rfl, ownsN_lit w _ (Nat.le_refl _) #[] 0 [] rfl rfl (by decide), (Below.refl _ _).alloc (Nat.le_refl _) _⟩
 case round =>
  obtain ⟨k, hk, rfl, hown, hbel⟩ := hrel
  by_cases hlt : k < qs.length
  ·
   have i1 : (0 : Int) ≤ (k : Int) := by omega
   have i2 : (k : Int) < (qs.length : Int) := by omega
   obtain ⟨b, off, cap', cv, ov, hv, hbl, hc1, hc2, hc3, hc4, _, _⟩ := queriesR_at (queriesR_below H.out hbel) hlt
   simp only [Value.slice.injEq] at hv
   obtain ⟨rfl, _, rfl⟩ := hv
   have HY := Lib.hid (allL_step hlt)
   have HL : Hid (((qs.take k).map (·.1)).length ≤ 1048576) := Lib.hid (by rw [List.length_map, List.length_take]; omega)
   have hB := hbel.size
   generalize (qs.getD k q0D).1 = qid at *
   generalize (qs.take k).map (·.1) = ac at *
   clear hc2 hc3 hc4
   go_wp2_with (at_builtin; refine append_ints rfl (.tmp 12) (.tmp 18) rfl w.heap.size _ _ rfl hown hB _ [qid] 1 _ rfl (by first | rfl | (simp; done)) rfl (by have := HL.out; simp; omega) ?_)
   intro v' w4 hown4 hb4
   rw [HY.out] at hown4
   have hb5 := hbel.trans hb4
   clear hown hbel hb4 hc1
   go_wp2
   go_roundw
   case rel => exact ⟨k + 1, by omega, by go_num, hown4, hb5⟩
   case measure => simp [intOf]; omega
  ·
   obtain rfl : k = qs.length := by omega
   rw [List.take_length] at hown
   go_wp2
   go_ret
   exact ⟨_, rfl, hown, hbel⟩
/-- As far as k the order is one. -/
def OrdTo (os : List Int) (k : Nat) : Prop := ∀ i, i < k → (0 ≤ os.getD i 0 ∧ os.getD i 0 ≤ 2) ∧ os.getD i 0 ∉ os.take i
theorem orderB_len {os : List Int} (h : ¬ os.length = 3) : orderB os = false := by unfold orderB; rw [decide_eq_false h]; rfl
theorem orderB_yes {os : List Int} (hl : os.length = 3) (h : OrdTo os os.length) : orderB os = true := by
 unfold orderB
 rw [decide_eq_true hl, Bool.true_and, List.all_eq_true]
 intro i hi
 have := h i (List.mem_range.1 hi)
 simp only [Bool.and_eq_true, decide_eq_true_eq, Bool.not_eq_true', decide_eq_false_iff_not]
 exact this
theorem orderB_no {os : List Int} {k : Nat} (hk : k < os.length) (h : ¬ ((0 ≤ os.getD k 0 ∧ os.getD k 0 ≤ 2) ∧ os.getD k 0 ∉ os.take k)) : orderB os = false := by
 rw [Bool.eq_false_iff]
 intro g
 unfold orderB at g
 rw [Bool.and_eq_true, List.all_eq_true] at g
 have := g.2 k (List.mem_range.2 hk)
 simp only [Bool.and_eq_true, decide_eq_true_eq, Bool.not_eq_true', decide_eq_false_iff_not] at this
 exact h this
theorem order_iff {os : List Int} (h : orderB os = true) : os.length = 3 ∧ ∀ i, i < os.length → 0 ≤ os.getD i 0 ∧ os.getD i 0 ≤ 2 := by
 unfold orderB at h
 rw [Bool.and_eq_true, List.all_eq_true, decide_eq_true_eq] at h
 refine ⟨h.1, fun i hi => ?_⟩
 have := h.2 i (List.mem_range.2 hi)
 rw [Bool.and_eq_true, decide_eq_true_eq] at this
 exact this.1
theorem ints_take {w : World} {b off cap n : Nat} {xs : List Int} (h : Ints w (.slice (some ⟨b, off, none⟩) n cap) xs) {k : Nat} (hk : k ≤ xs.length) (hp : 0 < xs.length) : Ints w (.slice (some ⟨b, off, none⟩) k cap) (xs.take k) := by
 rcases h with ⟨rfl, _⟩ | ⟨b', off', cap', hv, h2, h3, h4⟩
 ·
  simp at hp
 ·
  simp only [Value.slice.injEq, Option.some.injEq, Addr.mk.injEq] at hv
  obtain ⟨⟨rfl, rfl, _⟩, _, rfl⟩ := hv
  have hl : (xs.take k).length = k := by rw [List.length_take]; omega
  refine Or.inr ⟨b, off, cap, by rw [hl], by omega, h3, fun j hj => ?_⟩
  rw [hl] at hj
  rw [h4 j (by omega)]
  have h1 : j < (xs.take k).length := by omega
  simp [List.getD, hj, show j < xs.length by omega]
theorem ints_cap {w : World} {b off cap n : Nat} {xs : List Int} (h : Ints w (.slice (some ⟨b, off, none⟩) n cap) xs) (hp : 0 < xs.length) : xs.length ≤ cap := by
 rcases h with ⟨rfl, _⟩ | ⟨b', off', cap', hv, h2, _⟩
 ·
  simp at hp
 ·
  simp only [Value.slice.injEq] at hv
  obtain ⟨_, _, rfl⟩ := hv
  exact h2
theorem has_yes (v : Value) (xs : List Int) (x : Int) (w : World) (h : Ints w v xs) (hn : xs.length ≤ 1048576) (hm : x ∈ xs) :
  Calls Tryd.prog 52 #[v, .int .i64 x] w fun e w' => e = .returned (.bool true) ∧ w' = w :=
 (specHas v xs x w h hn).mono fun e w' g => ⟨by rw [g.1, decide_eq_true hm], g.2.symm⟩
theorem has_no (v : Value) (xs : List Int) (x : Int) (w : World) (h : Ints w v xs) (hn : xs.length ≤ 1048576) (hm : x ∉ xs) :
  Calls Tryd.prog 52 #[v, .int .i64 x] w fun e w' => e = .returned (.bool false) ∧ w' = w :=
 (specHas v xs x w h hn).mono fun e w' g => ⟨by rw [g.1, decide_eq_false hm], g.2.symm⟩
set_option maxHeartbeats 4000000 in
set_option maxRecDepth 100000 in
theorem specL6Order (v : Value) (os : List Int) (w : World) (h : Ints w v os) (hn : os.length ≤ 1048576) :
  Calls Tryd.prog 86 #[v] w fun e w' => e = .returned (.bool (orderB os)) ∧ Below w.heap.size w w' := by
 have H := Lib.hid h
 obtain ⟨a, cap, rfl⟩ := ints_len h
 clear h
 by_cases hl : os.length = 3
 ·
  have hne : ((os.length : Int) != 3) = false := by rw [hl]; rfl
  have HL := Lib.hid hl
  clear hl
  go_enter Tryd.func86, Tryd.ntmps86
  go_wp2
  clear hne
  go_loopw [3] (fun i wr => ∃ k : Nat, k ≤ os.length ∧ i = .int .i64 k ∧ Hid (OrdTo os k) ∧ Below w.heap.size w wr) (fun i _ => os.length - (intOf i).toNat)
  case atStart => exact ⟨0, Nat.zero_le _, rfl, Lib.hid (fun i hi => by omega), Below.refl _ _⟩
  case round =>
   obtain ⟨k, hk, rfl, hord, hbel⟩ := hrel
   by_cases hlt : k < os.length
   ·
    have I := ints_below H.out hbel
    obtain ⟨b, off, cap', hv, hbl, hc⟩ := ints_cell I (by omega)
    simp only [Value.slice.injEq] at hv
    obtain ⟨rfl, _, rfl⟩ := hv
    have hcell := hc k hlt
    have hcp := ints_cap I (by omega)
    have HT := Lib.hid (ints_take I hk (by omega))
    have HTL : Hid ((os.take k).length ≤ 1048576) := Lib.hid (by rw [List.length_take]; omega)
    have i1 : (0 : Int) ≤ (k : Int) := by omega
    have i2 : (k : Int) < (os.length : Int) := by omega
    have i3 : (k : Int) ≤ (cap : Int) := by omega
    have i4 : k ≤ cap := by omega
    have HNO := Lib.hid (fun h => orderB_no (os := os) hlt h)
    have HST : Hid ((0 ≤ os.getD k 0 ∧ os.getD k 0 ≤ 2) ∧ os.getD k 0 ∉ os.take k → OrdTo os (k + 1)) := Lib.hid (fun h i hi => by
     by_cases e : i = k
     ·
      rw [e]; exact h
     ·
      exact hord.out i (by omega))
    clear hc I hord
    generalize os.getD k 0 = y at *
    generalize os.take k = ts at *
    by_cases hin : 0 ≤ y ∧ y ≤ 2
    ·
     obtain ⟨g0, g1⟩ := hin
     by_cases hm : y ∈ ts
     ·
      have HF := Lib.hid (HNO.out (fun q => q.2 hm))
      have HM := Lib.hid hm
      clear hm HNO HST
      go_wp2
      go_quiet ((first | (go_at_call 54; exact Calls.quiet_of_same (in_yes _ _ _ _ (by omega) (by omega))) | (go_at_call 52; exact Calls.quiet_of_same (has_yes _ ts _ _ HT.out HTL.out HM.out))))
      go_wp2
      go_ret
      exact ⟨ret_b HF.out.symm, below_same hbel rfl rfl rfl rfl⟩
     ·
      have HS := Lib.hid (HST.out ⟨⟨g0, g1⟩, hm⟩)
      have HM := Lib.hid hm
      clear hm HNO HST
      go_wp2
      go_quiet ((first | (go_at_call 54; exact Calls.quiet_of_same (in_yes _ _ _ _ (by omega) (by omega))) | (go_at_call 52; exact Calls.quiet_of_same (has_no _ ts _ _ HT.out HTL.out HM.out))))
      go_wp2
      go_roundw
      case rel => exact ⟨k + 1, by omega, by go_num, HS, below_same hbel rfl rfl rfl rfl⟩
      case measure => simp [intOf]; omega
    ·
     have HF := Lib.hid (HNO.out (fun q => hin q.1))
     have HI := Lib.hid hin
     clear hin HNO HST
     go_wp2
     go_quiet ((go_at_call 54; exact Calls.quiet_of_same (in_no _ _ _ _ HI.out)))
     go_wp2
     go_ret
     exact ⟨ret_b HF.out.symm, below_same hbel rfl rfl rfl rfl⟩
   ·
    obtain rfl : k = os.length := by omega
    have HY := Lib.hid (orderB_yes HL.out hord.out)
    clear hord
    go_wp2
    go_ret
    exact ⟨ret_b HY.out.symm, hbel⟩
 ·
  have hne : ((os.length : Int) != 3) = true := by rw [bne_iff_ne]; omega
  have HF := Lib.hid (orderB_len hl)
  clear hl
  go_enter Tryd.func86, Tryd.ntmps86
  go_wp2
  go_ret
  exact ⟨ret_b HF.out.symm, Below.refl _ _⟩
def FreshPW (w : World) (p : List Int × Int) (e : Ending) (w' : World) : Prop := ∃ v, e = .returned (.tuple #[v, .int .i64 p.2]) ∧ OwnsN w' w.heap.size v p.1 ∧ Below w.heap.size w w'
theorem probe_end {fs : List (List SpanD)} {vs os : List Int} {k : Nat} {set : List Int} {work : Int} (h : os.length ≤ k ∨ set.length = 0) : probeL fs vs (os.drop k) set work = (set, work) := by
 rcases h with h | h
 ·
  rw [List.drop_eq_nil_of_le h]; rfl
 ·
  cases os.drop k with
  | nil => rfl
  | cons f os => unfold probeL; rw [if_pos h]
theorem probe_step {fs : List (List SpanD)} {vs os : List Int} {k : Nat} {set : List Int} {work : Int} (hk : k < os.length) (h : 0 < set.length) :
  probeL fs vs (os.drop k) set work = probeL fs vs (os.drop (k + 1)) (meetL set (findL (fs.getD (os.getD k 0).toNat []) (vs.getD (os.getD k 0).toNat 0))) (work + 1 + ((min set.length (findL (fs.getD (os.getD k 0).toNat []) (vs.getD (os.getD k 0).toNat 0)).length : Nat) : Int)) := by
 have e : os.getD k 0 = os[k] := by simp [List.getD, hk]
 rw [e, List.drop_eq_getElem_cons hk]
 conv => lhs; unfold probeL
 rw [if_neg (by omega)]
theorem meetL_len (a b : List Int) : (meetL a b).length ≤ a.length := by
 unfold meetL
 split
 ·
  exact List.length_filter_le _ _
 ·
  simp
theorem findL_small {rs : List SpanD} {v : Int} (h : zpL rs ≤ 1048576) : (findL rs v).length ≤ 1048576 := by
 unfold findL
 cases e : rs.find? (hitB v) with
 | none => simp [p0D]
 | some r =>
  have hm := List.mem_of_find?_eq_some e
  obtain ⟨i, hi, rfl⟩ := List.getElem_of_mem hm
  have := zpL_span h hi
  simpa [List.getD, hi] using this
set_option maxHeartbeats 16000000 in
set_option maxRecDepth 100000 in
theorem specL6Probe (qv fv vv ov : Value) (qs : List QD) (fs : List (List SpanD)) (rid : Int) (vs os : List Int) (w : World) (h1 : SlR tQuery w qv qs) (h2 : SlR tSpanS w fv fs) (h3 : Ints w vv vs) (h4 : Ints w ov os) (hs : zL tQuery qs ≤ 1048576) (hz : zL tSpanS fs ≤ 1048576) (hl3 : fs.length = 3) (hv3 : vs.length = 3) (ho3 : os.length = 3) (hos : ∀ i, i < os.length → 0 ≤ os.getD i 0 ∧ os.getD i 0 ≤ 2) :
  Calls Tryd.prog 87 #[.agg #[qv, fv], .agg #[.int .i64 rid, vv], ov] w (FreshPW w (probeL fs vs os (allL qs) 0)) := by
 have hlen := zL_len hs
 have HZF := Lib.hid hz
 obtain ⟨qa, qc, rfl⟩ := slR_len h1
 obtain ⟨fa, fc, rfl⟩ := slR_len h2
 obtain ⟨va, vc, rfl⟩ := ints_len h3
 obtain ⟨oa, oc, rfl⟩ := ints_len h4
 have d0 := Lib.hid (((Below.refl w.heap.size w).alloc (Nat.le_refl _) (.cells #[.slice qa qs.length qc, .slice fa fs.length fc] 49)).alloc (by simp) (.cells #[.int .i64 rid, .slice va vs.length vc] 51))
 have B0 : Hid (((w.alloc (.cells #[.slice qa qs.length qc, .slice fa fs.length fc] 49)).alloc (.cells #[.int .i64 rid, .slice va vs.length vc] 51)).heap[w.heap.size]? = some (.cells #[.slice qa qs.length qc, .slice fa fs.length fc] 49 (0, 0))) := Lib.hid (by rw [Below.heap_alloc _ _ _ (by simp)]; exact heap_alloc_new w _)
 have B1 : Hid (((w.alloc (.cells #[.slice qa qs.length qc, .slice fa fs.length fc] 49)).alloc (.cells #[.int .i64 rid, .slice va vs.length vc] 51)).heap[(w.heap.size + 1)]? = some (.cells #[.int .i64 rid, .slice va vs.length vc] 51 (0, 0))) := Lib.hid (by
  have := heap_alloc_new (w.alloc (.cells #[.slice qa qs.length qc, .slice fa fs.length fc] 49)) (.cells #[.int .i64 rid, .slice va vs.length vc] 51)
  simpa only [World.size_alloc] using this)
 have Y0 : Hid (w.heap.size + 1 < ((w.alloc (.cells #[.slice qa qs.length qc, .slice fa fs.length fc] 49)).alloc (.cells #[.int .i64 rid, .slice va vs.length vc] 51)).heap.size) := Lib.hid (by simp)
 have H1 := Lib.hid h1; have H2 := Lib.hid h2; have H3 := Lib.hid h3; have H4 := Lib.hid h4
 have HL3 := Lib.hid hl3; have HV3 := Lib.hid hv3; have HO3 := Lib.hid ho3; have HOS := Lib.hid hos
 have hol : os.length ≤ 3 := by omega
 clear h1 h2 h3 h4 hs hz hl3 hv3 ho3 hos
 go_enter Tryd.func87, Tryd.ntmps87
 go_wp2_with fail
 generalize ((w.alloc (.cells #[.slice qa qs.length qc, .slice fa fs.length fc] 49)).alloc (.cells #[.int .i64 rid, .slice va vs.length vc] 51)) = W at *
 refine (specL6All (.slice qa qs.length qc) qs W (slR_queries (slR_below tQuery_law H1.out d0.out)) hlen).mono ?_
 rintro e w1 ⟨u, rfl, ou, b1⟩
 have k0 := (b1.block w.heap.size (Nat.lt_trans (Nat.lt_succ_self _) Y0.out)).trans B0.out
 have k1 := (b1.block (w.heap.size + 1) Y0.out).trans B1.out
 have d1 := d0.out.trans (b1.mono d0.out.size)
 have y1 := Nat.lt_of_lt_of_le Y0.out b1.size
 have ou1 := ownsN_up ou (show w.heap.size ≤ W.heap.size from d0.out.size)
 have HAL : Hid ((allL qs).length ≤ 1048576) := Lib.hid (by unfold allL; rw [List.length_map]; exact hlen)
 clear ou b1 d0 B0 B1 Y0
 go_wp2
 go_loopw [8, 9, 10] (fun o n i wr => ∃ (k : Nat) (set : List Int) (work : Int), k ≤ os.length ∧ i = .int .i64 k ∧ n = .int .i64 work ∧ OwnsN wr w.heap.size o set ∧ set.length ≤ 1048576 ∧ 0 ≤ work ∧ work ≤ 2097152 * (k : Int) ∧ Hid (probeL fs vs (os.drop k) set work = probeL fs vs os (allL qs) 0) ∧
  wr.heap[w.heap.size]? = some (.cells #[.slice qa qs.length qc, .slice fa fs.length fc] 49 (0, 0)) ∧ wr.heap[(w.heap.size + 1)]? = some (.cells #[.int .i64 rid, .slice va vs.length vc] 51 (0, 0)) ∧ Below w.heap.size w wr ∧ w.heap.size + 1 < wr.heap.size) (fun _ _ i _ => os.length - (intOf i).toNat)
 case atStart => exact ⟨0, allL qs, 0, Nat.zero_le _, rfl, rfl, ou1, HAL.out, by omega, by omega, Lib.hid (by rw [List.drop_zero]), k0, k1, d1, y1⟩
 case round =>
  obtain ⟨k, set, work, hk, rfl, rfl, hset, hsl, hw0, hw1, hP, hr0, hr1, hbel, hsz⟩ := hrel
  obtain ⟨sa, sc, rfl⟩ := ints_len (ownsN_ints hset)
  by_cases hgo : k < os.length ∧ 0 < set.length
  ·
   obtain ⟨hlt, hpos⟩ := hgo
   have i1 : (0 : Int) ≤ (k : Int) := by omega
   have i2 : (k : Int) < (os.length : Int) := by omega
   have i3 : (0 : Int) < (set.length : Int) := by omega
   obtain ⟨g0, g1⟩ := HOS.out k hlt
   have HPS := Lib.hid (probe_step (fs := fs) (vs := vs) (work := work) hlt hpos)
   obtain ⟨ob, oo, ocap, hv, hobl, hoc⟩ := ints_cell H4.out (by omega)
   simp only [Value.slice.injEq] at hv
   obtain ⟨rfl, _, rfl⟩ := hv
   have OC := Lib.hid (hoc k hlt)
   have OBL := Lib.hid hobl
   clear hoc hobl
   generalize os.getD k 0 = f at *
   have hfn : f.toNat < fs.length := by have := HL3.out; omega
   have hvn : f.toNat < vs.length := by have := HV3.out; omega
   have j1 : f < (fs.length : Int) := by omega
   have j2 : f < (vs.length : Int) := by omega
   obtain ⟨fb, fo, fcap, cs, hv, hfbl, hcs, hR⟩ := slR_at H2.out hfn
   simp only [Value.slice.injEq] at hv
   obtain ⟨rfl, _, rfl⟩ := hv
   obtain ⟨u, rfl, hU⟩ := hR
   have FC : Hid (w.cell? ⟨fb, fo + f.toNat, none⟩ = some u) := Lib.hid (by have := hcs 0 Nat.one_pos; rw [show tSpanS.n = 1 from rfl, Nat.mul_one, Nat.add_zero] at this; exact this)
   have FBL := Lib.hid hfbl
   have hzx := zL_at HZF.out hfn
   have HZU : Hid (zpL (fs.getD f.toNat []) ≤ 1048576) := Lib.hid (by rw [← zL_spans]; exact hzx)
   have HUL : Hid (∃ a cap, u = .slice a (fs.getD f.toNat []).length cap) := Lib.hid (slR_len hU)
   have HU : Hid (SlR tSpan w u (fs.getD f.toNat [])) := Lib.hid hU
   obtain ⟨vb, vo, vcap, hv, hvbl, hvc⟩ := ints_cell H3.out (by omega)
   simp only [Value.slice.injEq] at hv
   obtain ⟨rfl, _, rfl⟩ := hv
   have VC := Lib.hid (hvc f.toNat hvn)
   have VBL := Lib.hid hvbl
   clear hvc hvbl hcs hU hzx hfbl hfn hvn
   generalize fs.getD f.toNat [] = rs at *
   generalize vs.getD f.toNat 0 = y at *
   obtain ⟨ra, rc, rfl⟩ := HUL.out
   clear HUL
   have HFS : Hid ((findL rs y).length ≤ 1048576) := Lib.hid (findL_small HZU.out)
   have B0 := Lib.hid hr0
   have B1 := Lib.hid hr1
   have d := Lib.hid hbel
   have HSET := Lib.hid hset
   have HY := Lib.hid hsz
   clear hr0 hr1 hbel hset k0 k1 d1 y1 ou1 hsz
   go_wp2
   have HYW : Hid (w.heap.size ≤ wr.heap.size) := Lib.hid d.out.size
   have p_B0_0 := (cell_of_row wr _ 0 _ _ _ B0.out).trans (show _ = some (Value.slice qa qs.length qc) from rfl)
   have p_B0_1 := (cell_of_row wr _ 1 _ _ _ B0.out).trans (show _ = some (Value.slice (some ⟨fb, fo, none⟩) fs.length fc) from rfl)
   have p_B1_0 := (cell_of_row wr _ 0 _ _ _ B1.out).trans (show _ = some (Value.int .i64 rid) from rfl)
   have p_B1_1 := (cell_of_row wr _ 1 _ _ _ B1.out).trans (show _ = some (Value.slice (some ⟨vb, vo, none⟩) vs.length vc) from rfl)
   have p_oc := (d.out.cell (p := ⟨ob, oo + k, none⟩) OBL.out).trans OC.out
   have p_fc := (d.out.cell (p := ⟨fb, fo + f.toNat, none⟩) FBL.out).trans FC.out
   have p_vc := (d.out.cell (p := ⟨vb, vo + f.toNat, none⟩) VBL.out).trans VC.out
   refine wp_region_held_drew (S := fun w' => w'.cell? ⟨w.heap.size, 0, none⟩ = some (Value.slice qa qs.length qc) ∧ w'.cell? ⟨w.heap.size, 1, none⟩ = some (Value.slice (some ⟨fb, fo, none⟩) fs.length fc) ∧ w'.cell? ⟨(w.heap.size + 1), 0, none⟩ = some (Value.int .i64 rid) ∧ w'.cell? ⟨(w.heap.size + 1), 1, none⟩ = some (Value.slice (some ⟨vb, vo, none⟩) vs.length vc) ∧ w'.cell? ⟨ob, oo + k, none⟩ = some (Value.int .i64 f) ∧ w'.cell? ⟨fb, fo + f.toNat, none⟩ = some (Value.slice ra rs.length rc) ∧ w'.cell? ⟨vb, vo + f.toNat, none⟩ = some (Value.int .i64 y)) (by kernel_rfl) ⟨p_B0_0, p_B0_1, p_B1_0, p_B1_1, p_oc, p_fc, p_vc⟩ (fun hHeld => ?_)
   clear p_B0_0 p_B0_1 p_B1_0 p_B1_1 p_oc p_fc p_vc
   have cdr : Below wr.heap.size wr wr.drew := below_drew (Below.refl _ _)
   replace B0 := Lib.hid ((cdr.block w.heap.size (Array.getElem?_eq_some_iff.1 B0.out).1).trans B0.out)
   replace B1 := Lib.hid ((cdr.block (w.heap.size + 1) (Array.getElem?_eq_some_iff.1 B1.out).1).trans B1.out)
   replace d := Lib.hid (d.out.trans (cdr.mono d.out.size))
   clear cdr
   refine tR (i := 0) (v := ?_) ?_ ?_; rotate_left
   ·
    intro w hSw; (try dsimp only at hSw); go_simp; try (with_reducible rfl)
   try simp only [Act.put, lA, lB, lC]
   refine tR (i := 1) (v := ?_) ?_ ?_; rotate_left
   ·
    intro w hSw; (try dsimp only at hSw); go_simp; try (with_reducible rfl)
   try simp only [Act.put, lA, lB, lC]
   refine tR (i := 2) (v := ?_) ?_ ?_; rotate_left
   ·
    intro w hSw; (try dsimp only at hSw); go_simp; try (with_reducible rfl)
   try simp only [Act.put, lA, lB, lC]
   refine tR (i := 3) (v := ?_) ?_ ?_; rotate_left
   ·
    intro w hSw; (try dsimp only at hSw); go_simp; try (with_reducible rfl)
   try simp only [Act.put, lA, lB, lC]
   refine tR (i := 4) (v := ?_) ?_ ?_; rotate_left
   ·
    intro w hSw; (try dsimp only at hSw); go_simp; try (with_reducible rfl)
   try simp only [Act.put, lA, lB, lC]
   refine tR (i := 5) (v := ?_) ?_ ?_; rotate_left
   ·
    intro w hSw; (try dsimp only at hSw); go_simp; try (with_reducible rfl)
   try simp only [Act.put, lA, lB, lC]
   refine tR (i := 6) (v := ?_) ?_ ?_; rotate_left
   ·
    intro w hSw; (try dsimp only at hSw); go_simp; try (with_reducible rfl)
   try simp only [Act.put, lA, lB, lC]
   refine tR (i := 7) (v := ?_) ?_ ?_; rotate_left
   ·
    intro w hSw; (try dsimp only at hSw); go_simp; try (with_reducible rfl)
   try simp only [Act.put, lA, lB, lC]
   refine tR (i := 8) (v := ?_) ?_ ?_; rotate_left
   ·
    intro w hSw; (try dsimp only at hSw); go_simp; try (with_reducible rfl)
   try simp only [Act.put, lA, lB, lC]
   refine tR (i := 9) (v := ?_) ?_ ?_; rotate_left
   ·
    intro w hSw; (try dsimp only at hSw); go_simp; try (with_reducible rfl)
   try simp only [Act.put, lA, lB, lC]
   refine tR (i := 10) (v := ?_) ?_ ?_; rotate_left
   ·
    intro w hSw; (try dsimp only at hSw); go_simp; try (with_reducible rfl)
   try simp only [Act.put, lA, lB, lC]
   refine tR (i := 11) (v := ?_) ?_ ?_; rotate_left
   ·
    intro w hSw; (try dsimp only at hSw); go_simp; try (with_reducible rfl)
   try simp only [Act.put, lA, lB, lC]
   refine tR (i := 12) (v := ?_) ?_ ?_; rotate_left
   ·
    intro w hSw; (try dsimp only at hSw); go_simp; try (with_reducible rfl)
   try simp only [Act.put, lA, lB, lC]
   refine tR (i := 13) (v := ?_) ?_ ?_; rotate_left
   ·
    intro w hSw; (try dsimp only at hSw); go_simp; try (with_reducible rfl)
   try simp only [Act.put, lA, lB, lC]
   refine tR (i := 14) (v := ?_) ?_ ?_; rotate_left
   ·
    intro w hSw; (try dsimp only at hSw); go_simp; try (with_reducible rfl)
   try simp only [Act.put, lA, lB, lC]
   refine tR (i := 15) (v := ?_) ?_ ?_; rotate_left
   ·
    intro w hSw; (try dsimp only at hSw); go_simp; try (with_reducible rfl)
   try simp only [Act.put, lA, lB, lC]
   refine wpAnyH_ready (rs := [16]) (by kernel_rfl) (by simp) ?_
   refine (AllReadyH.cons (o := _) (by simp only [hA, hB, hC]; rfl) (fun K hK => ?_) AllReadyH.nil)
   go_simp
   refine (specFindSpan (.slice ra rs.length rc) rs y (wr.drew) (slR_spans (slR_below tSpan_law HU.out d.out)) (fun j hj => zpL_span HZU.out hj) (by have h9 := HZU.out; rw [← zL_spans] at h9; exact zL_len h9)).mono ?_
   rintro e w5 ⟨su, rfl, os5, c5⟩
   replace B0 := Lib.hid ((c5.block w.heap.size (Array.getElem?_eq_some_iff.1 B0.out).1).trans B0.out)
   replace B1 := Lib.hid ((c5.block (w.heap.size + 1) (Array.getElem?_eq_some_iff.1 B1.out).1).trans B1.out)
   replace d := Lib.hid (d.out.trans (c5.mono d.out.size))
   have Z_w5 := Lib.hid (show wr.heap.size ≤ w5.heap.size from c5.size)
   have HS5 := Lib.hid (ownsN_below HSET.out ⟨c5.os, c5.tape, c5.output, c5.size, c5.block⟩)
   clear c5 HSET
   obtain ⟨ta, tc, rfl⟩ := ints_len (ownsN_ints os5)
   have SU := Lib.hid (ownsN_ints os5)
   clear os5
   have p_B0_0 := (cell_of_row w5 _ 0 _ _ _ B0.out).trans (show _ = some (Value.slice qa qs.length qc) from rfl)
   have p_B0_1 := (cell_of_row w5 _ 1 _ _ _ B0.out).trans (show _ = some (Value.slice (some ⟨fb, fo, none⟩) fs.length fc) from rfl)
   have p_B1_0 := (cell_of_row w5 _ 0 _ _ _ B1.out).trans (show _ = some (Value.int .i64 rid) from rfl)
   have p_B1_1 := (cell_of_row w5 _ 1 _ _ _ B1.out).trans (show _ = some (Value.slice (some ⟨vb, vo, none⟩) vs.length vc) from rfl)
   have p_oc := (d.out.cell (p := ⟨ob, oo + k, none⟩) OBL.out).trans OC.out
   have p_fc := (d.out.cell (p := ⟨fb, fo + f.toNat, none⟩) FBL.out).trans FC.out
   have p_vc := (d.out.cell (p := ⟨vb, vo + f.toNat, none⟩) VBL.out).trans VC.out
   refine hK.out _ _ ⟨p_B0_0, p_B0_1, p_B1_0, p_B1_1, p_oc, p_fc, p_vc⟩ (fun hHeld => ?_)
   clear p_B0_0 p_B0_1 p_B1_0 p_B1_1 p_oc p_fc p_vc
   clear hK K
   try simp only [Act.put, lA, lB, lC]
   refine tR (i := 17) (v := ?_) ?_ ?_; rotate_left
   ·
    intro w hSw; (try dsimp only at hSw); go_simp; try (with_reducible rfl)
   try simp only [Act.put, lA, lB, lC]
   refine wpAnyH_done (by kernel_rfl) ?_ _
   clear hHeld
   generalize findL rs y = ss at *
   have hsl2 := HFS.out
   have hwb : work + 1 + (set.length : Int) ≤ 9223372036854775807 := by omega
   have hwc : work + 1 + (ss.length : Int) ≤ 9223372036854775807 := by omega
   go_wp2_with fail
   refine (specMeet (.slice sa set.length sc) (.slice ta ss.length tc) set ss w5 (ownsN_ints HS5.out) SU.out hsl HFS.out).mono ?_
   rintro e w6 ⟨mv, rfl, om, c6⟩
   replace B0 := Lib.hid ((c6.block w.heap.size (Array.getElem?_eq_some_iff.1 B0.out).1).trans B0.out)
   replace B1 := Lib.hid ((c6.block (w.heap.size + 1) (Array.getElem?_eq_some_iff.1 B1.out).1).trans B1.out)
   replace d := Lib.hid (d.out.trans (c6.mono d.out.size))
   have Z_w6 := Lib.hid (show w5.heap.size ≤ w6.heap.size from c6.size)
   clear c6
   have hml := meetL_len set ss
   have OM := Lib.hid (ownsN_up om (show w.heap.size ≤ w5.heap.size by have := Z_w5.out; have := HY.out; have := HYW.out; omega))
   have HN : Hid (probeL fs vs (os.drop (k + 1)) (meetL set ss) (work + 1 + ((min set.length ss.length : Nat) : Int)) = probeL fs vs os (allL qs) 0) := Lib.hid (by rw [← hP.out, HPS.out])
   clear om hP HPS HS5 SU
   go_wp2
   go_roundw
   case rel => exact ⟨k + 1, meetL set ss, work + 1 + ((min set.length ss.length : Nat) : Int), by omega, by go_num, congrArg (Value.int .i64) (by omega), OM.out, by omega, by omega, by omega, HN.out, B0.out, B1.out, d.out, Nat.lt_of_lt_of_le HY.out (Nat.le_trans Z_w5.out Z_w6.out)⟩
   case measure => simp [intOf]; omega
  ·
   have HEND := Lib.hid (probe_end (fs := fs) (vs := vs) (work := work) (show os.length ≤ k ∨ set.length = 0 by omega))
   have HR : Hid (probeL fs vs os (allL qs) 0 = (set, work)) := Lib.hid (by rw [← hP.out]; exact HEND.out)
   clear hP HEND
   by_cases hlt : k < os.length
   ·
    have i1 : (k : Int) < (os.length : Int) := by omega
    have hz0 : set = [] := List.eq_nil_of_length_eq_zero (by omega)
    subst hz0
    clear hgo
    go_wp2
    go_ret2
    exact ⟨.slice sa 0 sc, by first | (rw [HR.out]; done) | (rw [HR.out]; rfl), by rw [HR.out]; exact hset, hbel⟩
   ·
    have i1 : ¬ (k : Int) < (os.length : Int) := by omega
    clear hgo
    go_wp2
    go_ret2
    exact ⟨.slice sa set.length sc, by first | (rw [HR.out]; done) | (rw [HR.out]; rfl), by rw [HR.out]; exact hset, hbel⟩
theorem probeB_no {qs : List QD} {fs : List (List SpanD)} {r : RowD} {os : List Int} (h : (isIndexB qs fs && (rowB r && orderB os)) = false) : probeB qs fs r os = ([], 0) := by unfold probeB; rw [h]; rfl
theorem probeB_yes {qs : List QD} {fs : List (List SpanD)} {r : RowD} {os : List Int} (h : (isIndexB qs fs && (rowB r && orderB os)) = true) : probeB qs fs r os = probeL fs r.2 os (allL qs) 0 := by unfold probeB; rw [h]; rfl
theorem row_len {r : RowD} (h : rowB r = true) : r.2.length = 3 := by
 unfold rowB at h
 simp only [Bool.and_eq_true, decide_eq_true_eq] at h
 exact h.2.2
theorem idx_len {qs : List QD} {fs : List (List SpanD)} (h : isIndexB qs fs = true) : fs.length = 3 := by rw [(idx_iff h).2, fldTo_len]
set_option maxHeartbeats 16000000 in
set_option maxRecDepth 100000 in
theorem specProbeSet (qv fv vv ov : Value) (qs : List QD) (fs : List (List SpanD)) (rid : Int) (vs os : List Int) (w : World) (h1 : SlR tQuery w qv qs) (h2 : SlR tSpanS w fv fs) (h3 : Ints w vv vs) (h4 : Ints w ov os) (hs : zL tQuery qs ≤ 1048576) (hz : zL tSpanS fs ≤ 1048576) (hv : vs.length ≤ 1048576) (ho : os.length ≤ 1048576) :
  Calls Tryd.prog 36 #[.agg #[qv, fv], .agg #[.int .i64 rid, vv], ov] w (FreshPW w (probeB qs fs (rid, vs) os)) := by
 have hlen := zL_len hs
 have HS := Lib.hid hs
 have HZ := Lib.hid hz
 have hvl : vs.length ≤ 1048576 := hv
 obtain ⟨qa, qc, rfl⟩ := slR_len h1
 obtain ⟨fa, fc, rfl⟩ := slR_len h2
 obtain ⟨va, vc, rfl⟩ := ints_len h3
 have d := Lib.hid (((Below.refl w.heap.size w).alloc (Nat.le_refl _) (.cells #[.slice qa qs.length qc, .slice fa fs.length fc] 49)).alloc (by simp) (.cells #[.int .i64 rid, .slice va vs.length vc] 51))
 have B0 : Hid (((w.alloc (.cells #[.slice qa qs.length qc, .slice fa fs.length fc] 49)).alloc (.cells #[.int .i64 rid, .slice va vs.length vc] 51)).heap[w.heap.size]? = some (.cells #[.slice qa qs.length qc, .slice fa fs.length fc] 49 (0, 0))) := Lib.hid (by rw [Below.heap_alloc _ _ _ (by simp)]; exact heap_alloc_new w _)
 have B1 : Hid (((w.alloc (.cells #[.slice qa qs.length qc, .slice fa fs.length fc] 49)).alloc (.cells #[.int .i64 rid, .slice va vs.length vc] 51)).heap[(w.heap.size + 1)]? = some (.cells #[.int .i64 rid, .slice va vs.length vc] 51 (0, 0))) := Lib.hid (by
  have := heap_alloc_new (w.alloc (.cells #[.slice qa qs.length qc, .slice fa fs.length fc] 49)) (.cells #[.int .i64 rid, .slice va vs.length vc] 51)
  simpa only [World.size_alloc] using this)
 obtain ⟨oa, oc, rfl⟩ := ints_len h4
 have H1 := Lib.hid h1; have H2 := Lib.hid h2; have H3 := Lib.hid h3; have H4 := Lib.hid h4
 have HX := Lib.hid (fun w g1 g2 => specIsIndex (.slice qa qs.length qc) (.slice fa fs.length fc) qs fs w g1 g2 HS.out HZ.out)
 have HR := Lib.hid (fun w g => specIsRow rid (.slice va vs.length vc) vs w g hv)
 have HO := Lib.hid (fun w g => specL6Order (.slice oa os.length oc) os w g ho)
 clear h1 h2 h3 h4 hs hz hv ho
 cases hx : isIndexB qs fs with
 | false =>
  have HE : Hid (probeB qs fs (rid, vs) os = ([], 0)) := Lib.hid (probeB_no (by rw [hx]; rfl))
  rw [hx] at HX
  clear hx
  go_enter Tryd.func36, Tryd.ntmps36
  go_wp2_with fail
  generalize ((w.alloc (.cells #[.slice qa qs.length qc, .slice fa fs.length fc] 49)).alloc (.cells #[.int .i64 rid, .slice va vs.length vc] 51)) = W at *
  refine (HX.out W (slR_below tQuery_law H1.out d.out) (slR_below tSpanS_law H2.out d.out)).mono ?_
  rintro e w1 ⟨rfl, c1⟩
  replace B0 := Lib.hid ((c1.block w.heap.size (Array.getElem?_eq_some_iff.1 B0.out).1).trans B0.out)
  replace B1 := Lib.hid ((c1.block (w.heap.size + 1) (Array.getElem?_eq_some_iff.1 B1.out).1).trans B1.out)
  replace d := Lib.hid (d.out.trans (c1.mono d.out.size))
  clear c1
  go_wp2
  go_ret2
  exact ⟨.slice (some ⟨w1.heap.size, 0, none⟩) 0 0, by first | (rw [HE.out]; done) | (rw [HE.out]; rfl), by rw [HE.out]; exact ownsN_lit w1 _ d.out.size #[] 0 [] rfl rfl (by decide), d.out.alloc d.out.size _⟩
 | true =>
  cases hr : rowB (rid, vs) with
  | false =>
   have HE : Hid (probeB qs fs (rid, vs) os = ([], 0)) := Lib.hid (probeB_no (by rw [hx, hr]; rfl))
   rw [hx] at HX
   rw [hr] at HR
   clear hx hr
   go_enter Tryd.func36, Tryd.ntmps36
   go_wp2_with fail
   generalize ((w.alloc (.cells #[.slice qa qs.length qc, .slice fa fs.length fc] 49)).alloc (.cells #[.int .i64 rid, .slice va vs.length vc] 51)) = W at *
   refine (HX.out W (slR_below tQuery_law H1.out d.out) (slR_below tSpanS_law H2.out d.out)).mono ?_
   rintro e w1 ⟨rfl, c1⟩
   replace B0 := Lib.hid ((c1.block w.heap.size (Array.getElem?_eq_some_iff.1 B0.out).1).trans B0.out)
   replace B1 := Lib.hid ((c1.block (w.heap.size + 1) (Array.getElem?_eq_some_iff.1 B1.out).1).trans B1.out)
   replace d := Lib.hid (d.out.trans (c1.mono d.out.size))
   clear c1
   have r0 := (cell_of_row w1 _ 0 _ _ _ B1.out).trans (show _ = some (Value.int .i64 rid) from rfl)
   have r1 := (cell_of_row w1 _ 1 _ _ _ B1.out).trans (show _ = some (Value.slice va vs.length vc) from rfl)
   go_wp2_with fail
   clear r0 r1
   refine (HR.out w1 (ints_below H3.out d.out)).mono ?_
   rintro e w2 ⟨rfl, c2⟩
   replace B0 := Lib.hid ((c2.block w.heap.size (Array.getElem?_eq_some_iff.1 B0.out).1).trans B0.out)
   replace B1 := Lib.hid ((c2.block (w.heap.size + 1) (Array.getElem?_eq_some_iff.1 B1.out).1).trans B1.out)
   replace d := Lib.hid (d.out.trans (c2.mono d.out.size))
   clear c2
   go_wp2
   go_ret2
   exact ⟨.slice (some ⟨w2.heap.size, 0, none⟩) 0 0, by first | (rw [HE.out]; done) | (rw [HE.out]; rfl), by rw [HE.out]; exact ownsN_lit w2 _ d.out.size #[] 0 [] rfl rfl (by decide), d.out.alloc d.out.size _⟩
  | true =>
   cases ho : orderB os with
   | false =>
    have HE : Hid (probeB qs fs (rid, vs) os = ([], 0)) := Lib.hid (probeB_no (by rw [hx, hr, ho]; rfl))
    rw [hx] at HX
    rw [hr] at HR
    rw [ho] at HO
    clear hx hr ho
    go_enter Tryd.func36, Tryd.ntmps36
    go_wp2_with fail
    generalize ((w.alloc (.cells #[.slice qa qs.length qc, .slice fa fs.length fc] 49)).alloc (.cells #[.int .i64 rid, .slice va vs.length vc] 51)) = W at *
    refine (HX.out W (slR_below tQuery_law H1.out d.out) (slR_below tSpanS_law H2.out d.out)).mono ?_
    rintro e w1 ⟨rfl, c1⟩
    replace B0 := Lib.hid ((c1.block w.heap.size (Array.getElem?_eq_some_iff.1 B0.out).1).trans B0.out)
    replace B1 := Lib.hid ((c1.block (w.heap.size + 1) (Array.getElem?_eq_some_iff.1 B1.out).1).trans B1.out)
    replace d := Lib.hid (d.out.trans (c1.mono d.out.size))
    clear c1
    have r0 := (cell_of_row w1 _ 0 _ _ _ B1.out).trans (show _ = some (Value.int .i64 rid) from rfl)
    have r1 := (cell_of_row w1 _ 1 _ _ _ B1.out).trans (show _ = some (Value.slice va vs.length vc) from rfl)
    go_wp2_with fail
    clear r0 r1
    refine (HR.out w1 (ints_below H3.out d.out)).mono ?_
    rintro e w2 ⟨rfl, c2⟩
    replace B0 := Lib.hid ((c2.block w.heap.size (Array.getElem?_eq_some_iff.1 B0.out).1).trans B0.out)
    replace B1 := Lib.hid ((c2.block (w.heap.size + 1) (Array.getElem?_eq_some_iff.1 B1.out).1).trans B1.out)
    replace d := Lib.hid (d.out.trans (c2.mono d.out.size))
    clear c2
    go_wp2_with fail
    refine (HO.out w2 (ints_below H4.out d.out)).mono ?_
    rintro e w3 ⟨rfl, c3⟩
    replace B0 := Lib.hid ((c3.block w.heap.size (Array.getElem?_eq_some_iff.1 B0.out).1).trans B0.out)
    replace B1 := Lib.hid ((c3.block (w.heap.size + 1) (Array.getElem?_eq_some_iff.1 B1.out).1).trans B1.out)
    replace d := Lib.hid (d.out.trans (c3.mono d.out.size))
    clear c3
    go_wp2
    go_ret2
    exact ⟨.slice (some ⟨w3.heap.size, 0, none⟩) 0 0, by first | (rw [HE.out]; done) | (rw [HE.out]; rfl), by rw [HE.out]; exact ownsN_lit w3 _ d.out.size #[] 0 [] rfl rfl (by decide), d.out.alloc d.out.size _⟩
   | true =>
    have HE : Hid (probeB qs fs (rid, vs) os = probeL fs vs os (allL qs) 0) := Lib.hid (probeB_yes (by rw [hx, hr, ho]; rfl))
    have HF3 := Lib.hid (idx_len hx)
    have HV3 : Hid (vs.length = 3) := Lib.hid (row_len hr)
    have HO3 := Lib.hid (order_iff ho)
    rw [hx] at HX
    rw [hr] at HR
    rw [ho] at HO
    clear hx hr ho
    go_enter Tryd.func36, Tryd.ntmps36
    go_wp2_with fail
    generalize ((w.alloc (.cells #[.slice qa qs.length qc, .slice fa fs.length fc] 49)).alloc (.cells #[.int .i64 rid, .slice va vs.length vc] 51)) = W at *
    refine (HX.out W (slR_below tQuery_law H1.out d.out) (slR_below tSpanS_law H2.out d.out)).mono ?_
    rintro e w1 ⟨rfl, c1⟩
    replace B0 := Lib.hid ((c1.block w.heap.size (Array.getElem?_eq_some_iff.1 B0.out).1).trans B0.out)
    replace B1 := Lib.hid ((c1.block (w.heap.size + 1) (Array.getElem?_eq_some_iff.1 B1.out).1).trans B1.out)
    replace d := Lib.hid (d.out.trans (c1.mono d.out.size))
    clear c1
    have r0 := (cell_of_row w1 _ 0 _ _ _ B1.out).trans (show _ = some (Value.int .i64 rid) from rfl)
    have r1 := (cell_of_row w1 _ 1 _ _ _ B1.out).trans (show _ = some (Value.slice va vs.length vc) from rfl)
    go_wp2_with fail
    clear r0 r1
    refine (HR.out w1 (ints_below H3.out d.out)).mono ?_
    rintro e w2 ⟨rfl, c2⟩
    replace B0 := Lib.hid ((c2.block w.heap.size (Array.getElem?_eq_some_iff.1 B0.out).1).trans B0.out)
    replace B1 := Lib.hid ((c2.block (w.heap.size + 1) (Array.getElem?_eq_some_iff.1 B1.out).1).trans B1.out)
    replace d := Lib.hid (d.out.trans (c2.mono d.out.size))
    clear c2
    go_wp2_with fail
    refine (HO.out w2 (ints_below H4.out d.out)).mono ?_
    rintro e w3 ⟨rfl, c3⟩
    replace B0 := Lib.hid ((c3.block w.heap.size (Array.getElem?_eq_some_iff.1 B0.out).1).trans B0.out)
    replace B1 := Lib.hid ((c3.block (w.heap.size + 1) (Array.getElem?_eq_some_iff.1 B1.out).1).trans B1.out)
    replace d := Lib.hid (d.out.trans (c3.mono d.out.size))
    clear c3
    have x0 := (cell_of_row w3 _ 0 _ _ _ B0.out).trans (show _ = some (Value.slice qa qs.length qc) from rfl)
    have x1 := (cell_of_row w3 _ 1 _ _ _ B0.out).trans (show _ = some (Value.slice fa fs.length fc) from rfl)
    have r0 := (cell_of_row w3 _ 0 _ _ _ B1.out).trans (show _ = some (Value.int .i64 rid) from rfl)
    have r1 := (cell_of_row w3 _ 1 _ _ _ B1.out).trans (show _ = some (Value.slice va vs.length vc) from rfl)
    go_wp2_with fail
    clear x0 x1 r0 r1
    refine (specL6Probe (.slice qa qs.length qc) (.slice fa fs.length fc) (.slice va vs.length vc) (.slice oa os.length oc) qs fs rid vs os w3 (slR_below tQuery_law H1.out d.out) (slR_below tSpanS_law H2.out d.out) (ints_below H3.out d.out) (ints_below H4.out d.out) HS.out HZ.out HF3.out HV3.out HO3.out.1 HO3.out.2).mono ?_
    rintro e w4 ⟨u, rfl, ou, c4⟩
    have ou2 := Lib.hid (ownsN_up ou d.out.size)
    have d4 := Lib.hid (d.out.trans (c4.mono d.out.size))
    clear ou c4
    go_wp2
    go_ret2
    exact ⟨u, by first | (rw [HE.out]; done) | (rw [HE.out]; rfl), by rw [HE.out]; exact ou2.out, d4.out⟩
theorem probe_bound (fs : List (List SpanD)) (vs : List Int) : ∀ (os set : List Int) (work : Int), work ≤ (probeL fs vs os set work).2 ∧ (probeL fs vs os set work).2 ≤ work + (os.length : Int) * (1 + (set.length : Int))
 | [], set, work => by simp [probeL]
 | f :: os, set, work => by
  unfold probeL
  split
  ·
   have : 0 ≤ ((f :: os).length : Int) * (1 + (set.length : Int)) := Int.mul_nonneg (by omega) (by omega)
   exact ⟨Int.le_refl _, by simp only; omega⟩
  ·
   next hne =>
   dsimp only
   obtain ⟨h1, h2⟩ := probe_bound fs vs os (meetL set (findL (fs.getD f.toNat []) (vs.getD f.toNat 0))) (work + 1 + ((min set.length (findL (fs.getD f.toNat []) (vs.getD f.toNat 0)).length : Nat) : Int))
   have h3 := meetL_len set (findL (fs.getD f.toNat []) (vs.getD f.toNat 0))
   have h4 : (os.length : Int) * (1 + ((meetL set (findL (fs.getD f.toNat []) (vs.getD f.toNat 0))).length : Int)) ≤ (os.length : Int) * (1 + (set.length : Int)) := Int.mul_le_mul_of_nonneg_left (by omega) (by omega)
   have h5 : (((f :: os).length : Nat) : Int) * (1 + (set.length : Int)) = (os.length : Int) * (1 + (set.length : Int)) + (1 + (set.length : Int)) := by
    rw [List.length_cons, Int.natCast_add, Int.natCast_one, Int.add_mul, Int.one_mul]
   refine ⟨by omega, ?_⟩
   have h6 : ((min set.length (findL (fs.getD f.toNat []) (vs.getD f.toNat 0)).length : Nat) : Int) ≤ (set.length : Int) := by omega
   omega
theorem workB_bound {qs : List QD} {fs : List (List SpanD)} {os : List Int} {r : RowD} (ho : os.length = 3) (hq : qs.length ≤ 1048576) : 0 ≤ workB qs fs os r ∧ workB qs fs os r ≤ 4194304 := by
 unfold workB
 split
 ·
  obtain ⟨h1, h2⟩ := probe_bound fs r.2 os (allL qs) 0
  have h3 : (allL qs).length = qs.length := by simp [allL]
  rw [ho, h3] at h2
  exact ⟨h1, by omega⟩
 ·
  omega
def sumW (qs : List QD) (fs : List (List SpanD)) (os : List Int) (rs : List RowD) (k : Nat) : Int := ((rs.take k).map (workB qs fs os)).sum
theorem sumW_step {qs : List QD} {fs : List (List SpanD)} {os : List Int} {rs : List RowD} {k : Nat} (hk : k < rs.length) : sumW qs fs os rs (k + 1) = sumW qs fs os rs k + workB qs fs os (rs.getD k (0, [])) := by
 unfold sumW
 have e : rs.getD k (0, []) = rs[k] := by simp [List.getD, hk]
 rw [e, List.take_succ_eq_append_getElem hk, List.map_append, List.sum_append]
 simp
theorem workL_no {qs : List QD} {fs : List (List SpanD)} {os : List Int} {rs : List RowD} (h : (isIndexB qs fs && orderB os) = false) : workL qs fs rs os = 0 := by unfold workL; rw [h]; rfl
theorem workL_yes {qs : List QD} {fs : List (List SpanD)} {os : List Int} {rs : List RowD} (h : (isIndexB qs fs && orderB os) = true) : workL qs fs rs os = sumW qs fs os rs rs.length := by unfold workL sumW; rw [h, List.take_length]; rfl
theorem workB_no {qs : List QD} {fs : List (List SpanD)} {os : List Int} {r : RowD} (h : rowB r = false) : workB qs fs os r = 0 := by unfold workB; rw [h]; rfl
theorem workB_yes {qs : List QD} {fs : List (List SpanD)} {os : List Int} {r : RowD} (h : rowB r = true) : workB qs fs os r = (probeL fs r.2 os (allL qs) 0).2 := by unfold workB; rw [h]; rfl
theorem retI {a b : Int} (h : a = b) : Ending.returned (.int .i64 a) = .returned (.int .i64 b) := by rw [h]
set_option maxHeartbeats 16000000 in
set_option maxRecDepth 100000 in
theorem specWorkOf (qv fv rv ov : Value) (qs : List QD) (fs : List (List SpanD)) (rs : List RowD) (os : List Int) (w : World) (h1 : SlR tQuery w qv qs) (h2 : SlR tSpanS w fv fs) (h3 : SlR tRow w rv rs) (h4 : Ints w ov os) (hs : zL tQuery qs ≤ 1048576) (hz : zL tSpanS fs ≤ 1048576) (hr : zL tRow rs ≤ 1048576) (ho : os.length ≤ 1048576) :
  Calls Tryd.prog 48 #[.agg #[qv, fv], rv, ov] w fun e w' => e = .returned (.int .i64 (workL qs fs rs os)) ∧ Below w.heap.size w w' := by
 have hlen := zL_len hs
 have hrl := zL_len hr
 have HS := Lib.hid hs; have HZ := Lib.hid hz; have HZR := Lib.hid hr
 obtain ⟨qa, qc, rfl⟩ := slR_len h1
 obtain ⟨fa, fc, rfl⟩ := slR_len h2
 obtain ⟨ra, rc, rfl⟩ := slR_len h3
 obtain ⟨oa, oc, rfl⟩ := ints_len h4
 have d0 := Lib.hid ((Below.refl w.heap.size w).alloc (Nat.le_refl _) (.cells #[.slice qa qs.length qc, .slice fa fs.length fc] 49))
 have B00 : Hid ((w.alloc (.cells #[.slice qa qs.length qc, .slice fa fs.length fc] 49)).heap[w.heap.size]? = some (.cells #[.slice qa qs.length qc, .slice fa fs.length fc] 49 (0, 0))) := Lib.hid (heap_alloc_new w _)
 have H1 := Lib.hid h1; have H2 := Lib.hid h2; have H3 := Lib.hid h3; have H4 := Lib.hid h4
 have HX := Lib.hid (fun w g1 g2 => specIsIndex (.slice qa qs.length qc) (.slice fa fs.length fc) qs fs w g1 g2 HS.out HZ.out)
 have HO := Lib.hid (fun w g => specL6Order (.slice oa os.length oc) os w g ho)
 clear h1 h2 h3 h4 hs hz hr ho
 cases hx : isIndexB qs fs with
 | false =>
  have HE := Lib.hid (workL_no (rs := rs) (os := os) (show (isIndexB qs fs && orderB os) = false by rw [hx]; rfl))
  rw [hx] at HX
  clear hx HO
  go_enter Tryd.func48, Tryd.ntmps48
  go_wp2
  generalize w.alloc (.cells #[.slice qa qs.length qc, .slice fa fs.length fc] 49) = W at *
  go_loopw [7, 8] (fun n i wr => wr = W ∧ i = .int .i64 0 ∧ n = .int .i64 0) (fun _ _ _ => 0)
  case atStart => exact ⟨rfl, rfl, rfl⟩
  case round =>
   obtain ⟨rfl, rfl, rfl⟩ := hrel
   by_cases hlt : 0 < rs.length
   ·
    have i2 : (0 : Int) < (rs.length : Int) := by omega
    have x0 := (cell_of_row wr _ 0 _ _ _ B00.out).trans (show _ = some (Value.slice qa qs.length qc) from rfl)
    have x1 := (cell_of_row wr _ 1 _ _ _ B00.out).trans (show _ = some (Value.slice fa fs.length fc) from rfl)
    go_wp2_with fail
    clear x0 x1
    refine (HX.out wr (slR_below tQuery_law H1.out d0.out) (slR_below tSpanS_law H2.out d0.out)).mono ?_
    rintro e w1 ⟨rfl, c1⟩
    have D1 := Lib.hid (d0.out.trans (c1.mono d0.out.size))
    clear c1
    go_wp2
    go_ret
    exact ⟨retI HE.out.symm, D1.out⟩
   ·
    have i2 : ¬ (0 : Int) < (rs.length : Int) := by omega
    go_wp2
    go_ret
    exact ⟨retI HE.out.symm, d0.out⟩
 | true =>
  cases hor : orderB os with
  | false =>
   have HE := Lib.hid (workL_no (rs := rs) (show (isIndexB qs fs && orderB os) = false by rw [hx, hor]; rfl))
   rw [hx] at HX
   rw [hor] at HO
   clear hx hor
   go_enter Tryd.func48, Tryd.ntmps48
   go_wp2
   generalize w.alloc (.cells #[.slice qa qs.length qc, .slice fa fs.length fc] 49) = W at *
   go_loopw [7, 8] (fun n i wr => wr = W ∧ i = .int .i64 0 ∧ n = .int .i64 0) (fun _ _ _ => 0)
   case atStart => exact ⟨rfl, rfl, rfl⟩
   case round =>
    obtain ⟨rfl, rfl, rfl⟩ := hrel
    by_cases hlt : 0 < rs.length
    ·
     have i2 : (0 : Int) < (rs.length : Int) := by omega
     have x0 := (cell_of_row wr _ 0 _ _ _ B00.out).trans (show _ = some (Value.slice qa qs.length qc) from rfl)
     have x1 := (cell_of_row wr _ 1 _ _ _ B00.out).trans (show _ = some (Value.slice fa fs.length fc) from rfl)
     go_wp2_with fail
     clear x0 x1
     refine (HX.out wr (slR_below tQuery_law H1.out d0.out) (slR_below tSpanS_law H2.out d0.out)).mono ?_
     rintro e w1 ⟨rfl, c1⟩
     have D1 := Lib.hid (d0.out.trans (c1.mono d0.out.size))
     clear c1
     go_wp2_with fail
     refine (HO.out w1 (ints_below H4.out D1.out)).mono ?_
     rintro e w2 ⟨rfl, c2⟩
     have D2 := Lib.hid (D1.out.trans (c2.mono D1.out.size))
     clear c2
     go_wp2
     go_ret
     exact ⟨retI HE.out.symm, D2.out⟩
    ·
     have i2 : ¬ (0 : Int) < (rs.length : Int) := by omega
     go_wp2
     go_ret
     exact ⟨retI HE.out.symm, d0.out⟩
  | true =>
   have HE := Lib.hid (workL_yes (rs := rs) (show (isIndexB qs fs && orderB os) = true by rw [hx, hor]; rfl))
   have HF3 := Lib.hid (idx_len hx)
   have HO3 := Lib.hid (order_iff hor)
   rw [hx] at HX
   rw [hor] at HO
   clear hx hor
   go_enter Tryd.func48, Tryd.ntmps48
   go_wp2
   generalize w.alloc (.cells #[.slice qa qs.length qc, .slice fa fs.length fc] 49) = W at *
   go_loopw [7, 8] (fun n i wr => ∃ (k : Nat), k ≤ rs.length ∧ i = .int .i64 k ∧ n = .int .i64 (sumW qs fs os rs k) ∧ 0 ≤ sumW qs fs os rs k ∧ sumW qs fs os rs k ≤ 4194304 * (k : Int) ∧ wr.heap[w.heap.size]? = some (.cells #[.slice qa qs.length qc, .slice fa fs.length fc] 49 (0, 0)) ∧ Below w.heap.size w wr) (fun _ i _ => rs.length - (intOf i).toNat)
   case atStart => exact ⟨0, Nat.zero_le _, rfl, by simp [sumW], by simp [sumW], by simp [sumW], B00.out, d0.out⟩
   case round =>
    obtain ⟨k, hk, rfl, rfl, hw0, hw1, hr0, hbel⟩ := hrel
    by_cases hlt : k < rs.length
    ·
     have i1 : (0 : Int) ≤ (k : Int) := by omega
     have i2 : (k : Int) < (rs.length : Int) := by omega
     have hst := sumW_step (qs := qs) (fs := fs) (os := os) hlt
     have hwb := workB_bound (fs := fs) (r := rs.getD k (0, [])) HO3.out.1 hlen
     obtain ⟨m', hm'⟩ : ∃ m', sumW qs fs os rs (k + 1) = m' := ⟨_, rfl⟩
     rw [hm'] at hst
     have HM1 := Lib.hid hm'
     have HST := Lib.hid hst
     clear hm'
     obtain ⟨b, off, cap', cs, hv, hbl, hcs, hR⟩ := slR_at H3.out hlt
     simp only [Value.slice.injEq] at hv
     obtain ⟨rfl, _, rfl⟩ := hv
     have hzx := zL_at HZR.out hlt
     have HNO := Lib.hid (fun h => workB_no (qs := qs) (fs := fs) (os := os) (r := rs.getD k (0, [])) h)
     have HYES := Lib.hid (fun h => workB_yes (qs := qs) (fs := fs) (os := os) (r := rs.getD k (0, [])) h)
     change tRow.R w cs (rs.getD k (0, [])) at hR
     change tRow.sz (rs.getD k (0, [])) ≤ 1048576 at hzx
     generalize sumW qs fs os rs k = m at *
     generalize workB qs fs os (rs.getD k (0, [])) = wk at *
     generalize rs.getD k (0, []) = r at *
     obtain ⟨rid, vs⟩ := r
     obtain ⟨vv, hR'⟩ := tRow_R hR
     obtain ⟨rfl, hV⟩ := hR'
     rw [tRow_sz, zL_ints] at hzx
     have RC0 : Hid (w.cell? ⟨b, off + k * 2, none⟩ = some (.int .i64 rid)) := Lib.hid (hcs 0 (by decide))
     obtain ⟨va, vc, rfl⟩ := slR_len hV
     have RC1 : Hid (w.cell? ⟨b, off + k * 2 + 1, none⟩ = some (.slice va vs.length vc)) := Lib.hid (hcs 1 (by decide))
     have HV := Lib.hid (slR_ints hV)
     have HBL := Lib.hid hbl
     have B0 := Lib.hid hr0
     have d := Lib.hid hbel
     have HR := Lib.hid (fun w g => specIsRow rid (.slice va vs.length vc) vs w g hzx)
     clear hcs hR hV hbl hr0 hbel hst
     have p_B0_0 := (cell_of_row wr _ 0 _ _ _ B0.out).trans (show _ = some (Value.slice qa qs.length qc) from rfl)
     have p_B0_1 := (cell_of_row wr _ 1 _ _ _ B0.out).trans (show _ = some (Value.slice fa fs.length fc) from rfl)
     go_wp2_with fail
     clear p_B0_0 p_B0_1
     refine (HX.out wr (slR_below tQuery_law H1.out d.out) (slR_below tSpanS_law H2.out d.out)).mono ?_
     rintro e w1 ⟨rfl, c1⟩
     replace B0 := Lib.hid ((c1.block w.heap.size (Array.getElem?_eq_some_iff.1 B0.out).1).trans B0.out)
     replace d := Lib.hid (d.out.trans (c1.mono d.out.size))
     have Z_w1 := Lib.hid (show wr.heap.size ≤ w1.heap.size from c1.size)
     clear c1
     go_wp2_with fail
     refine (HO.out w1 (ints_below H4.out d.out)).mono ?_
     rintro e w2 ⟨rfl, c2⟩
     replace B0 := Lib.hid ((c2.block w.heap.size (Array.getElem?_eq_some_iff.1 B0.out).1).trans B0.out)
     replace d := Lib.hid (d.out.trans (c2.mono d.out.size))
     have Z_w2 := Lib.hid (show w1.heap.size ≤ w2.heap.size from c2.size)
     clear c2
     cases hrb : rowB (rid, vs) with
     | false =>
      have HW := Lib.hid (HNO.out hrb)
      rw [hrb] at HR
      clear hrb HNO HYES
      have p_r0 := (d.out.cell (p := ⟨b, off + k * 2, none⟩) HBL.out).trans RC0.out
      have p_r1 := (d.out.cell (p := ⟨b, off + k * 2 + 1, none⟩) HBL.out).trans RC1.out
      go_wp2_with fail
      clear p_r0 p_r1
      refine (HR.out w2 (ints_below HV.out d.out)).mono ?_
      rintro e w3 ⟨rfl, c3⟩
      replace B0 := Lib.hid ((c3.block w.heap.size (Array.getElem?_eq_some_iff.1 B0.out).1).trans B0.out)
      replace d := Lib.hid (d.out.trans (c3.mono d.out.size))
      have Z_w3 := Lib.hid (show w2.heap.size ≤ w3.heap.size from c3.size)
      clear c3
      have hm : m = m' := by have := HST.out; have := HW.out; omega
      have HM := Lib.hid hm
      clear hm
      go_wp2
      go_roundw
      case rel => exact ⟨k + 1, by omega, by go_num, by rw [HM1.out, HM.out], by rw [HM1.out]; have := HM.out; omega, by rw [HM1.out]; have := HM.out; omega, B0.out, d.out⟩
      case measure => simp [intOf]; omega
     | true =>
      have HW := Lib.hid (HYES.out hrb)
      have HV3 : Hid (vs.length = 3) := Lib.hid (row_len hrb)
      rw [hrb] at HR
      clear hrb HNO HYES
      have p_r0 := (d.out.cell (p := ⟨b, off + k * 2, none⟩) HBL.out).trans RC0.out
      have p_r1 := (d.out.cell (p := ⟨b, off + k * 2 + 1, none⟩) HBL.out).trans RC1.out
      go_wp2_with fail
      clear p_r0 p_r1
      refine (HR.out w2 (ints_below HV.out d.out)).mono ?_
      rintro e w3 ⟨rfl, c3⟩
      replace B0 := Lib.hid ((c3.block w.heap.size (Array.getElem?_eq_some_iff.1 B0.out).1).trans B0.out)
      replace d := Lib.hid (d.out.trans (c3.mono d.out.size))
      have Z_w3 := Lib.hid (show w2.heap.size ≤ w3.heap.size from c3.size)
      clear c3
      go_wp2
      have p_B0_0 := (cell_of_row w3 _ 0 _ _ _ B0.out).trans (show _ = some (Value.slice qa qs.length qc) from rfl)
      have p_B0_1 := (cell_of_row w3 _ 1 _ _ _ B0.out).trans (show _ = some (Value.slice fa fs.length fc) from rfl)
      have p_r0 := (d.out.cell (p := ⟨b, off + k * 2, none⟩) HBL.out).trans RC0.out
      have p_r1 := (d.out.cell (p := ⟨b, off + k * 2 + 1, none⟩) HBL.out).trans RC1.out
      refine wp_region_held_drew (S := fun w' => w'.cell? ⟨w.heap.size, 0, none⟩ = some (Value.slice qa qs.length qc) ∧ w'.cell? ⟨w.heap.size, 1, none⟩ = some (Value.slice fa fs.length fc) ∧ w'.cell? ⟨b, off + k * 2, none⟩ = some (Value.int .i64 rid) ∧ w'.cell? ⟨b, off + k * 2 + 1, none⟩ = some (Value.slice va vs.length vc)) (by kernel_rfl) ⟨p_B0_0, p_B0_1, p_r0, p_r1⟩ (fun hHeld => ?_)
      clear p_B0_0 p_B0_1 p_r0 p_r1
      have cdr : Below w3.heap.size w3 w3.drew := below_drew (Below.refl _ _)
      replace B0 := Lib.hid ((cdr.block w.heap.size (Array.getElem?_eq_some_iff.1 B0.out).1).trans B0.out)
      replace d := Lib.hid (d.out.trans (cdr.mono d.out.size))
      clear cdr
      refine tR (i := 0) (v := ?_) ?_ ?_; rotate_left
      ·
       intro w hSw; (try dsimp only at hSw); go_simp; try (with_reducible rfl)
      try simp only [Act.put, lA, lB, lC]
      refine tR (i := 1) (v := ?_) ?_ ?_; rotate_left
      ·
       intro w hSw; (try dsimp only at hSw); go_simp; try (with_reducible rfl)
      try simp only [Act.put, lA, lB, lC]
      refine tR (i := 2) (v := ?_) ?_ ?_; rotate_left
      ·
       intro w hSw; (try dsimp only at hSw); go_simp; try (with_reducible rfl)
      try simp only [Act.put, lA, lB, lC]
      refine tR (i := 3) (v := ?_) ?_ ?_; rotate_left
      ·
       intro w hSw; (try dsimp only at hSw); go_simp; try (with_reducible rfl)
      try simp only [Act.put, lA, lB, lC]
      refine tR (i := 4) (v := ?_) ?_ ?_; rotate_left
      ·
       intro w hSw; (try dsimp only at hSw); go_simp; try (with_reducible rfl)
      try simp only [Act.put, lA, lB, lC]
      refine tR (i := 5) (v := ?_) ?_ ?_; rotate_left
      ·
       intro w hSw; (try dsimp only at hSw); go_simp; try (with_reducible rfl)
      try simp only [Act.put, lA, lB, lC]
      refine wpAnyH_ready (rs := [6]) (by kernel_rfl) (by simp) ?_
      refine (AllReadyH.cons (o := _) (by simp only [hA, hB, hC]; rfl) (fun K hK => ?_) AllReadyH.nil)
      go_simp
      refine (specL6Probe (.slice qa qs.length qc) (.slice fa fs.length fc) (.slice va vs.length vc) (.slice oa os.length oc) qs fs rid vs os (w3.drew) (slR_below tQuery_law H1.out d.out) (slR_below tSpanS_law H2.out d.out) (ints_below HV.out d.out) (ints_below H4.out d.out) HS.out HZ.out HF3.out HV3.out HO3.out.1 HO3.out.2).mono ?_
      rintro e w5 ⟨pu, rfl, ou, c5⟩
      replace B0 := Lib.hid ((c5.block w.heap.size (Array.getElem?_eq_some_iff.1 B0.out).1).trans B0.out)
      replace d := Lib.hid (d.out.trans (c5.mono d.out.size))
      have Z_w5 := Lib.hid (show w3.heap.size ≤ w5.heap.size from c5.size)
      clear ou c5
      have p_B0_0 := (cell_of_row w5 _ 0 _ _ _ B0.out).trans (show _ = some (Value.slice qa qs.length qc) from rfl)
      have p_B0_1 := (cell_of_row w5 _ 1 _ _ _ B0.out).trans (show _ = some (Value.slice fa fs.length fc) from rfl)
      have p_r0 := (d.out.cell (p := ⟨b, off + k * 2, none⟩) HBL.out).trans RC0.out
      have p_r1 := (d.out.cell (p := ⟨b, off + k * 2 + 1, none⟩) HBL.out).trans RC1.out
      refine hK.out _ _ ⟨p_B0_0, p_B0_1, p_r0, p_r1⟩ (fun hHeld => ?_)
      clear p_B0_0 p_B0_1 p_r0 p_r1
      clear hK K
      try simp only [Act.put, lA, lB, lC]
      refine tR (i := 7) (v := ?_) ?_ ?_; rotate_left
      ·
       intro w hSw; (try dsimp only at hSw); go_simp; try (with_reducible rfl)
      try simp only [Act.put, lA, lB, lC]
      refine tR (i := 8) (v := ?_) ?_ ?_; rotate_left
      ·
       intro w hSw; (try dsimp only at hSw); go_simp; try (with_reducible rfl)
      try simp only [Act.put, lA, lB, lC]
      refine tR (i := 9) (v := ?_) ?_ ?_; rotate_left
      ·
       intro w hSw; (try dsimp only at hSw); go_simp; try (with_reducible rfl)
      try simp only [Act.put, lA, lB, lC]
      refine tR (i := 10) (v := ?_) ?_ ?_; rotate_left
      ·
       intro w hSw; (try dsimp only at hSw); go_simp; try (with_reducible rfl)
      try simp only [Act.put, lA, lB, lC]
      refine tR (i := 11) (v := ?_) ?_ ?_; rotate_left
      ·
       intro w hSw; (try dsimp only at hSw); go_simp; try (with_reducible rfl)
      try simp only [Act.put, lA, lB, lC]
      refine wpAnyH_done (by kernel_rfl) ?_ _
      clear hHeld
      generalize (probeL fs vs os (allL qs) 0).2 = pw at *
      have hm : m + pw = m' := by have := HST.out; have h9 : wk = pw := HW.out; omega
      have HM := Lib.hid hm
      have hm3 : pw ≤ 4194304 := by have h9 : wk = pw := HW.out; omega
      have hm1 : m + pw ≤ 9223372036854775807 := by omega
      have hm2 : 0 ≤ pw := by have h9 : wk = pw := HW.out; omega
      clear hm
      go_wp2
      go_roundw
      case rel => exact ⟨k + 1, by omega, by go_num, by rw [HM1.out, HM.out], by rw [HM1.out]; have := HM.out; omega, by rw [HM1.out]; have := HM.out; omega, B0.out, d.out⟩
      case measure => simp [intOf]; omega
    ·
     obtain rfl : k = rs.length := by omega
     go_wp2
     go_ret
     exact ⟨retI HE.out.symm, hbel⟩
/-- Six lists of three numbers each, in blocks one behind the other, and the slice that holds them. -/
theorem orders_own (W0 W : World) (B : Nat) (hr : W.heap[B + 1 + 1 + 1 + 1 + 1 + 1]? = some (.cells #[.slice (some ⟨B, 0, none⟩) 3 3, .slice (some ⟨B + 1, 0, none⟩) 3 3, .slice (some ⟨B + 1 + 1, 0, none⟩) 3 3, .slice (some ⟨B + 1 + 1 + 1, 0, none⟩) 3 3, .slice (some ⟨B + 1 + 1 + 1 + 1, 0, none⟩) 3 3, .slice (some ⟨B + 1 + 1 + 1 + 1 + 1, 0, none⟩) 3 3] 24 (0, 0)))
  (h0 : W.heap[B]? = some (.cells #[.int .i64 0, .int .i64 1, .int .i64 2] 3 (0, 0)))
  (h1 : W.heap[B + 1]? = some (.cells #[.int .i64 0, .int .i64 2, .int .i64 1] 3 (0, 0)))
  (h2 : W.heap[B + 1 + 1]? = some (.cells #[.int .i64 1, .int .i64 0, .int .i64 2] 3 (0, 0)))
  (h3 : W.heap[B + 1 + 1 + 1]? = some (.cells #[.int .i64 1, .int .i64 2, .int .i64 0] 3 (0, 0)))
  (h4 : W.heap[B + 1 + 1 + 1 + 1]? = some (.cells #[.int .i64 2, .int .i64 0, .int .i64 1] 3 (0, 0)))
  (h5 : W.heap[B + 1 + 1 + 1 + 1 + 1]? = some (.cells #[.int .i64 2, .int .i64 1, .int .i64 0] 3 (0, 0)))
  (hB : W0.heap.size ≤ B) : SlO 24 tIntS W (since W0) (.slice (some ⟨B + 1 + 1 + 1 + 1 + 1 + 1, 0, none⟩) 6 6) ordersL := by
 refine ⟨[.slice (some ⟨B, 0, none⟩) 3 3, .slice (some ⟨B + 1, 0, none⟩) 3 3, .slice (some ⟨B + 1 + 1, 0, none⟩) 3 3, .slice (some ⟨B + 1 + 1 + 1, 0, none⟩) 3 3, .slice (some ⟨B + 1 + 1 + 1 + 1, 0, none⟩) 3 3, .slice (some ⟨B + 1 + 1 + 1 + 1 + 1, 0, none⟩) 3 3], fun j => [.slice (some ⟨B + j, 0, none⟩) 3 3], fun j b => b = B + j, ⟨rfl, Or.inr ⟨_, 6, _, rfl, Nat.zero_le _, hr, Nat.le_refl _, by unfold maxLen; omega, rfl, rfl⟩⟩, fun b hb => ?_, fun j hj => ?_, fun i j _ _ hij b hb hc => by omega⟩
 ·
  simp [Value.ownBlock] at hb; show W0.heap.size ≤ b; omega
 ·
  have hj6 : j < 6 := hj
  have hO : ∀ (k : Nat) (l : List Int) (c : Array Value), c = ⟨l.map (Value.int .i64)⟩ → l.length = 3 → W.heap[k]? = some (.cells c 3 (0, 0)) → OwnsN W k (.slice (some ⟨k, 0, none⟩) 3 3) l := by
   intro k l c hc hl h
   subst hc
   refine ⟨?_, Or.inr ⟨k, 3, _, ?_, Nat.le_refl _, h, ?_, by unfold maxLen; omega, ?_, ?_⟩⟩ <;> first | rfl | (simp [hl]; done) | (simp [hl]; exact List.take_of_length_le (by simp [hl]))
  refine ⟨fun i hi => ?_, ⟨_, rfl, own_slO (B := B + j) ?_ (fun b hb => by simp [Value.ownBlock] at hb; exact hb.symm)⟩, fun b hb => ⟨by show W0.heap.size ≤ b; omega, by simp [Value.ownBlock]; omega⟩⟩
  ·
   have hi0 : i < 1 := hi
   obtain rfl : i = 0 := by omega
   have e : j * tIntS.n + 0 = j := by show j * 1 + 0 = _; omega
   rw [e]
   match j, hj6 with
   | 0, _ => rfl
   | 1, _ => rfl
   | 2, _ => rfl
   | 3, _ => rfl
   | 4, _ => rfl
   | 5, _ => rfl
  ·
   match j, hj6 with
   | 0, _ => exact hO _ (ordersL.getD 0 []) _ (by rfl) (by rfl) h0
   | 1, _ => exact hO _ (ordersL.getD 1 []) _ (by rfl) (by rfl) h1
   | 2, _ => exact hO _ (ordersL.getD 2 []) _ (by rfl) (by rfl) h2
   | 3, _ => exact hO _ (ordersL.getD 3 []) _ (by rfl) (by rfl) h3
   | 4, _ => exact hO _ (ordersL.getD 4 []) _ (by rfl) (by rfl) h4
   | 5, _ => exact hO _ (ordersL.getD 5 []) _ (by rfl) (by rfl) h5
set_option maxHeartbeats 4000000 in
set_option maxRecDepth 100000 in
theorem specL6Orders (w : World) : Calls Tryd.prog 93 #[] w fun e w' => ∃ v, e = .returned v ∧ SlO 24 tIntS w' (since w) v ordersL ∧ Below w.heap.size w w' := by
 go_enter Tryd.func93, Tryd.ntmps93
 go_wp2
 go_ret
 refine ⟨_, rfl, ?_, ?_⟩
 ·
  refine orders_own w (((((((w.alloc (.cells #[.int .i64 0, .int .i64 1, .int .i64 2] 3)).alloc (.cells #[.int .i64 0, .int .i64 2, .int .i64 1] 3)).alloc (.cells #[.int .i64 1, .int .i64 0, .int .i64 2] 3)).alloc (.cells #[.int .i64 1, .int .i64 2, .int .i64 0] 3)).alloc (.cells #[.int .i64 2, .int .i64 0, .int .i64 1] 3)).alloc (.cells #[.int .i64 2, .int .i64 1, .int .i64 0] 3)).alloc (.cells #[.slice (some ⟨w.heap.size, 0, none⟩) 3 3, .slice (some ⟨w.heap.size + 1, 0, none⟩) 3 3, .slice (some ⟨w.heap.size + 1 + 1, 0, none⟩) 3 3, .slice (some ⟨w.heap.size + 1 + 1 + 1, 0, none⟩) 3 3, .slice (some ⟨w.heap.size + 1 + 1 + 1 + 1, 0, none⟩) 3 3, .slice (some ⟨w.heap.size + 1 + 1 + 1 + 1 + 1, 0, none⟩) 3 3] 24)) w.heap.size ?_ ?_ ?_ ?_ ?_ ?_ ?_ (Nat.le_refl _)
  ·
   have hs : ((((((w.alloc (.cells #[.int .i64 0, .int .i64 1, .int .i64 2] 3)).alloc (.cells #[.int .i64 0, .int .i64 2, .int .i64 1] 3)).alloc (.cells #[.int .i64 1, .int .i64 0, .int .i64 2] 3)).alloc (.cells #[.int .i64 1, .int .i64 2, .int .i64 0] 3)).alloc (.cells #[.int .i64 2, .int .i64 0, .int .i64 1] 3)).alloc (.cells #[.int .i64 2, .int .i64 1, .int .i64 0] 3)).heap.size = w.heap.size + 1 + 1 + 1 + 1 + 1 + 1 := by simp
   rw [← hs]; exact heap_alloc_new _ _
  ·
   rw [Below.heap_alloc _ _ _ (by simp <;> omega)]
   rw [Below.heap_alloc _ _ _ (by simp <;> omega)]
   rw [Below.heap_alloc _ _ _ (by simp <;> omega)]
   rw [Below.heap_alloc _ _ _ (by simp <;> omega)]
   rw [Below.heap_alloc _ _ _ (by simp <;> omega)]
   rw [Below.heap_alloc _ _ _ (by simp <;> omega)]
   exact heap_alloc_new w _
  ·
   have e : ((w.alloc (.cells #[.int .i64 0, .int .i64 1, .int .i64 2] 3))).heap.size = w.heap.size + 1 := by simp
   have g := heap_alloc_new (w.alloc (.cells #[.int .i64 0, .int .i64 1, .int .i64 2] 3)) (.cells #[.int .i64 0, .int .i64 2, .int .i64 1] 3)
   rw [e] at g
   rw [Below.heap_alloc _ _ _ (by simp <;> omega)]
   rw [Below.heap_alloc _ _ _ (by simp <;> omega)]
   rw [Below.heap_alloc _ _ _ (by simp <;> omega)]
   rw [Below.heap_alloc _ _ _ (by simp <;> omega)]
   rw [Below.heap_alloc _ _ _ (by simp <;> omega)]
   exact g
  ·
   have e : (((w.alloc (.cells #[.int .i64 0, .int .i64 1, .int .i64 2] 3)).alloc (.cells #[.int .i64 0, .int .i64 2, .int .i64 1] 3))).heap.size = w.heap.size + 1 + 1 := by simp
   have g := heap_alloc_new ((w.alloc (.cells #[.int .i64 0, .int .i64 1, .int .i64 2] 3)).alloc (.cells #[.int .i64 0, .int .i64 2, .int .i64 1] 3)) (.cells #[.int .i64 1, .int .i64 0, .int .i64 2] 3)
   rw [e] at g
   rw [Below.heap_alloc _ _ _ (by simp <;> omega)]
   rw [Below.heap_alloc _ _ _ (by simp <;> omega)]
   rw [Below.heap_alloc _ _ _ (by simp <;> omega)]
   rw [Below.heap_alloc _ _ _ (by simp <;> omega)]
   exact g
  ·
   have e : ((((w.alloc (.cells #[.int .i64 0, .int .i64 1, .int .i64 2] 3)).alloc (.cells #[.int .i64 0, .int .i64 2, .int .i64 1] 3)).alloc (.cells #[.int .i64 1, .int .i64 0, .int .i64 2] 3))).heap.size = w.heap.size + 1 + 1 + 1 := by simp
   have g := heap_alloc_new (((w.alloc (.cells #[.int .i64 0, .int .i64 1, .int .i64 2] 3)).alloc (.cells #[.int .i64 0, .int .i64 2, .int .i64 1] 3)).alloc (.cells #[.int .i64 1, .int .i64 0, .int .i64 2] 3)) (.cells #[.int .i64 1, .int .i64 2, .int .i64 0] 3)
   rw [e] at g
   rw [Below.heap_alloc _ _ _ (by simp <;> omega)]
   rw [Below.heap_alloc _ _ _ (by simp <;> omega)]
   rw [Below.heap_alloc _ _ _ (by simp <;> omega)]
   exact g
  ·
   have e : (((((w.alloc (.cells #[.int .i64 0, .int .i64 1, .int .i64 2] 3)).alloc (.cells #[.int .i64 0, .int .i64 2, .int .i64 1] 3)).alloc (.cells #[.int .i64 1, .int .i64 0, .int .i64 2] 3)).alloc (.cells #[.int .i64 1, .int .i64 2, .int .i64 0] 3))).heap.size = w.heap.size + 1 + 1 + 1 + 1 := by simp
   have g := heap_alloc_new ((((w.alloc (.cells #[.int .i64 0, .int .i64 1, .int .i64 2] 3)).alloc (.cells #[.int .i64 0, .int .i64 2, .int .i64 1] 3)).alloc (.cells #[.int .i64 1, .int .i64 0, .int .i64 2] 3)).alloc (.cells #[.int .i64 1, .int .i64 2, .int .i64 0] 3)) (.cells #[.int .i64 2, .int .i64 0, .int .i64 1] 3)
   rw [e] at g
   rw [Below.heap_alloc _ _ _ (by simp <;> omega)]
   rw [Below.heap_alloc _ _ _ (by simp <;> omega)]
   exact g
  ·
   have e : ((((((w.alloc (.cells #[.int .i64 0, .int .i64 1, .int .i64 2] 3)).alloc (.cells #[.int .i64 0, .int .i64 2, .int .i64 1] 3)).alloc (.cells #[.int .i64 1, .int .i64 0, .int .i64 2] 3)).alloc (.cells #[.int .i64 1, .int .i64 2, .int .i64 0] 3)).alloc (.cells #[.int .i64 2, .int .i64 0, .int .i64 1] 3))).heap.size = w.heap.size + 1 + 1 + 1 + 1 + 1 := by simp
   have g := heap_alloc_new (((((w.alloc (.cells #[.int .i64 0, .int .i64 1, .int .i64 2] 3)).alloc (.cells #[.int .i64 0, .int .i64 2, .int .i64 1] 3)).alloc (.cells #[.int .i64 1, .int .i64 0, .int .i64 2] 3)).alloc (.cells #[.int .i64 1, .int .i64 2, .int .i64 0] 3)).alloc (.cells #[.int .i64 2, .int .i64 0, .int .i64 1] 3)) (.cells #[.int .i64 2, .int .i64 1, .int .i64 0] 3)
   rw [e] at g
   rw [Below.heap_alloc _ _ _ (by simp <;> omega)]
   exact g
 ·
  exact ((((((((Below.refl _ w).alloc (by simp <;> omega) _).alloc (by simp <;> omega) _).alloc (by simp <;> omega) _).alloc (by simp <;> omega) _).alloc (by simp <;> omega) _).alloc (by simp <;> omega) _).alloc (by simp <;> omega) _)
theorem best_step {f : List Int → Int} {l : List (List Int)} {k : Nat} {best : List Int} {least : Int} (hk : k < l.length) :
  bestTo f (l.drop k) best least = if best.length = 0 ∨ f (l.getD k []) < least then bestTo f (l.drop (k + 1)) (l.getD k []) (f (l.getD k [])) else bestTo f (l.drop (k + 1)) best least := by
 have e : l.getD k [] = l[k] := by simp [List.getD, hk]
 rw [e, List.drop_eq_getElem_cons hk]
 rfl
theorem bestL_no {qs : List QD} {fs : List (List SpanD)} {rs : List RowD} (h : isIndexB qs fs = false) : bestL qs fs rs = [] := by unfold bestL; rw [h]; rfl
theorem bestL_yes {qs : List QD} {fs : List (List SpanD)} {rs : List RowD} (h : isIndexB qs fs = true) : bestL qs fs rs = bestTo (workL qs fs rs) ordersL [] 0 := by unfold bestL; rw [h]; rfl
end Go.Proofs.YtededfficggkaaaDoor
