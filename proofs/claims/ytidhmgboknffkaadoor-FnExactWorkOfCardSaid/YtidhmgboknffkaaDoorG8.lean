/-
  Texts of the proof, merged: IdxSpec1, SetOps, IdxSpec3, IdxSpec4, ProbeSetP, MatchSetP, MapCount, MapEntry, TRow, TRowS, BrRow.
-/
import Derived.Test.YtidhmgboknffkaaDoorG7
import Derived.Lib.MinMax
import Derived.Maps.RangeWalk
import Derived.WideKeyPair
import Derived.WideKeyEntry
import Derived.Maps.OwnOps
import Derived.BigQuiet
import Derived.Deep.QuietTactic
import Derived.Deep.RegionHeld3
namespace Go.Proofs.YtidhmgboknffkaaDoor
open Go.RowKit
set_option linter.unusedVariables false
set_option linter.unusedSimpArgs false
theorem allL_step {qs : List QD} {k : Nat} (h : k < qs.length) : (qs.take k).map (·.1) ++ [(qs.getD k q0D).1] = (qs.take (k + 1)).map (·.1) := by
  have e : qs.getD k q0D = qs[k] := by simp [List.getD, h]
  rw [e, List.take_succ_eq_append_getElem h, List.map_append]; rfl
set_option maxHeartbeats 4000000 in
set_option maxRecDepth 100000 in
theorem specL6All (v : Value) (qs : List QD) (w : World) (h : QueriesR w v qs) (hn : qs.length ≤ 1048576) :
    Calls Tryd.prog 115 #[v] w (FreshInts w (allL qs)) := by
  have H := Lib.hid h
  obtain ⟨a, cap, rfl⟩ := queriesR_len h
  clear h
  go_enter Tryd.func115, Tryd.ntmps115
  go_wp2
  go_loopw [3, 4] (fun o i wr => ∃ k : Nat, k ≤ qs.length ∧ i = .int .i64 k ∧ OwnsN wr w.heap.size o ((qs.take k).map (·.1)) ∧ Below w.heap.size w wr) (fun _ i _ => qs.length - (intOf i).toNat)
  case atStart => exact ⟨0, Nat.zero_le _, rfl, ownsN_lit w _ (Nat.le_refl _) #[] 0 [] rfl rfl (by decide), (Below.refl _ _).alloc (Nat.le_refl _) _⟩
  case round =>
    obtain ⟨k, hk, rfl, hown, hbel⟩ := hrel
    by_cases hlt : k < qs.length
    · have i1 : (0 : Int) ≤ (k : Int) := by omega
      have i2 : (k : Int) < (qs.length : Int) := by omega
      obtain ⟨b, off, cap', cv, ov, hv, hbl, hc1, hc2, hc3, hc4, _, _⟩ := queriesR_at (queriesR_below H.out hbel) hlt
      simp only [Value.slice.injEq] at hv
      obtain ⟨rfl, _, rfl⟩ := hv
      have HY := Lib.hid (allL_step hlt)
      have HL : Hid (((qs.take k).map (·.1)).length ≤ 1048576) := Lib.hid (by rw [List.length_map, List.length_take]; omega)
      have hB := hbel.size
      generalize (qs.getD k q0D).1 = qid at *
      generalize (qs.take k).map (·.1) = ac at *
      clear hc2 hc3 hc4
      go_wp2_with (at_builtin; refine append_ints rfl (.tmp 12) (.tmp 18) rfl w.heap.size _ _ rfl hown hB _ [qid] 1 _ rfl (by first | rfl | (simp; done)) rfl (by have := HL.out; simp; omega) ?_)
      intro v' w4 hown4 hb4
      rw [HY.out] at hown4
      have hb5 := hbel.trans hb4
      clear hown hbel hb4 hc1
      go_wp2
      go_roundw
      case rel => exact ⟨k + 1, by omega, by go_num, hown4, hb5⟩
      case measure => simp [intOf]; omega
    · obtain rfl : k = qs.length := by omega
      rw [List.take_length] at hown
      go_wp2
      go_ret
      exact ⟨_, rfl, hown, hbel⟩
/-- As far as k the order is one. -/
def OrdTo (os : List Int) (k : Nat) : Prop := ∀ i, i < k → (0 ≤ os.getD i 0 ∧ os.getD i 0 ≤ 2) ∧ os.getD i 0 ∉ os.take i
theorem orderB_len {os : List Int} (h : ¬ os.length = 3) : orderB os = false := by unfold orderB; rw [decide_eq_false h]; rfl
theorem orderB_yes {os : List Int} (hl : os.length = 3) (h : OrdTo os os.length) : orderB os = true := by
  unfold orderB
  rw [decide_eq_true hl, Bool.true_and, List.all_eq_true]
  intro i hi
  have := h i (List.mem_range.1 hi)
  simp only [Bool.and_eq_true, decide_eq_true_eq, Bool.not_eq_true', decide_eq_false_iff_not]
  exact this
theorem orderB_no {os : List Int} {k : Nat} (hk : k < os.length) (h : ¬ ((0 ≤ os.getD k 0 ∧ os.getD k 0 ≤ 2) ∧ os.getD k 0 ∉ os.take k)) : orderB os = false := by
  rw [Bool.eq_false_iff]
  intro g
  unfold orderB at g
  rw [Bool.and_eq_true, List.all_eq_true] at g
  have := g.2 k (List.mem_range.2 hk)
  simp only [Bool.and_eq_true, decide_eq_true_eq, Bool.not_eq_true', decide_eq_false_iff_not] at this
  exact h this
theorem order_iff {os : List Int} (h : orderB os = true) : os.length = 3 ∧ ∀ i, i < os.length → 0 ≤ os.getD i 0 ∧ os.getD i 0 ≤ 2 := by
  unfold orderB at h
  rw [Bool.and_eq_true, List.all_eq_true, decide_eq_true_eq] at h
  refine ⟨h.1, fun i hi => ?_⟩
  have := h.2 i (List.mem_range.2 hi)
  rw [Bool.and_eq_true, decide_eq_true_eq] at this
  exact this.1
theorem ints_take {w : World} {b off cap n : Nat} {xs : List Int} (h : Ints w (.slice (some ⟨b, off, none⟩) n cap) xs) {k : Nat} (hk : k ≤ xs.length) (hp : 0 < xs.length) : Ints w (.slice (some ⟨b, off, none⟩) k cap) (xs.take k) := by
  rcases h with ⟨rfl, _⟩ | ⟨b', off', cap', hv, h2, h3, h4⟩
  · simp at hp
  · simp only [Value.slice.injEq, Option.some.injEq, Addr.mk.injEq] at hv
    obtain ⟨⟨rfl, rfl, _⟩, _, rfl⟩ := hv
    have hl : (xs.take k).length = k := by rw [List.length_take]; omega
    refine Or.inr ⟨b, off, cap, by rw [hl], by omega, h3, fun j hj => ?_⟩
    rw [hl] at hj
    rw [h4 j (by omega)]
    have h1 : j < (xs.take k).length := by omega
    simp [List.getD, hj, show j < xs.length by omega]
theorem ints_cap {w : World} {b off cap n : Nat} {xs : List Int} (h : Ints w (.slice (some ⟨b, off, none⟩) n cap) xs) (hp : 0 < xs.length) : xs.length ≤ cap := by
  rcases h with ⟨rfl, _⟩ | ⟨b', off', cap', hv, h2, _⟩
  · simp at hp
  · simp only [Value.slice.injEq] at hv
    obtain ⟨_, _, rfl⟩ := hv
    exact h2
theorem has_yes (v : Value) (xs : List Int) (x : Int) (w : World) (h : Ints w v xs) (hn : xs.length ≤ 1048576) (hm : x ∈ xs) :
    Calls Tryd.prog 114 #[v, .int .i64 x] w fun e w' => e = .returned (.bool true) ∧ w' = w :=
  (specHas v xs x w h hn).mono fun e w' g => ⟨by rw [g.1, decide_eq_true hm], g.2.symm⟩
theorem has_no (v : Value) (xs : List Int) (x : Int) (w : World) (h : Ints w v xs) (hn : xs.length ≤ 1048576) (hm : x ∉ xs) :
    Calls Tryd.prog 114 #[v, .int .i64 x] w fun e w' => e = .returned (.bool false) ∧ w' = w :=
  (specHas v xs x w h hn).mono fun e w' g => ⟨by rw [g.1, decide_eq_false hm], g.2.symm⟩
set_option maxHeartbeats 4000000 in
set_option maxRecDepth 100000 in
theorem specL6Order (v : Value) (os : List Int) (w : World) (h : Ints w v os) (hn : os.length ≤ 1048576) :
    Calls Tryd.prog 64 #[v] w fun e w' => e = .returned (.bool (orderB os)) ∧ Below w.heap.size w w' := by
  have H := Lib.hid h
  obtain ⟨a, cap, rfl⟩ := ints_len h
  clear h
  by_cases hl : os.length = 3
  · have hne : ((os.length : Int) != 3) = false := by rw [hl]; rfl
    have HL := Lib.hid hl
    clear hl
    go_enter Tryd.func64, Tryd.ntmps64
    go_wp2
    clear hne
    go_loopw [3] (fun i wr => ∃ k : Nat, k ≤ os.length ∧ i = .int .i64 k ∧ Hid (OrdTo os k) ∧ Below w.heap.size w wr) (fun i _ => os.length - (intOf i).toNat)
    case atStart => exact ⟨0, Nat.zero_le _, rfl, Lib.hid (fun i hi => by omega), Below.refl _ _⟩
    case round =>
      obtain ⟨k, hk, rfl, hord, hbel⟩ := hrel
      by_cases hlt : k < os.length
      · have I := ints_below H.out hbel
        obtain ⟨b, off, cap', hv, hbl, hc⟩ := ints_cell I (by omega)
        simp only [Value.slice.injEq] at hv
        obtain ⟨rfl, _, rfl⟩ := hv
        have hcell := hc k hlt
        have hcp := ints_cap I (by omega)
        have HT := Lib.hid (ints_take I hk (by omega))
        have HTL : Hid ((os.take k).length ≤ 1048576) := Lib.hid (by rw [List.length_take]; omega)
        have i1 : (0 : Int) ≤ (k : Int) := by omega
        have i2 : (k : Int) < (os.length : Int) := by omega
        have i3 : (k : Int) ≤ (cap : Int) := by omega
        have i4 : k ≤ cap := by omega
        have HNO := Lib.hid (fun h => orderB_no (os := os) hlt h)
        have HST : Hid ((0 ≤ os.getD k 0 ∧ os.getD k 0 ≤ 2) ∧ os.getD k 0 ∉ os.take k → OrdTo os (k + 1)) := Lib.hid (fun h i hi => by
          by_cases e : i = k
          · rw [e]; exact h
          · exact hord.out i (by omega))
        clear hc I hord
        generalize os.getD k 0 = y at *
        generalize os.take k = ts at *
        by_cases hin : 0 ≤ y ∧ y ≤ 2
        · obtain ⟨g0, g1⟩ := hin
          by_cases hm : y ∈ ts
          · have HF := Lib.hid (HNO.out (fun q => q.2 hm))
            have HM := Lib.hid hm
            clear hm HNO HST
            go_wp2
            go_quiet ((first | (go_at_call 69; exact Calls.quiet_of_same (in_yes _ _ _ _ (by omega) (by omega))) | (go_at_call 114; exact Calls.quiet_of_same (has_yes _ ts _ _ HT.out HTL.out HM.out))))
            go_wp2
            go_ret
            exact ⟨ret_b HF.out.symm, below_same hbel rfl rfl rfl rfl⟩
          · have HS := Lib.hid (HST.out ⟨⟨g0, g1⟩, hm⟩)
            have HM := Lib.hid hm
            clear hm HNO HST
            go_wp2
            go_quiet ((first | (go_at_call 69; exact Calls.quiet_of_same (in_yes _ _ _ _ (by omega) (by omega))) | (go_at_call 114; exact Calls.quiet_of_same (has_no _ ts _ _ HT.out HTL.out HM.out))))
            go_wp2
            go_roundw
            case rel => exact ⟨k + 1, by omega, by go_num, HS, below_same hbel rfl rfl rfl rfl⟩
            case measure => simp [intOf]; omega
        · have HF := Lib.hid (HNO.out (fun q => hin q.1))
          have HI := Lib.hid hin
          clear hin HNO HST
          go_wp2
          go_quiet ((go_at_call 69; exact Calls.quiet_of_same (in_no _ _ _ _ HI.out)))
          go_wp2
          go_ret
          exact ⟨ret_b HF.out.symm, below_same hbel rfl rfl rfl rfl⟩
      · obtain rfl : k = os.length := by omega
        have HY := Lib.hid (orderB_yes HL.out hord.out)
        clear hord
        go_wp2
        go_ret
        exact ⟨ret_b HY.out.symm, hbel⟩
  · have hne : ((os.length : Int) != 3) = true := by rw [bne_iff_ne]; omega
    have HF := Lib.hid (orderB_len hl)
    clear hl
    go_enter Tryd.func64, Tryd.ntmps64
    go_wp2
    go_ret
    exact ⟨ret_b HF.out.symm, Below.refl _ _⟩
end Go.Proofs.YtidhmgboknffkaaDoor
namespace Go.Proofs.YtidhmgboknffkaaDoor
open Go.RowKit
set_option linter.unusedVariables false
/-- The first k of a that p takes. -/
def accA (p : Int → Bool) (a : List Int) (k : Nat) : List Int := (a.take k).filter p
theorem accA_yes {p : Int → Bool} {a : List Int} {k : Nat} (hk : k < a.length) (h : p (a.getD k 0) = true) : accA p a k ++ [a.getD k 0] = accA p a (k + 1) := by
  unfold accA
  have e : a.getD k 0 = a[k] := by simp [List.getD, hk]
  rw [e] at h ⊢
  rw [List.take_succ_eq_append_getElem hk, List.filter_append]
  simp [h]
theorem accA_no {p : Int → Bool} {a : List Int} {k : Nat} (hk : k < a.length) (h : p (a.getD k 0) = false) : accA p a k = accA p a (k + 1) := by
  unfold accA
  have e : a.getD k 0 = a[k] := by simp [List.getD, hk]
  rw [e] at h
  rw [List.take_succ_eq_append_getElem hk, List.filter_append]
  simp [h]
theorem accA_len (p : Int → Bool) (a : List Int) (k : Nat) : (accA p a k).length ≤ a.length := by
  have h1 := List.length_filter_le p (a.take k)
  have h2 := List.length_take_le' k a
  unfold accA; omega
theorem meet_no {a b : List Int} (h : (setB a && setB b) = false) : meetL a b = [] := by unfold meetL; rw [h]; rfl
theorem meet_yes {a b : List Int} (h1 : setB a = true) (h2 : setB b = true) : meetL a b = accA (fun x => decide (x ∈ b)) a a.length := by unfold meetL accA; rw [h1, h2, List.take_length]; rfl
/-! ### Meet -/
set_option maxHeartbeats 2000000 in
set_option maxRecDepth 100000 in
theorem specMeet (va vb : Value) (a b : List Int) (w : World) (ha : Ints w va a) (hb : Ints w vb b) (na : a.length ≤ 1048576) (nb : b.length ≤ 1048576) :
    Calls Tryd.prog 117 #[va, vb] w (Fresh w (meetL a b)) := by
  have HA := Lib.hid ha
  have HB := Lib.hid hb
  have NA := Lib.hid na
  have NB := Lib.hid nb
  obtain ⟨ao, cap, hva⟩ := ints_len ha
  clear ha hb nb
  by_cases hsa : setB a = true
  · by_cases hsb : setB b = true
    · have HU := Lib.hid (meet_yes hsa hsb)
      have SA := Lib.hid hsa
      have SB := Lib.hid hsb
      clear hsa hsb
      generalize hp : (fun x => decide (x ∈ b)) = p at HU
      have HP := Lib.hid hp
      clear hp
      subst hva
      go_enter Tryd.func117, Tryd.ntmps117
      go_wp2
      go_loopw [5, 6] (fun v i wr => ∃ k : Nat, k ≤ a.length ∧ i = .int .i64 k ∧ OwnsN wr w.heap.size v (accA p a k) ∧ Below w.heap.size w wr) (fun _ i _ => a.length - (intOf i).toNat)
      case atStart => exact ⟨0, Nat.zero_le _, rfl, ownsN_lit w _ (Nat.le_refl _) #[] 0 [] rfl rfl (by decide), (Below.refl _ _).alloc (Nat.le_refl _) _⟩
      case round =>
        obtain ⟨k, hk, rfl, hown, hbel⟩ := hrel
        by_cases hlt : k < a.length
        · have HL := Lib.hid (accA_len p a k)
          have HK := Lib.hid (congrFun HP.out (a.getD k 0))
          have i1 : (0 : Int) ≤ (k : Int) := by omega
          have i2 : (k : Int) < (a.length : Int) := by omega
          go_wp2_with fail
          refine (specIsSet _ a _ (ints_below HA.out hbel) NA.out).mono ?_
          rintro e w1 ⟨rfl, hb1⟩
          rw [SA.out]
          have hown1 := ownsN_below hown hb1
          have hbel1 := hbel.trans (hb1.mono hbel.size)
          clear hown hbel hb1
          go_wp2_with fail
          refine (specIsSet vb b _ (ints_below HB.out hbel1) NB.out).mono ?_
          rintro e w2 ⟨rfl, hb2⟩
          rw [SB.out]
          have hown2 := ownsN_below hown1 hb2
          have hbel2 := hbel1.trans (hb2.mono hbel1.size)
          have hB2 := hbel2.size
          clear hown1 hbel1 hb2
          obtain ⟨bb, off, cap', hv, hbl, hc⟩ := ints_cell HA.out (by omega)
          simp only [Value.slice.injEq] at hv
          obtain ⟨rfl, _, rfl⟩ := hv
          have hcell := (hbel2.cell (p := ⟨bb, off + k, none⟩) hbl).trans (hc k hlt)
          have HYES := Lib.hid (fun h => accA_yes (p := p) hlt h)
          have HNO := Lib.hid (fun h => accA_no (p := p) hlt h)
          clear hc
          generalize a.getD k 0 = y at hcell HK HYES HNO
          go_wp2_with fail
          refine (specHas vb b y _ (ints_below HB.out hbel2) NB.out).mono ?_
          rintro e w3 ⟨rfl, rfl⟩
          cases hmb : decide (y ∈ b) with
          | true =>
            have HT : Hid (p y = true) := Lib.hid (by rw [← HK.out]; simp [hmb])
            clear hmb
            go_wp2_with (at_builtin; refine append_ints rfl (.tmp 28) (.tmp 33) rfl w.heap.size _ _ rfl hown2 hB2 _ [y] 1 _ rfl (by first | rfl | (simp; done)) rfl (by have := HL.out; have := NA.out; simp; omega) ?_)
            intro v' w4 hown3 hb3
            rw [HYES.out HT.out] at hown3
            have hb4 := hbel2.trans hb3
            clear hown2 hbel2 hb3 hcell
            go_wp2
            go_roundw
            case rel => exact ⟨k + 1, by omega, by go_num, hown3, hb4⟩
            case measure => simp [intOf]; omega
          | false =>
            have HT : Hid (p y = false) := Lib.hid (by rw [← HK.out]; simp [hmb])
            clear hmb
            rw [HNO.out HT.out] at hown2
            go_wp2
            go_roundw
            case rel => exact ⟨k + 1, by omega, by go_num, hown2, hbel2⟩
            case measure => simp [intOf]; omega
        · obtain rfl : k = a.length := by omega
          rw [← HU.out] at hown
          go_wp2
          go_ret
          exact ⟨_, rfl, hown, hbel⟩
    · have HE := Lib.hid (meet_no (a := a) (b := b) (by simp [hsb]))
      have SA := Lib.hid hsa
      have SB := Lib.hid (show setB b = false by simpa using hsb)
      clear hsa hsb
      rw [HE.out]
      subst hva
      go_enter Tryd.func117, Tryd.ntmps117
      go_wp2
      have hown := ownsN_lit w w.heap.size (Nat.le_refl _) #[] 0 [] rfl rfl (by decide)
      have hbel := (Below.refl w.heap.size w).alloc (Nat.le_refl _) (.cells #[] 3)
      generalize w.alloc (.cells #[] 3) = w0 at hown hbel ⊢
      go_loopw [5, 6] (fun v i wr => wr = w0 ∧ i = .int .i64 0 ∧ v = .slice (some ⟨w.heap.size, 0, none⟩) 0 0) (fun _ _ _ => 0)
      case atStart => exact ⟨rfl, rfl, rfl⟩
      case round =>
        obtain ⟨rfl, rfl, rfl⟩ := hrel
        by_cases hl : 0 < a.length
        · go_wp2_with fail
          refine (specIsSet _ a _ (ints_below HA.out hbel) NA.out).mono ?_
          rintro e w1 ⟨rfl, hb1⟩
          rw [SA.out]
          have hown1 := ownsN_below hown hb1
          have hbel1 := hbel.trans (hb1.mono hbel.size)
          clear hown hbel hb1
          go_wp2_with fail
          refine (specIsSet vb b _ (ints_below HB.out hbel1) NB.out).mono ?_
          rintro e w2 ⟨rfl, hb2⟩
          rw [SB.out]
          have hown2 := ownsN_below hown1 hb2
          have hbel2 := hbel1.trans (hb2.mono hbel1.size)
          clear hown1 hbel1 hb2
          go_wp2
          go_ret
          exact ⟨_, rfl, hown2, hbel2⟩
        · have hl2 : ¬ ((0 : Int) < (a.length : Int)) := by omega
          go_wp2
          go_ret
          exact ⟨_, rfl, hown, hbel⟩
  · have HE := Lib.hid (meet_no (a := a) (b := b) (by simp [hsa]))
    have SA := Lib.hid (show setB a = false by simpa using hsa)
    clear hsa
    rw [HE.out]
    subst hva
    go_enter Tryd.func117, Tryd.ntmps117
    go_wp2
    have hown := ownsN_lit w w.heap.size (Nat.le_refl _) #[] 0 [] rfl rfl (by decide)
    have hbel := (Below.refl w.heap.size w).alloc (Nat.le_refl _) (.cells #[] 3)
    generalize w.alloc (.cells #[] 3) = w0 at hown hbel ⊢
    go_loopw [5, 6] (fun v i wr => wr = w0 ∧ i = .int .i64 0 ∧ v = .slice (some ⟨w.heap.size, 0, none⟩) 0 0) (fun _ _ _ => 0)
    case atStart => exact ⟨rfl, rfl, rfl⟩
    case round =>
      obtain ⟨rfl, rfl, rfl⟩ := hrel
      by_cases hl : 0 < a.length
      · go_wp2_with fail
        refine (specIsSet _ a _ (ints_below HA.out hbel) NA.out).mono ?_
        rintro e w1 ⟨rfl, hb1⟩
        rw [SA.out]
        have hown1 := ownsN_below hown hb1
        have hbel1 := hbel.trans (hb1.mono hbel.size)
        clear hown hbel hb1
        go_wp2
        go_ret
        exact ⟨_, rfl, hown1, hbel1⟩
      · have hl2 : ¬ ((0 : Int) < (a.length : Int)) := by omega
        go_wp2
        go_ret
        exact ⟨_, rfl, hown, hbel⟩
/-! ### Sub -/
end Go.Proofs.YtidhmgboknffkaaDoor
namespace Go.Proofs.YtidhmgboknffkaaDoor
open Go.RowKit
set_option linter.unusedVariables false
set_option linter.unusedSimpArgs false
def FreshPW (w : World) (p : List Int × Int) (e : Ending) (w' : World) : Prop := ∃ v, e = .returned (.tuple #[v, .int .i64 p.2]) ∧ OwnsN w' w.heap.size v p.1 ∧ Below w.heap.size w w'
theorem probe_end {fs : List (List SpanD)} {vs os : List Int} {k : Nat} {set : List Int} {work : Int} (h : os.length ≤ k ∨ set.length = 0) : probeL fs vs (os.drop k) set work = (set, work) := by
  rcases h with h | h
  · rw [List.drop_eq_nil_of_le h]; rfl
  · cases os.drop k with
    | nil => rfl
    | cons f os => unfold probeL; rw [if_pos h]
theorem probe_step {fs : List (List SpanD)} {vs os : List Int} {k : Nat} {set : List Int} {work : Int} (hk : k < os.length) (h : 0 < set.length) :
    probeL fs vs (os.drop k) set work = probeL fs vs (os.drop (k + 1)) (meetL set (findL (fs.getD (os.getD k 0).toNat []) (vs.getD (os.getD k 0).toNat 0))) (work + 1 + ((min set.length (findL (fs.getD (os.getD k 0).toNat []) (vs.getD (os.getD k 0).toNat 0)).length : Nat) : Int)) := by
  have e : os.getD k 0 = os[k] := by simp [List.getD, hk]
  rw [e, List.drop_eq_getElem_cons hk]
  conv => lhs; unfold probeL
  rw [if_neg (by omega)]
theorem meetL_len (a b : List Int) : (meetL a b).length ≤ a.length := by
  unfold meetL
  split
  · exact List.length_filter_le _ _
  · simp
theorem findL_small {rs : List SpanD} {v : Int} (h : zpL rs ≤ 1048576) : (findL rs v).length ≤ 1048576 := by
  unfold findL
  cases e : rs.find? (hitB v) with
  | none => simp [p0D]
  | some r =>
    have hm := List.mem_of_find?_eq_some e
    obtain ⟨i, hi, rfl⟩ := List.getElem_of_mem hm
    have := zpL_span h hi
    simpa [List.getD, hi] using this
set_option maxHeartbeats 16000000 in
set_option maxRecDepth 100000 in
theorem specL6Probe (qv fv vv ov : Value) (qs : List QD) (fs : List (List SpanD)) (rid : Int) (vs os : List Int) (w : World) (h1 : SlR tQuery w qv qs) (h2 : SlR tSpanS w fv fs) (h3 : Ints w vv vs) (h4 : Ints w ov os) (hs : zL tQuery qs ≤ 1048576) (hz : zL tSpanS fs ≤ 1048576) (hl3 : fs.length = 3) (hv3 : vs.length = 3) (ho3 : os.length = 3) (hos : ∀ i, i < os.length → 0 ≤ os.getD i 0 ∧ os.getD i 0 ≤ 2) :
    Calls Tryd.prog 65 #[.agg #[qv, fv], .agg #[.int .i64 rid, vv], ov] w (FreshPW w (probeL fs vs os (allL qs) 0)) := by
  have hlen := zL_len hs
  have HZF := Lib.hid hz
  obtain ⟨qa, qc, rfl⟩ := slR_len h1
  obtain ⟨fa, fc, rfl⟩ := slR_len h2
  obtain ⟨va, vc, rfl⟩ := ints_len h3
  obtain ⟨oa, oc, rfl⟩ := ints_len h4
  have d0 := Lib.hid (((Below.refl w.heap.size w).alloc (Nat.le_refl _) (.cells #[.slice qa qs.length qc, .slice fa fs.length fc] 27)).alloc (by simp) (.cells #[.int .i64 rid, .slice va vs.length vc] 30))
  have B0 : Hid (((w.alloc (.cells #[.slice qa qs.length qc, .slice fa fs.length fc] 27)).alloc (.cells #[.int .i64 rid, .slice va vs.length vc] 30)).heap[w.heap.size]? = some (.cells #[.slice qa qs.length qc, .slice fa fs.length fc] 27 (0, 0))) := Lib.hid (by rw [Below.heap_alloc _ _ _ (by simp)]; exact heap_alloc_new w _)
  have B1 : Hid (((w.alloc (.cells #[.slice qa qs.length qc, .slice fa fs.length fc] 27)).alloc (.cells #[.int .i64 rid, .slice va vs.length vc] 30)).heap[(w.heap.size + 1)]? = some (.cells #[.int .i64 rid, .slice va vs.length vc] 30 (0, 0))) := Lib.hid (by
    have := heap_alloc_new (w.alloc (.cells #[.slice qa qs.length qc, .slice fa fs.length fc] 27)) (.cells #[.int .i64 rid, .slice va vs.length vc] 30)
    simpa only [World.size_alloc] using this)
  have Y0 : Hid (w.heap.size + 1 < ((w.alloc (.cells #[.slice qa qs.length qc, .slice fa fs.length fc] 27)).alloc (.cells #[.int .i64 rid, .slice va vs.length vc] 30)).heap.size) := Lib.hid (by simp)
  have H1 := Lib.hid h1; have H2 := Lib.hid h2; have H3 := Lib.hid h3; have H4 := Lib.hid h4
  have HL3 := Lib.hid hl3; have HV3 := Lib.hid hv3; have HO3 := Lib.hid ho3; have HOS := Lib.hid hos
  have hol : os.length ≤ 3 := by omega
  clear h1 h2 h3 h4 hs hz hl3 hv3 ho3 hos
  go_enter Tryd.func65, Tryd.ntmps65
  go_wp2_with fail
  generalize ((w.alloc (.cells #[.slice qa qs.length qc, .slice fa fs.length fc] 27)).alloc (.cells #[.int .i64 rid, .slice va vs.length vc] 30)) = W at *
  refine (specL6All (.slice qa qs.length qc) qs W (slR_queries (slR_below tQuery_law H1.out d0.out)) hlen).mono ?_
  rintro e w1 ⟨u, rfl, ou, b1⟩
  have k0 := (b1.block w.heap.size (Nat.lt_trans (Nat.lt_succ_self _) Y0.out)).trans B0.out
  have k1 := (b1.block (w.heap.size + 1) Y0.out).trans B1.out
  have d1 := d0.out.trans (b1.mono d0.out.size)
  have y1 := Nat.lt_of_lt_of_le Y0.out b1.size
  have ou1 := ownsN_up ou (show w.heap.size ≤ W.heap.size from d0.out.size)
  have HAL : Hid ((allL qs).length ≤ 1048576) := Lib.hid (by unfold allL; rw [List.length_map]; exact hlen)
  clear ou b1 d0 B0 B1 Y0
  go_wp2
  go_loopw [8, 9, 10] (fun o n i wr => ∃ (k : Nat) (set : List Int) (work : Int), k ≤ os.length ∧ i = .int .i64 k ∧ n = .int .i64 work ∧ OwnsN wr w.heap.size o set ∧ set.length ≤ 1048576 ∧ 0 ≤ work ∧ work ≤ 2097152 * (k : Int) ∧ Hid (probeL fs vs (os.drop k) set work = probeL fs vs os (allL qs) 0) ∧
    wr.heap[w.heap.size]? = some (.cells #[.slice qa qs.length qc, .slice fa fs.length fc] 27 (0, 0)) ∧ wr.heap[(w.heap.size + 1)]? = some (.cells #[.int .i64 rid, .slice va vs.length vc] 30 (0, 0)) ∧ Below w.heap.size w wr ∧ w.heap.size + 1 < wr.heap.size) (fun _ _ i _ => os.length - (intOf i).toNat)
  case atStart => exact ⟨0, allL qs, 0, Nat.zero_le _, rfl, rfl, ou1, HAL.out, by omega, by omega, Lib.hid (by rw [List.drop_zero]), k0, k1, d1, y1⟩
  case round =>
    obtain ⟨k, set, work, hk, rfl, rfl, hset, hsl, hw0, hw1, hP, hr0, hr1, hbel, hsz⟩ := hrel
    obtain ⟨sa, sc, rfl⟩ := ints_len (ownsN_ints hset)
    by_cases hgo : k < os.length ∧ 0 < set.length
    · obtain ⟨hlt, hpos⟩ := hgo
      have i1 : (0 : Int) ≤ (k : Int) := by omega
      have i2 : (k : Int) < (os.length : Int) := by omega
      have i3 : (0 : Int) < (set.length : Int) := by omega
      obtain ⟨g0, g1⟩ := HOS.out k hlt
      have HPS := Lib.hid (probe_step (fs := fs) (vs := vs) (work := work) hlt hpos)
      obtain ⟨ob, oo, ocap, hv, hobl, hoc⟩ := ints_cell H4.out (by omega)
      simp only [Value.slice.injEq] at hv
      obtain ⟨rfl, _, rfl⟩ := hv
      have OC := Lib.hid (hoc k hlt)
      have OBL := Lib.hid hobl
      clear hoc hobl
      generalize os.getD k 0 = f at *
      have hfn : f.toNat < fs.length := by have := HL3.out; omega
      have hvn : f.toNat < vs.length := by have := HV3.out; omega
      have j1 : f < (fs.length : Int) := by omega
      have j2 : f < (vs.length : Int) := by omega
      obtain ⟨fb, fo, fcap, cs, hv, hfbl, hcs, hR⟩ := slR_at H2.out hfn
      simp only [Value.slice.injEq] at hv
      obtain ⟨rfl, _, rfl⟩ := hv
      obtain ⟨u, rfl, hU⟩ := hR
      have FC : Hid (w.cell? ⟨fb, fo + f.toNat, none⟩ = some u) := Lib.hid (by have := hcs 0 Nat.one_pos; rw [show tSpanS.n = 1 from rfl, Nat.mul_one, Nat.add_zero] at this; exact this)
      have FBL := Lib.hid hfbl
      have hzx := zL_at HZF.out hfn
      have HZU : Hid (zpL (fs.getD f.toNat []) ≤ 1048576) := Lib.hid (by rw [← zL_spans]; exact hzx)
      have HUL : Hid (∃ a cap, u = .slice a (fs.getD f.toNat []).length cap) := Lib.hid (slR_len hU)
      have HU : Hid (SlR tSpan w u (fs.getD f.toNat [])) := Lib.hid hU
      obtain ⟨vb, vo, vcap, hv, hvbl, hvc⟩ := ints_cell H3.out (by omega)
      simp only [Value.slice.injEq] at hv
      obtain ⟨rfl, _, rfl⟩ := hv
      have VC := Lib.hid (hvc f.toNat hvn)
      have VBL := Lib.hid hvbl
      clear hvc hvbl hcs hU hzx hfbl hfn hvn
      generalize fs.getD f.toNat [] = rs at *
      generalize vs.getD f.toNat 0 = y at *
      obtain ⟨ra, rc, rfl⟩ := HUL.out
      clear HUL
      have HFS : Hid ((findL rs y).length ≤ 1048576) := Lib.hid (findL_small HZU.out)
      have B0 := Lib.hid hr0
      have B1 := Lib.hid hr1
      have d := Lib.hid hbel
      have HSET := Lib.hid hset
      have HY := Lib.hid hsz
      clear hr0 hr1 hbel hset k0 k1 d1 y1 ou1 hsz
      go_wp2
      have HYW : Hid (w.heap.size ≤ wr.heap.size) := Lib.hid d.out.size
      have p_B0_0 := (cell_of_row wr _ 0 _ _ _ B0.out).trans (show _ = some (Value.slice qa qs.length qc) from rfl)
      have p_B0_1 := (cell_of_row wr _ 1 _ _ _ B0.out).trans (show _ = some (Value.slice (some ⟨fb, fo, none⟩) fs.length fc) from rfl)
      have p_B1_0 := (cell_of_row wr _ 0 _ _ _ B1.out).trans (show _ = some (Value.int .i64 rid) from rfl)
      have p_B1_1 := (cell_of_row wr _ 1 _ _ _ B1.out).trans (show _ = some (Value.slice (some ⟨vb, vo, none⟩) vs.length vc) from rfl)
      have p_oc := (d.out.cell (p := ⟨ob, oo + k, none⟩) OBL.out).trans OC.out
      have p_fc := (d.out.cell (p := ⟨fb, fo + f.toNat, none⟩) FBL.out).trans FC.out
      have p_vc := (d.out.cell (p := ⟨vb, vo + f.toNat, none⟩) VBL.out).trans VC.out
      refine wp_region_held_drew (S := fun w' => w'.cell? ⟨w.heap.size, 0, none⟩ = some (Value.slice qa qs.length qc) ∧ w'.cell? ⟨w.heap.size, 1, none⟩ = some (Value.slice (some ⟨fb, fo, none⟩) fs.length fc) ∧ w'.cell? ⟨(w.heap.size + 1), 0, none⟩ = some (Value.int .i64 rid) ∧ w'.cell? ⟨(w.heap.size + 1), 1, none⟩ = some (Value.slice (some ⟨vb, vo, none⟩) vs.length vc) ∧ w'.cell? ⟨ob, oo + k, none⟩ = some (Value.int .i64 f) ∧ w'.cell? ⟨fb, fo + f.toNat, none⟩ = some (Value.slice ra rs.length rc) ∧ w'.cell? ⟨vb, vo + f.toNat, none⟩ = some (Value.int .i64 y)) (by kernel_rfl) ⟨p_B0_0, p_B0_1, p_B1_0, p_B1_1, p_oc, p_fc, p_vc⟩ (fun hHeld => ?_)
      clear p_B0_0 p_B0_1 p_B1_0 p_B1_1 p_oc p_fc p_vc
      have cdr : Below wr.heap.size wr wr.drew := below_drew (Below.refl _ _)
      replace B0 := Lib.hid ((cdr.block w.heap.size (Array.getElem?_eq_some_iff.1 B0.out).1).trans B0.out)
      replace B1 := Lib.hid ((cdr.block (w.heap.size + 1) (Array.getElem?_eq_some_iff.1 B1.out).1).trans B1.out)
      replace d := Lib.hid (d.out.trans (cdr.mono d.out.size))
      clear cdr
      refine take_runs (i := 0) (v := ?_) (by simp only [List.getElem?_toArray, List.getElem?_cons_succ, List.getElem?_cons_zero]; rfl) (by kernel_rfl) (by kernel_rfl) (by kernel_rfl) rfl (by exact fun _ _ _ h => h) (by rfl) ?_ (by assumption) ?_
      rotate_left
      · intro w hSw; (try dsimp only at hSw); go_simp; try (with_reducible rfl)
      try simp only [Act.put, List.setIfInBounds_toArray, List.set_cons_zero, List.set_cons_succ]
      refine take_runs (i := 1) (v := ?_) (by simp only [List.getElem?_toArray, List.getElem?_cons_succ, List.getElem?_cons_zero]; rfl) (by kernel_rfl) (by kernel_rfl) (by kernel_rfl) rfl (by exact fun _ _ _ h => h) (by rfl) ?_ (by assumption) ?_
      rotate_left
      · intro w hSw; (try dsimp only at hSw); go_simp; try (with_reducible rfl)
      try simp only [Act.put, List.setIfInBounds_toArray, List.set_cons_zero, List.set_cons_succ]
      refine take_runs (i := 2) (v := ?_) (by simp only [List.getElem?_toArray, List.getElem?_cons_succ, List.getElem?_cons_zero]; rfl) (by kernel_rfl) (by kernel_rfl) (by kernel_rfl) rfl (by exact fun _ _ _ h => h) (by rfl) ?_ (by assumption) ?_
      rotate_left
      · intro w hSw; (try dsimp only at hSw); go_simp; try (with_reducible rfl)
      try simp only [Act.put, List.setIfInBounds_toArray, List.set_cons_zero, List.set_cons_succ]
      refine take_runs (i := 3) (v := ?_) (by simp only [List.getElem?_toArray, List.getElem?_cons_succ, List.getElem?_cons_zero]; rfl) (by kernel_rfl) (by kernel_rfl) (by kernel_rfl) rfl (by exact fun _ _ _ h => h) (by rfl) ?_ (by assumption) ?_
      rotate_left
      · intro w hSw; (try dsimp only at hSw); go_simp; try (with_reducible rfl)
      try simp only [Act.put, List.setIfInBounds_toArray, List.set_cons_zero, List.set_cons_succ]
      refine take_runs (i := 4) (v := ?_) (by simp only [List.getElem?_toArray, List.getElem?_cons_succ, List.getElem?_cons_zero]; rfl) (by kernel_rfl) (by kernel_rfl) (by kernel_rfl) rfl (by exact fun _ _ _ h => h) (by rfl) ?_ (by assumption) ?_
      rotate_left
      · intro w hSw; (try dsimp only at hSw); go_simp; try (with_reducible rfl)
      try simp only [Act.put, List.setIfInBounds_toArray, List.set_cons_zero, List.set_cons_succ]
      refine take_runs (i := 5) (v := ?_) (by simp only [List.getElem?_toArray, List.getElem?_cons_succ, List.getElem?_cons_zero]; rfl) (by kernel_rfl) (by kernel_rfl) (by kernel_rfl) rfl (by exact fun _ _ _ h => h) (by rfl) ?_ (by assumption) ?_
      rotate_left
      · intro w hSw; (try dsimp only at hSw); go_simp; try (with_reducible rfl)
      try simp only [Act.put, List.setIfInBounds_toArray, List.set_cons_zero, List.set_cons_succ]
      refine take_runs (i := 6) (v := ?_) (by simp only [List.getElem?_toArray, List.getElem?_cons_succ, List.getElem?_cons_zero]; rfl) (by kernel_rfl) (by kernel_rfl) (by kernel_rfl) rfl (by exact fun _ _ _ h => h) (by rfl) ?_ (by assumption) ?_
      rotate_left
      · intro w hSw; (try dsimp only at hSw); go_simp; try (with_reducible rfl)
      try simp only [Act.put, List.setIfInBounds_toArray, List.set_cons_zero, List.set_cons_succ]
      refine take_runs (i := 7) (v := ?_) (by simp only [List.getElem?_toArray, List.getElem?_cons_succ, List.getElem?_cons_zero]; rfl) (by kernel_rfl) (by kernel_rfl) (by kernel_rfl) rfl (by exact fun _ _ _ h => h) (by rfl) ?_ (by assumption) ?_
      rotate_left
      · intro w hSw; (try dsimp only at hSw); go_simp; try (with_reducible rfl)
      try simp only [Act.put, List.setIfInBounds_toArray, List.set_cons_zero, List.set_cons_succ]
      refine take_runs (i := 8) (v := ?_) (by simp only [List.getElem?_toArray, List.getElem?_cons_succ, List.getElem?_cons_zero]; rfl) (by kernel_rfl) (by kernel_rfl) (by kernel_rfl) rfl (by exact fun _ _ _ h => h) (by rfl) ?_ (by assumption) ?_
      rotate_left
      · intro w hSw; (try dsimp only at hSw); go_simp; try (with_reducible rfl)
      try simp only [Act.put, List.setIfInBounds_toArray, List.set_cons_zero, List.set_cons_succ]
      refine take_runs (i := 9) (v := ?_) (by simp only [List.getElem?_toArray, List.getElem?_cons_succ, List.getElem?_cons_zero]; rfl) (by kernel_rfl) (by kernel_rfl) (by kernel_rfl) rfl (by exact fun _ _ _ h => h) (by rfl) ?_ (by assumption) ?_
      rotate_left
      · intro w hSw; (try dsimp only at hSw); go_simp; try (with_reducible rfl)
      try simp only [Act.put, List.setIfInBounds_toArray, List.set_cons_zero, List.set_cons_succ]
      refine take_runs (i := 10) (v := ?_) (by simp only [List.getElem?_toArray, List.getElem?_cons_succ, List.getElem?_cons_zero]; rfl) (by kernel_rfl) (by kernel_rfl) (by kernel_rfl) rfl (by exact fun _ _ _ h => h) (by rfl) ?_ (by assumption) ?_
      rotate_left
      · intro w hSw; (try dsimp only at hSw); go_simp; try (with_reducible rfl)
      try simp only [Act.put, List.setIfInBounds_toArray, List.set_cons_zero, List.set_cons_succ]
      refine take_runs (i := 11) (v := ?_) (by simp only [List.getElem?_toArray, List.getElem?_cons_succ, List.getElem?_cons_zero]; rfl) (by kernel_rfl) (by kernel_rfl) (by kernel_rfl) rfl (by exact fun _ _ _ h => h) (by rfl) ?_ (by assumption) ?_
      rotate_left
      · intro w hSw; (try dsimp only at hSw); go_simp; try (with_reducible rfl)
      try simp only [Act.put, List.setIfInBounds_toArray, List.set_cons_zero, List.set_cons_succ]
      refine take_runs (i := 12) (v := ?_) (by simp only [List.getElem?_toArray, List.getElem?_cons_succ, List.getElem?_cons_zero]; rfl) (by kernel_rfl) (by kernel_rfl) (by kernel_rfl) rfl (by exact fun _ _ _ h => h) (by rfl) ?_ (by assumption) ?_
      rotate_left
      · intro w hSw; (try dsimp only at hSw); go_simp; try (with_reducible rfl)
      try simp only [Act.put, List.setIfInBounds_toArray, List.set_cons_zero, List.set_cons_succ]
      refine take_runs (i := 13) (v := ?_) (by simp only [List.getElem?_toArray, List.getElem?_cons_succ, List.getElem?_cons_zero]; rfl) (by kernel_rfl) (by kernel_rfl) (by kernel_rfl) rfl (by exact fun _ _ _ h => h) (by rfl) ?_ (by assumption) ?_
      rotate_left
      · intro w hSw; (try dsimp only at hSw); go_simp; try (with_reducible rfl)
      try simp only [Act.put, List.setIfInBounds_toArray, List.set_cons_zero, List.set_cons_succ]
      refine take_runs (i := 14) (v := ?_) (by simp only [List.getElem?_toArray, List.getElem?_cons_succ, List.getElem?_cons_zero]; rfl) (by kernel_rfl) (by kernel_rfl) (by kernel_rfl) rfl (by exact fun _ _ _ h => h) (by rfl) ?_ (by assumption) ?_
      rotate_left
      · intro w hSw; (try dsimp only at hSw); go_simp; try (with_reducible rfl)
      try simp only [Act.put, List.setIfInBounds_toArray, List.set_cons_zero, List.set_cons_succ]
      refine take_runs (i := 15) (v := ?_) (by simp only [List.getElem?_toArray, List.getElem?_cons_succ, List.getElem?_cons_zero]; rfl) (by kernel_rfl) (by kernel_rfl) (by kernel_rfl) rfl (by exact fun _ _ _ h => h) (by rfl) ?_ (by assumption) ?_
      rotate_left
      · intro w hSw; (try dsimp only at hSw); go_simp; try (with_reducible rfl)
      try simp only [Act.put, List.setIfInBounds_toArray, List.set_cons_zero, List.set_cons_succ]
      refine wpAnyH_ready (rs := [16]) (by kernel_rfl) (by simp) ?_
      refine (AllReadyH.cons (o := _) (by simp only [List.getElem?_toArray, List.getElem?_cons_succ, List.getElem?_cons_zero]; rfl) (fun K hK => ?_) AllReadyH.nil)
      go_simp
      refine (specFindSpan (.slice ra rs.length rc) rs y (wr.drew) (slR_spans (slR_below tSpan_law HU.out d.out)) (fun j hj => zpL_span HZU.out hj) (by have h9 := HZU.out; rw [← zL_spans] at h9; exact zL_len h9)).mono ?_
      rintro e w5 ⟨su, rfl, os5, c5⟩
      replace B0 := Lib.hid ((c5.block w.heap.size (Array.getElem?_eq_some_iff.1 B0.out).1).trans B0.out)
      replace B1 := Lib.hid ((c5.block (w.heap.size + 1) (Array.getElem?_eq_some_iff.1 B1.out).1).trans B1.out)
      replace d := Lib.hid (d.out.trans (c5.mono d.out.size))
      have Z_w5 := Lib.hid (show wr.heap.size ≤ w5.heap.size from c5.size)
      have HS5 := Lib.hid (ownsN_below HSET.out ⟨c5.os, c5.tape, c5.output, c5.size, c5.block⟩)
      clear c5 HSET
      obtain ⟨ta, tc, rfl⟩ := ints_len (ownsN_ints os5)
      have SU := Lib.hid (ownsN_ints os5)
      clear os5
      have p_B0_0 := (cell_of_row w5 _ 0 _ _ _ B0.out).trans (show _ = some (Value.slice qa qs.length qc) from rfl)
      have p_B0_1 := (cell_of_row w5 _ 1 _ _ _ B0.out).trans (show _ = some (Value.slice (some ⟨fb, fo, none⟩) fs.length fc) from rfl)
      have p_B1_0 := (cell_of_row w5 _ 0 _ _ _ B1.out).trans (show _ = some (Value.int .i64 rid) from rfl)
      have p_B1_1 := (cell_of_row w5 _ 1 _ _ _ B1.out).trans (show _ = some (Value.slice (some ⟨vb, vo, none⟩) vs.length vc) from rfl)
      have p_oc := (d.out.cell (p := ⟨ob, oo + k, none⟩) OBL.out).trans OC.out
      have p_fc := (d.out.cell (p := ⟨fb, fo + f.toNat, none⟩) FBL.out).trans FC.out
      have p_vc := (d.out.cell (p := ⟨vb, vo + f.toNat, none⟩) VBL.out).trans VC.out
      refine hK.out _ _ ⟨p_B0_0, p_B0_1, p_B1_0, p_B1_1, p_oc, p_fc, p_vc⟩ (fun hHeld => ?_)
      clear p_B0_0 p_B0_1 p_B1_0 p_B1_1 p_oc p_fc p_vc
      clear hK K
      try simp only [Act.put, List.setIfInBounds_toArray, List.set_cons_zero, List.set_cons_succ]
      refine take_runs (i := 17) (v := ?_) (by simp only [List.getElem?_toArray, List.getElem?_cons_succ, List.getElem?_cons_zero]; rfl) (by kernel_rfl) (by kernel_rfl) (by kernel_rfl) rfl (by exact fun _ _ _ h => h) (by rfl) ?_ (by assumption) ?_
      rotate_left
      · intro w hSw; (try dsimp only at hSw); go_simp; try (with_reducible rfl)
      try simp only [Act.put, List.setIfInBounds_toArray, List.set_cons_zero, List.set_cons_succ]
      refine wpAnyH_done (by kernel_rfl) ?_ _
      clear hHeld
      generalize findL rs y = ss at *
      have hsl2 := HFS.out
      have hwb : work + 1 + (set.length : Int) ≤ 9223372036854775807 := by omega
      have hwc : work + 1 + (ss.length : Int) ≤ 9223372036854775807 := by omega
      go_wp2_with fail
      refine (specMeet (.slice sa set.length sc) (.slice ta ss.length tc) set ss w5 (ownsN_ints HS5.out) SU.out hsl HFS.out).mono ?_
      rintro e w6 ⟨mv, rfl, om, c6⟩
      replace B0 := Lib.hid ((c6.block w.heap.size (Array.getElem?_eq_some_iff.1 B0.out).1).trans B0.out)
      replace B1 := Lib.hid ((c6.block (w.heap.size + 1) (Array.getElem?_eq_some_iff.1 B1.out).1).trans B1.out)
      replace d := Lib.hid (d.out.trans (c6.mono d.out.size))
      have Z_w6 := Lib.hid (show w5.heap.size ≤ w6.heap.size from c6.size)
      clear c6
      have hml := meetL_len set ss
      have OM := Lib.hid (ownsN_up om (show w.heap.size ≤ w5.heap.size by have := Z_w5.out; have := HY.out; have := HYW.out; omega))
      have HN : Hid (probeL fs vs (os.drop (k + 1)) (meetL set ss) (work + 1 + ((min set.length ss.length : Nat) : Int)) = probeL fs vs os (allL qs) 0) := Lib.hid (by rw [← hP.out, HPS.out])
      clear om hP HPS HS5 SU
      go_wp2
      go_roundw
      case rel => exact ⟨k + 1, meetL set ss, work + 1 + ((min set.length ss.length : Nat) : Int), by omega, by go_num, congrArg (Value.int .i64) (by omega), OM.out, by omega, by omega, by omega, HN.out, B0.out, B1.out, d.out, Nat.lt_of_lt_of_le HY.out (Nat.le_trans Z_w5.out Z_w6.out)⟩
      case measure => simp [intOf]; omega
    · have HEND := Lib.hid (probe_end (fs := fs) (vs := vs) (work := work) (show os.length ≤ k ∨ set.length = 0 by omega))
      have HR : Hid (probeL fs vs os (allL qs) 0 = (set, work)) := Lib.hid (by rw [← hP.out]; exact HEND.out)
      clear hP HEND
      by_cases hlt : k < os.length
      · have i1 : (k : Int) < (os.length : Int) := by omega
        have hz0 : set = [] := List.eq_nil_of_length_eq_zero (by omega)
        subst hz0
        clear hgo
        go_wp2
        go_ret2
        exact ⟨.slice sa 0 sc, by first | (rw [HR.out]; done) | (rw [HR.out]; rfl), by rw [HR.out]; exact hset, hbel⟩
      · have i1 : ¬ (k : Int) < (os.length : Int) := by omega
        clear hgo
        go_wp2
        go_ret2
        exact ⟨.slice sa set.length sc, by first | (rw [HR.out]; done) | (rw [HR.out]; rfl), by rw [HR.out]; exact hset, hbel⟩
end Go.Proofs.YtidhmgboknffkaaDoor
namespace Go.Proofs.YtidhmgboknffkaaDoor
open Go.RowKit
set_option linter.unusedVariables false
set_option linter.unusedSimpArgs false
theorem probeB_no {qs : List QD} {fs : List (List SpanD)} {r : RowD} {os : List Int} (h : (isIndexB qs fs && (rowB r && orderB os)) = false) : probeB qs fs r os = ([], 0) := by unfold probeB; rw [h]; rfl
theorem probeB_yes {qs : List QD} {fs : List (List SpanD)} {r : RowD} {os : List Int} (h : (isIndexB qs fs && (rowB r && orderB os)) = true) : probeB qs fs r os = probeL fs r.2 os (allL qs) 0 := by unfold probeB; rw [h]; rfl
theorem idx_len {qs : List QD} {fs : List (List SpanD)} (h : isIndexB qs fs = true) : fs.length = 3 := by rw [(idx_iff h).2, fldTo_len]
set_option maxHeartbeats 16000000 in
set_option maxRecDepth 100000 in
theorem specProbeSet (qv fv vv ov : Value) (qs : List QD) (fs : List (List SpanD)) (rid : Int) (vs os : List Int) (w : World) (h1 : SlR tQuery w qv qs) (h2 : SlR tSpanS w fv fs) (h3 : Ints w vv vs) (h4 : Ints w ov os) (hs : zL tQuery qs ≤ 1048576) (hz : zL tSpanS fs ≤ 1048576) (hv : vs.length ≤ 1048576) (ho : os.length ≤ 1048576) :
    Calls Tryd.prog 11 #[.agg #[qv, fv], .agg #[.int .i64 rid, vv], ov] w (FreshPW w (probeB qs fs (rid, vs) os)) := by
  have hlen := zL_len hs
  have HS := Lib.hid hs
  have HZ := Lib.hid hz
  have hvl : vs.length ≤ 1048576 := hv
  obtain ⟨qa, qc, rfl⟩ := slR_len h1
  obtain ⟨fa, fc, rfl⟩ := slR_len h2
  obtain ⟨va, vc, rfl⟩ := ints_len h3
  have d := Lib.hid (((Below.refl w.heap.size w).alloc (Nat.le_refl _) (.cells #[.slice qa qs.length qc, .slice fa fs.length fc] 27)).alloc (by simp) (.cells #[.int .i64 rid, .slice va vs.length vc] 30))
  have B0 : Hid (((w.alloc (.cells #[.slice qa qs.length qc, .slice fa fs.length fc] 27)).alloc (.cells #[.int .i64 rid, .slice va vs.length vc] 30)).heap[w.heap.size]? = some (.cells #[.slice qa qs.length qc, .slice fa fs.length fc] 27 (0, 0))) := Lib.hid (by rw [Below.heap_alloc _ _ _ (by simp)]; exact heap_alloc_new w _)
  have B1 : Hid (((w.alloc (.cells #[.slice qa qs.length qc, .slice fa fs.length fc] 27)).alloc (.cells #[.int .i64 rid, .slice va vs.length vc] 30)).heap[(w.heap.size + 1)]? = some (.cells #[.int .i64 rid, .slice va vs.length vc] 30 (0, 0))) := Lib.hid (by
    have := heap_alloc_new (w.alloc (.cells #[.slice qa qs.length qc, .slice fa fs.length fc] 27)) (.cells #[.int .i64 rid, .slice va vs.length vc] 30)
    simpa only [World.size_alloc] using this)
  obtain ⟨oa, oc, rfl⟩ := ints_len h4
  have H1 := Lib.hid h1; have H2 := Lib.hid h2; have H3 := Lib.hid h3; have H4 := Lib.hid h4
  have HX := Lib.hid (fun w g1 g2 => specIsIndex (.slice qa qs.length qc) (.slice fa fs.length fc) qs fs w g1 g2 HS.out HZ.out)
  have HR := Lib.hid (fun w g => specIsRow rid (.slice va vs.length vc) vs w g hv)
  have HO := Lib.hid (fun w g => specL6Order (.slice oa os.length oc) os w g ho)
  clear h1 h2 h3 h4 hs hz hv ho
  cases hx : isIndexB qs fs with
  | false =>
    have HE : Hid (probeB qs fs (rid, vs) os = ([], 0)) := Lib.hid (probeB_no (by rw [hx]; rfl))
    rw [hx] at HX
    clear hx
    go_enter Tryd.func11, Tryd.ntmps11
    go_wp2_with fail
    generalize ((w.alloc (.cells #[.slice qa qs.length qc, .slice fa fs.length fc] 27)).alloc (.cells #[.int .i64 rid, .slice va vs.length vc] 30)) = W at *
    refine (HX.out W (slR_below tQuery_law H1.out d.out) (slR_below tSpanS_law H2.out d.out)).mono ?_
    rintro e w1 ⟨rfl, c1⟩
    replace B0 := Lib.hid ((c1.block w.heap.size (Array.getElem?_eq_some_iff.1 B0.out).1).trans B0.out)
    replace B1 := Lib.hid ((c1.block (w.heap.size + 1) (Array.getElem?_eq_some_iff.1 B1.out).1).trans B1.out)
    replace d := Lib.hid (d.out.trans (c1.mono d.out.size))
    clear c1
    go_wp2
    go_ret2
    exact ⟨.slice (some ⟨w1.heap.size, 0, none⟩) 0 0, by first | (rw [HE.out]; done) | (rw [HE.out]; rfl), by rw [HE.out]; exact ownsN_lit w1 _ d.out.size #[] 0 [] rfl rfl (by decide), d.out.alloc d.out.size _⟩
  | true =>
    cases hr : rowB (rid, vs) with
    | false =>
      have HE : Hid (probeB qs fs (rid, vs) os = ([], 0)) := Lib.hid (probeB_no (by rw [hx, hr]; rfl))
      rw [hx] at HX
      rw [hr] at HR
      clear hx hr
      go_enter Tryd.func11, Tryd.ntmps11
      go_wp2_with fail
      generalize ((w.alloc (.cells #[.slice qa qs.length qc, .slice fa fs.length fc] 27)).alloc (.cells #[.int .i64 rid, .slice va vs.length vc] 30)) = W at *
      refine (HX.out W (slR_below tQuery_law H1.out d.out) (slR_below tSpanS_law H2.out d.out)).mono ?_
      rintro e w1 ⟨rfl, c1⟩
      replace B0 := Lib.hid ((c1.block w.heap.size (Array.getElem?_eq_some_iff.1 B0.out).1).trans B0.out)
      replace B1 := Lib.hid ((c1.block (w.heap.size + 1) (Array.getElem?_eq_some_iff.1 B1.out).1).trans B1.out)
      replace d := Lib.hid (d.out.trans (c1.mono d.out.size))
      clear c1
      have r0 := (cell_of_row w1 _ 0 _ _ _ B1.out).trans (show _ = some (Value.int .i64 rid) from rfl)
      have r1 := (cell_of_row w1 _ 1 _ _ _ B1.out).trans (show _ = some (Value.slice va vs.length vc) from rfl)
      go_wp2_with fail
      clear r0 r1
      refine (HR.out w1 (ints_below H3.out d.out)).mono ?_
      rintro e w2 ⟨rfl, c2⟩
      replace B0 := Lib.hid ((c2.block w.heap.size (Array.getElem?_eq_some_iff.1 B0.out).1).trans B0.out)
      replace B1 := Lib.hid ((c2.block (w.heap.size + 1) (Array.getElem?_eq_some_iff.1 B1.out).1).trans B1.out)
      replace d := Lib.hid (d.out.trans (c2.mono d.out.size))
      clear c2
      go_wp2
      go_ret2
      exact ⟨.slice (some ⟨w2.heap.size, 0, none⟩) 0 0, by first | (rw [HE.out]; done) | (rw [HE.out]; rfl), by rw [HE.out]; exact ownsN_lit w2 _ d.out.size #[] 0 [] rfl rfl (by decide), d.out.alloc d.out.size _⟩
    | true =>
      cases ho : orderB os with
      | false =>
        have HE : Hid (probeB qs fs (rid, vs) os = ([], 0)) := Lib.hid (probeB_no (by rw [hx, hr, ho]; rfl))
        rw [hx] at HX
        rw [hr] at HR
        rw [ho] at HO
        clear hx hr ho
        go_enter Tryd.func11, Tryd.ntmps11
        go_wp2_with fail
        generalize ((w.alloc (.cells #[.slice qa qs.length qc, .slice fa fs.length fc] 27)).alloc (.cells #[.int .i64 rid, .slice va vs.length vc] 30)) = W at *
        refine (HX.out W (slR_below tQuery_law H1.out d.out) (slR_below tSpanS_law H2.out d.out)).mono ?_
        rintro e w1 ⟨rfl, c1⟩
        replace B0 := Lib.hid ((c1.block w.heap.size (Array.getElem?_eq_some_iff.1 B0.out).1).trans B0.out)
        replace B1 := Lib.hid ((c1.block (w.heap.size + 1) (Array.getElem?_eq_some_iff.1 B1.out).1).trans B1.out)
        replace d := Lib.hid (d.out.trans (c1.mono d.out.size))
        clear c1
        have r0 := (cell_of_row w1 _ 0 _ _ _ B1.out).trans (show _ = some (Value.int .i64 rid) from rfl)
        have r1 := (cell_of_row w1 _ 1 _ _ _ B1.out).trans (show _ = some (Value.slice va vs.length vc) from rfl)
        go_wp2_with fail
        clear r0 r1
        refine (HR.out w1 (ints_below H3.out d.out)).mono ?_
        rintro e w2 ⟨rfl, c2⟩
        replace B0 := Lib.hid ((c2.block w.heap.size (Array.getElem?_eq_some_iff.1 B0.out).1).trans B0.out)
        replace B1 := Lib.hid ((c2.block (w.heap.size + 1) (Array.getElem?_eq_some_iff.1 B1.out).1).trans B1.out)
        replace d := Lib.hid (d.out.trans (c2.mono d.out.size))
        clear c2
        go_wp2_with fail
        refine (HO.out w2 (ints_below H4.out d.out)).mono ?_
        rintro e w3 ⟨rfl, c3⟩
        replace B0 := Lib.hid ((c3.block w.heap.size (Array.getElem?_eq_some_iff.1 B0.out).1).trans B0.out)
        replace B1 := Lib.hid ((c3.block (w.heap.size + 1) (Array.getElem?_eq_some_iff.1 B1.out).1).trans B1.out)
        replace d := Lib.hid (d.out.trans (c3.mono d.out.size))
        clear c3
        go_wp2
        go_ret2
        exact ⟨.slice (some ⟨w3.heap.size, 0, none⟩) 0 0, by first | (rw [HE.out]; done) | (rw [HE.out]; rfl), by rw [HE.out]; exact ownsN_lit w3 _ d.out.size #[] 0 [] rfl rfl (by decide), d.out.alloc d.out.size _⟩
      | true =>
        have HE : Hid (probeB qs fs (rid, vs) os = probeL fs vs os (allL qs) 0) := Lib.hid (probeB_yes (by rw [hx, hr, ho]; rfl))
        have HF3 := Lib.hid (idx_len hx)
        have HV3 : Hid (vs.length = 3) := Lib.hid (row_len hr)
        have HO3 := Lib.hid (order_iff ho)
        rw [hx] at HX
        rw [hr] at HR
        rw [ho] at HO
        clear hx hr ho
        go_enter Tryd.func11, Tryd.ntmps11
        go_wp2_with fail
        generalize ((w.alloc (.cells #[.slice qa qs.length qc, .slice fa fs.length fc] 27)).alloc (.cells #[.int .i64 rid, .slice va vs.length vc] 30)) = W at *
        refine (HX.out W (slR_below tQuery_law H1.out d.out) (slR_below tSpanS_law H2.out d.out)).mono ?_
        rintro e w1 ⟨rfl, c1⟩
        replace B0 := Lib.hid ((c1.block w.heap.size (Array.getElem?_eq_some_iff.1 B0.out).1).trans B0.out)
        replace B1 := Lib.hid ((c1.block (w.heap.size + 1) (Array.getElem?_eq_some_iff.1 B1.out).1).trans B1.out)
        replace d := Lib.hid (d.out.trans (c1.mono d.out.size))
        clear c1
        have r0 := (cell_of_row w1 _ 0 _ _ _ B1.out).trans (show _ = some (Value.int .i64 rid) from rfl)
        have r1 := (cell_of_row w1 _ 1 _ _ _ B1.out).trans (show _ = some (Value.slice va vs.length vc) from rfl)
        go_wp2_with fail
        clear r0 r1
        refine (HR.out w1 (ints_below H3.out d.out)).mono ?_
        rintro e w2 ⟨rfl, c2⟩
        replace B0 := Lib.hid ((c2.block w.heap.size (Array.getElem?_eq_some_iff.1 B0.out).1).trans B0.out)
        replace B1 := Lib.hid ((c2.block (w.heap.size + 1) (Array.getElem?_eq_some_iff.1 B1.out).1).trans B1.out)
        replace d := Lib.hid (d.out.trans (c2.mono d.out.size))
        clear c2
        go_wp2_with fail
        refine (HO.out w2 (ints_below H4.out d.out)).mono ?_
        rintro e w3 ⟨rfl, c3⟩
        replace B0 := Lib.hid ((c3.block w.heap.size (Array.getElem?_eq_some_iff.1 B0.out).1).trans B0.out)
        replace B1 := Lib.hid ((c3.block (w.heap.size + 1) (Array.getElem?_eq_some_iff.1 B1.out).1).trans B1.out)
        replace d := Lib.hid (d.out.trans (c3.mono d.out.size))
        clear c3
        have x0 := (cell_of_row w3 _ 0 _ _ _ B0.out).trans (show _ = some (Value.slice qa qs.length qc) from rfl)
        have x1 := (cell_of_row w3 _ 1 _ _ _ B0.out).trans (show _ = some (Value.slice fa fs.length fc) from rfl)
        have r0 := (cell_of_row w3 _ 0 _ _ _ B1.out).trans (show _ = some (Value.int .i64 rid) from rfl)
        have r1 := (cell_of_row w3 _ 1 _ _ _ B1.out).trans (show _ = some (Value.slice va vs.length vc) from rfl)
        go_wp2_with fail
        clear x0 x1 r0 r1
        refine (specL6Probe (.slice qa qs.length qc) (.slice fa fs.length fc) (.slice va vs.length vc) (.slice oa os.length oc) qs fs rid vs os w3 (slR_below tQuery_law H1.out d.out) (slR_below tSpanS_law H2.out d.out) (ints_below H3.out d.out) (ints_below H4.out d.out) HS.out HZ.out HF3.out HV3.out HO3.out.1 HO3.out.2).mono ?_
        rintro e w4 ⟨u, rfl, ou, c4⟩
        have ou2 := Lib.hid (ownsN_up ou d.out.size)
        have d4 := Lib.hid (d.out.trans (c4.mono d.out.size))
        clear ou c4
        go_wp2
        go_ret2
        exact ⟨u, by first | (rw [HE.out]; done) | (rw [HE.out]; rfl), by rw [HE.out]; exact ou2.out, d4.out⟩
end Go.Proofs.YtidhmgboknffkaaDoor
namespace Go.Proofs.YtidhmgboknffkaaDoor
open Go.RowKit
set_option linter.unusedVariables false
set_option linter.unusedSimpArgs false
theorem list3 {os : List Int} (h : os.length = 3) : os = [os.getD 0 0, os.getD 1 0, os.getD 2 0] := by
  match os, h with
  | [a, b, c], _ => rfl
theorem order_range {os : List Int} (h : orderB os = true) (k : Nat) (hk : k < 3) : 0 ≤ os.getD k 0 ∧ os.getD k 0 ≤ 2 := by
  have hl := order_len h
  have e : os.getD k 0 = os[k] := by simp [List.getD, show k < os.length by omega]
  have hm := (order_mem h (os.getD k 0)).1 (by rw [e]; exact List.getElem_mem _)
  omega
theorem probe_both {qs : List QD} {fs : List (List SpanD)} {rid : Int} {vs os : List Int} (hx : isIndexB qs fs = true) (hr : rowB (rid, vs) = true) (ho : orderB os = true) :
    memL (probeM (pick3 (setM fs vs 0) (setM fs vs 1) (setM fs vs 2)) [os.getD 0 0, os.getD 1 0, os.getD 2 0] (maskL (allL qs)) 0).1 = (probeB qs fs (rid, vs) os).1 ∧
    (probeM (pick3 (setM fs vs 0) (setM fs vs 1) (setM fs vs 2)) [os.getD 0 0, os.getD 1 0, os.getD 2 0] (maskL (allL qs)) 0).2 = (probeB qs fs (rid, vs) os).2 := by
  rw [← list3 (order_len ho), probeB_yes (by rw [hx, hr, ho]; rfl)]
  have h := probe_key (r := (rid, vs)) hx hr ho 0
  rw [h.1]
  exact ⟨memL_set h.2, rfl⟩
set_option maxHeartbeats 16000000 in
set_option maxRecDepth 100000 in
theorem implProbeSet (qv fv vv ov : Value) (qs : List QD) (fs : List (List SpanD)) (rid : Int) (vs os : List Int) (w : World) (h1 : SlR tQuery w qv qs) (h2 : SlR tSpanS w fv fs) (h3 : Ints w vv vs) (h4 : Ints w ov os) (hs : zL tQuery qs ≤ 1048576) (hz : zL tSpanS fs ≤ 1048576) (hv : vs.length ≤ 1048576) (ho : os.length ≤ 1048576) (ht : OrdT w) :
    Calls Tryd.prog 10 #[.agg #[qv, fv], .agg #[.int .i64 rid, vv], ov] w (FreshPW w (probeB qs fs (rid, vs) os)) := by
  obtain ⟨qa, qc, rfl⟩ := slR_len h1
  obtain ⟨fa, fc, rfl⟩ := slR_len h2
  obtain ⟨va, vc, rfl⟩ := ints_len h3
  obtain ⟨oa, oc, rfl⟩ := ints_len h4
  have d := Lib.hid (((Below.refl w.heap.size w).alloc (Nat.le_refl _) (.cells #[.slice qa qs.length qc, .slice fa fs.length fc] 27)).alloc (by simp) (.cells #[.int .i64 rid, .slice va vs.length vc] 30))
  have B1 : Hid (((w.alloc (.cells #[.slice qa qs.length qc, .slice fa fs.length fc] 27)).alloc (.cells #[.int .i64 rid, .slice va vs.length vc] 30)).heap[(w.heap.size + 1)]? = some (.cells #[.int .i64 rid, .slice va vs.length vc] 30 (0, 0))) := Lib.hid (by
    have := heap_alloc_new (w.alloc (.cells #[.slice qa qs.length qc, .slice fa fs.length fc] 27)) (.cells #[.int .i64 rid, .slice va vs.length vc] 30)
    simpa only [World.size_alloc] using this)
  have B0 : Hid (((w.alloc (.cells #[.slice qa qs.length qc, .slice fa fs.length fc] 27)).alloc (.cells #[.int .i64 rid, .slice va vs.length vc] 30)).heap[w.heap.size]? = some (.cells #[.slice qa qs.length qc, .slice fa fs.length fc] 27 (0, 0))) := Lib.hid (by rw [Below.heap_alloc _ _ _ (by simp)]; exact heap_alloc_new w _)
  have H1 := Lib.hid h1; have H2 := Lib.hid h2; have H3 := Lib.hid h3; have H4 := Lib.hid h4; have HT := Lib.hid ht
  have HZ := Lib.hid hz
  have HR := Lib.hid (fun w g => implIsRow rid (.slice va vs.length vc) vs w g hv)
  have HO := Lib.hid (fun w g t => implOrderOf (.slice oa os.length oc) os w g ho t)
  cases hx : isIndexB qs fs with
  | false =>
    have HX := Lib.hid (fun w g1 g2 => implCheck_no (.slice qa qs.length qc) (.slice fa fs.length fc) qs fs w g1 g2 hs hz hx)
    have HE : Hid (probeB qs fs (rid, vs) os = ([], 0)) := Lib.hid (probeB_no (by rw [hx]; rfl))
    clear h1 h2 h3 h4 hs hz hv ho hx ht
    go_enter Tryd.func10, Tryd.ntmps10
    go_wp2_with fail
    generalize ((w.alloc (.cells #[.slice qa qs.length qc, .slice fa fs.length fc] 27)).alloc (.cells #[.int .i64 rid, .slice va vs.length vc] 30)) = W at *
    refine (HX.out W (slR_below tQuery_law H1.out d.out) (slR_below tSpanS_law H2.out d.out)).mono ?_
    rintro e w1 ⟨rfl, c1⟩
    replace B0 := Lib.hid ((c1.block w.heap.size (Array.getElem?_eq_some_iff.1 B0.out).1).trans B0.out)
    replace d := Lib.hid (d.out.trans (c1.mono d.out.size))
    clear c1
    go_wp2_with fail
    have hal : Below w1.heap.size w1 (w1.alloc (.cells #[.int .u32 0, .slice none 0 0, .slice none 0 0, .slice none 0 0] 96)) := (Below.refl _ _).alloc (Nat.le_refl _) _
    have B2 : Hid ((w1.alloc (.cells #[.int .u32 0, .slice none 0 0, .slice none 0 0, .slice none 0 0] 96)).heap[w1.heap.size]? = some (.cells #[.int .u32 0, .slice none 0 0, .slice none 0 0, .slice none 0 0] 96 (0, 0))) := Lib.hid (heap_alloc_new _ _)
    replace B0 := Lib.hid ((hal.block w.heap.size (Array.getElem?_eq_some_iff.1 B0.out).1).trans B0.out)
    replace d := Lib.hid (d.out.trans (hal.mono d.out.size))
    clear hal
    generalize (w1.alloc (.cells #[.int .u32 0, .slice none 0 0, .slice none 0 0, .slice none 0 0] 96)) = W2 at *
    refine (HO.out W2 (ints_below H4.out d.out) (HT.out.on d.out)).mono ?_
    rintro e w3 ⟨hor, c2⟩
    replace B0 := Lib.hid ((c2.block w.heap.size (Array.getElem?_eq_some_iff.1 B0.out).1).trans B0.out)
    replace B2 := Lib.hid ((c2.block w1.heap.size (Array.getElem?_eq_some_iff.1 B2.out).1).trans B2.out)
    replace d := Lib.hid (d.out.trans (c2.mono d.out.size))
    clear c2
    rcases hor with ⟨ho, rfl⟩ | ⟨ho, rfl⟩
    · clear ho B2 B0 B1
      generalize os.getD 0 0 = x0 at *
      generalize os.getD 1 0 = x1 at *
      generalize os.getD 2 0 = x2 at *
      have D := Lib.hid (d.out.alloc d.out.size (.cells #[.int .i64 x0, .int .i64 x1, .int .i64 x2] 100))
      go_wp2
      go_ret2
      exact ⟨.slice none 0 0, by first | (rw [HE.out]; done) | (rw [HE.out]; rfl), by rw [HE.out]; exact ownsN_nil _ _, D.out⟩
    · clear ho B2 B0 B1
      have D := Lib.hid (d.out.alloc d.out.size (.cells #[.int .i64 0, .int .i64 0, .int .i64 0] 100))
      go_wp2
      go_ret2
      exact ⟨.slice none 0 0, by first | (rw [HE.out]; done) | (rw [HE.out]; rfl), by rw [HE.out]; exact ownsN_nil _ _, D.out⟩
  | true =>
    have HX := Lib.hid (fun w g1 g2 => implCheck_yes (.slice qa qs.length qc) (.slice fa fs.length fc) qs fs w g1 g2 hs hz hx)
    have HI := Lib.hid hx
    have HQ := Lib.hid (idx_iff hx).1
    have HF3 : Hid (fs.length = 3) := Lib.hid (by rw [(idx_iff hx).2, fldTo_len])
    clear h1 h2 h3 h4 hs hz hv ho hx ht
    go_enter Tryd.func10, Tryd.ntmps10
    go_wp2_with fail
    generalize ((w.alloc (.cells #[.slice qa qs.length qc, .slice fa fs.length fc] 27)).alloc (.cells #[.int .i64 rid, .slice va vs.length vc] 30)) = W at *
    refine (HX.out W (slR_below tQuery_law H1.out d.out) (slR_below tSpanS_law H2.out d.out)).mono ?_
    rintro e w1 ⟨s0, s1, s2, rfl, hci, c1⟩
    replace B0 := Lib.hid ((c1.block w.heap.size (Array.getElem?_eq_some_iff.1 B0.out).1).trans B0.out)
    replace B1 := Lib.hid ((c1.block (w.heap.size + 1) (Array.getElem?_eq_some_iff.1 B1.out).1).trans B1.out)
    replace d := Lib.hid (d.out.trans (c1.mono d.out.size))
    clear c1
    obtain ⟨ta0, cp0, rfl⟩ := slR_len hci.1
    obtain ⟨ta1, cp1, rfl⟩ := slR_len hci.2.1
    obtain ⟨ta2, cp2, rfl⟩ := slR_len hci.2.2
    generalize (fs.getD 0 []).length = ln0 at *
    generalize (fs.getD 1 []).length = ln1 at *
    generalize (fs.getD 2 []).length = ln2 at *
    have HCI := Lib.hid hci
    clear hci
    have hmx := maskL_lt (allL qs)
    generalize hm : maskL (allL qs) = m at *
    have HM := Lib.hid hm
    have HMX := Lib.hid hmx
    clear hm hmx
    clear B0
    go_wp2_with fail
    have hal : Below w1.heap.size w1 (w1.alloc (.cells #[.int .u32 (m : Int), .slice ta0 ln0 cp0, .slice ta1 ln1 cp1, .slice ta2 ln2 cp2] 96)) := (Below.refl _ _).alloc (Nat.le_refl _) _
    have B2 : Hid ((w1.alloc (.cells #[.int .u32 (m : Int), .slice ta0 ln0 cp0, .slice ta1 ln1 cp1, .slice ta2 ln2 cp2] 96)).heap[w1.heap.size]? = some (.cells #[.int .u32 (m : Int), .slice ta0 ln0 cp0, .slice ta1 ln1 cp1, .slice ta2 ln2 cp2] 96 (0, 0))) := Lib.hid (heap_alloc_new _ _)
    replace B1 := Lib.hid ((hal.block (w.heap.size + 1) (Array.getElem?_eq_some_iff.1 B1.out).1).trans B1.out)
    replace HCI := Lib.hid (ci_below HCI.out hal)
    replace d := Lib.hid (d.out.trans (hal.mono d.out.size))
    clear hal
    generalize (w1.alloc (.cells #[.int .u32 (m : Int), .slice ta0 ln0 cp0, .slice ta1 ln1 cp1, .slice ta2 ln2 cp2] 96)) = W2 at *
    refine (HO.out W2 (ints_below H4.out d.out) (HT.out.on d.out)).mono ?_
    rintro e w3 ⟨hor, c2⟩
    replace B1 := Lib.hid ((c2.block (w.heap.size + 1) (Array.getElem?_eq_some_iff.1 B1.out).1).trans B1.out)
    replace B2 := Lib.hid ((c2.block w1.heap.size (Array.getElem?_eq_some_iff.1 B2.out).1).trans B2.out)
    replace HCI := Lib.hid (ci_below HCI.out c2)
    replace d := Lib.hid (d.out.trans (c2.mono d.out.size))
    clear c2
    rcases hor with ⟨ho, rfl⟩ | ⟨ho, rfl⟩
    · have x0 := order_range ho 0 (by omega); have x1 := order_range ho 1 (by omega); have x2 := order_range ho 2 (by omega)
      have HX0 := Lib.hid x0; have HX1 := Lib.hid x1; have HX2 := Lib.hid x2
      clear x0 x1 x2
      cases hr : rowB (rid, vs) with
      | false =>
        have HE : Hid (probeB qs fs (rid, vs) os = ([], 0)) := Lib.hid (probeB_no (by rw [hr]; simp))
        rw [hr] at HR
        clear hr ho
        generalize os.getD 0 0 = y0 at *
        generalize os.getD 1 0 = y1 at *
        generalize os.getD 2 0 = y2 at *
        have hal : Below w3.heap.size w3 (w3.alloc (.cells #[.int .i64 y0, .int .i64 y1, .int .i64 y2] 100)) := (Below.refl _ _).alloc (Nat.le_refl _) _
        have k1 := (hal.block (w.heap.size + 1) (Array.getElem?_eq_some_iff.1 B1.out).1).trans B1.out
        have p0 := (cell_of_row (w3.alloc (.cells #[.int .i64 y0, .int .i64 y1, .int .i64 y2] 100)) _ 0 _ _ _ k1).trans (show _ = some (Value.int .i64 rid) from rfl)
        have p1 := (cell_of_row (w3.alloc (.cells #[.int .i64 y0, .int .i64 y1, .int .i64 y2] 100)) _ 1 _ _ _ k1).trans (show _ = some (Value.slice va vs.length vc) from rfl)
        clear hal k1
        go_wp2_with fail
        clear p0 p1
        have hal : Below w3.heap.size w3 (w3.alloc (.cells #[.int .i64 y0, .int .i64 y1, .int .i64 y2] 100)) := (Below.refl _ _).alloc (Nat.le_refl _) _
        have B3 : Hid ((w3.alloc (.cells #[.int .i64 y0, .int .i64 y1, .int .i64 y2] 100)).heap[w3.heap.size]? = some (.cells #[.int .i64 y0, .int .i64 y1, .int .i64 y2] 100 (0, 0))) := Lib.hid (heap_alloc_new _ _)
        replace B1 := Lib.hid ((hal.block (w.heap.size + 1) (Array.getElem?_eq_some_iff.1 B1.out).1).trans B1.out)
        replace B2 := Lib.hid ((hal.block w1.heap.size (Array.getElem?_eq_some_iff.1 B2.out).1).trans B2.out)
        replace HCI := Lib.hid (ci_below HCI.out hal)
        replace d := Lib.hid (d.out.trans (hal.mono d.out.size))
        clear hal
        generalize (w3.alloc (.cells #[.int .i64 y0, .int .i64 y1, .int .i64 y2] 100)) = W4 at *
        refine (HR.out W4 (ints_below H3.out d.out)).mono ?_
        rintro e w5 ⟨rfl, c3⟩
        replace B1 := Lib.hid ((c3.block (w.heap.size + 1) (Array.getElem?_eq_some_iff.1 B1.out).1).trans B1.out)
        replace B2 := Lib.hid ((c3.block w1.heap.size (Array.getElem?_eq_some_iff.1 B2.out).1).trans B2.out)
        replace B3 := Lib.hid ((c3.block w3.heap.size (Array.getElem?_eq_some_iff.1 B3.out).1).trans B3.out)
        replace HCI := Lib.hid (ci_below HCI.out c3)
        replace d := Lib.hid (d.out.trans (c3.mono d.out.size))
        clear c3
        go_wp2
        go_ret2
        exact ⟨.slice none 0 0, by first | (rw [HE.out]; done) | (rw [HE.out]; rfl), by rw [HE.out]; exact ownsN_nil _ _, d.out⟩
      | true =>
        have HV3 : Hid (vs.length = 3) := Lib.hid (row_len hr)
        rw [hr] at HR
        have HP := Lib.hid (probe_both HI.out hr ho)
        rw [HM.out] at HP
        clear hr ho
        generalize os.getD 0 0 = y0 at *
        generalize os.getD 1 0 = y1 at *
        generalize os.getD 2 0 = y2 at *
        have hal : Below w3.heap.size w3 (w3.alloc (.cells #[.int .i64 y0, .int .i64 y1, .int .i64 y2] 100)) := (Below.refl _ _).alloc (Nat.le_refl _) _
        have k1 := (hal.block (w.heap.size + 1) (Array.getElem?_eq_some_iff.1 B1.out).1).trans B1.out
        have p0 := (cell_of_row (w3.alloc (.cells #[.int .i64 y0, .int .i64 y1, .int .i64 y2] 100)) _ 0 _ _ _ k1).trans (show _ = some (Value.int .i64 rid) from rfl)
        have p1 := (cell_of_row (w3.alloc (.cells #[.int .i64 y0, .int .i64 y1, .int .i64 y2] 100)) _ 1 _ _ _ k1).trans (show _ = some (Value.slice va vs.length vc) from rfl)
        clear hal k1
        go_wp2_with fail
        clear p0 p1
        have hal : Below w3.heap.size w3 (w3.alloc (.cells #[.int .i64 y0, .int .i64 y1, .int .i64 y2] 100)) := (Below.refl _ _).alloc (Nat.le_refl _) _
        have B3 : Hid ((w3.alloc (.cells #[.int .i64 y0, .int .i64 y1, .int .i64 y2] 100)).heap[w3.heap.size]? = some (.cells #[.int .i64 y0, .int .i64 y1, .int .i64 y2] 100 (0, 0))) := Lib.hid (heap_alloc_new _ _)
        replace B1 := Lib.hid ((hal.block (w.heap.size + 1) (Array.getElem?_eq_some_iff.1 B1.out).1).trans B1.out)
        replace B2 := Lib.hid ((hal.block w1.heap.size (Array.getElem?_eq_some_iff.1 B2.out).1).trans B2.out)
        replace HCI := Lib.hid (ci_below HCI.out hal)
        replace d := Lib.hid (d.out.trans (hal.mono d.out.size))
        clear hal
        generalize (w3.alloc (.cells #[.int .i64 y0, .int .i64 y1, .int .i64 y2] 100)) = W4 at *
        refine (HR.out W4 (ints_below H3.out d.out)).mono ?_
        rintro e w5 ⟨rfl, c3⟩
        replace B1 := Lib.hid ((c3.block (w.heap.size + 1) (Array.getElem?_eq_some_iff.1 B1.out).1).trans B1.out)
        replace B2 := Lib.hid ((c3.block w1.heap.size (Array.getElem?_eq_some_iff.1 B2.out).1).trans B2.out)
        replace B3 := Lib.hid ((c3.block w3.heap.size (Array.getElem?_eq_some_iff.1 B3.out).1).trans B3.out)
        replace HCI := Lib.hid (ci_below HCI.out c3)
        replace d := Lib.hid (d.out.trans (c3.mono d.out.size))
        clear c3
        clear HR
        skip
        go_wp2
        have p_B1_0 := (cell_of_row w5 _ 0 _ _ _ B1.out).trans (show _ = some (Value.int .i64 rid) from rfl)
        have p_B1_1 := (cell_of_row w5 _ 1 _ _ _ B1.out).trans (show _ = some (Value.slice va vs.length vc) from rfl)
        have p_B2_0 := (cell_of_row w5 _ 0 _ _ _ B2.out).trans (show _ = some (Value.int .u32 (m : Int)) from rfl)
        have p_B2_1 := (cell_of_row w5 _ 1 _ _ _ B2.out).trans (show _ = some (Value.slice ta0 ln0 cp0) from rfl)
        have p_B2_2 := (cell_of_row w5 _ 2 _ _ _ B2.out).trans (show _ = some (Value.slice ta1 ln1 cp1) from rfl)
        have p_B2_3 := (cell_of_row w5 _ 3 _ _ _ B2.out).trans (show _ = some (Value.slice ta2 ln2 cp2) from rfl)
        have p_B3_0 := (cell_of_row w5 _ 0 _ _ _ B3.out).trans (show _ = some (Value.int .i64 y0) from rfl)
        have p_B3_1 := (cell_of_row w5 _ 1 _ _ _ B3.out).trans (show _ = some (Value.int .i64 y1) from rfl)
        have p_B3_2 := (cell_of_row w5 _ 2 _ _ _ B3.out).trans (show _ = some (Value.int .i64 y2) from rfl)
        refine wp_region_held_drew (S := fun w' => w'.cell? ⟨(w.heap.size + 1), 0, none⟩ = some (Value.int .i64 rid) ∧ w'.cell? ⟨(w.heap.size + 1), 1, none⟩ = some (Value.slice va vs.length vc) ∧ w'.cell? ⟨w1.heap.size, 0, none⟩ = some (Value.int .u32 (m : Int)) ∧ w'.cell? ⟨w1.heap.size, 1, none⟩ = some (Value.slice ta0 ln0 cp0) ∧ w'.cell? ⟨w1.heap.size, 2, none⟩ = some (Value.slice ta1 ln1 cp1) ∧ w'.cell? ⟨w1.heap.size, 3, none⟩ = some (Value.slice ta2 ln2 cp2) ∧ w'.cell? ⟨w3.heap.size, 0, none⟩ = some (Value.int .i64 y0) ∧ w'.cell? ⟨w3.heap.size, 1, none⟩ = some (Value.int .i64 y1) ∧ w'.cell? ⟨w3.heap.size, 2, none⟩ = some (Value.int .i64 y2)) (by kernel_rfl) ⟨p_B1_0, p_B1_1, p_B2_0, p_B2_1, p_B2_2, p_B2_3, p_B3_0, p_B3_1, p_B3_2⟩ (fun hHeld => ?_)
        clear p_B1_0 p_B1_1 p_B2_0 p_B2_1 p_B2_2 p_B2_3 p_B3_0 p_B3_1 p_B3_2
        have cdr : Below w5.heap.size w5 w5.drew := below_drew (Below.refl _ _)
        replace B1 := Lib.hid ((cdr.block (w.heap.size + 1) (Array.getElem?_eq_some_iff.1 B1.out).1).trans B1.out)
        replace B2 := Lib.hid ((cdr.block w1.heap.size (Array.getElem?_eq_some_iff.1 B2.out).1).trans B2.out)
        replace B3 := Lib.hid ((cdr.block w3.heap.size (Array.getElem?_eq_some_iff.1 B3.out).1).trans B3.out)
        replace HCI := Lib.hid (ci_below HCI.out cdr)
        replace d := Lib.hid (d.out.trans (cdr.mono d.out.size))
        clear cdr
        refine take_runs (i := 0) (v := ?_) (by simp only [List.getElem?_toArray, List.getElem?_cons_succ, List.getElem?_cons_zero]; rfl) (by kernel_rfl) (by kernel_rfl) (by kernel_rfl) rfl (by exact fun _ _ _ h => h) (by rfl) ?_ (by assumption) ?_
        rotate_left
        · intro w hSw; (try dsimp only at hSw); go_simp; try (with_reducible rfl)
        try simp only [Act.put, List.setIfInBounds_toArray, List.set_cons_zero, List.set_cons_succ]
        refine take_runs (i := 1) (v := ?_) (by simp only [List.getElem?_toArray, List.getElem?_cons_succ, List.getElem?_cons_zero]; rfl) (by kernel_rfl) (by kernel_rfl) (by kernel_rfl) rfl (by exact fun _ _ _ h => h) (by rfl) ?_ (by assumption) ?_
        rotate_left
        · intro w hSw; (try dsimp only at hSw); go_simp; try (with_reducible rfl)
        try simp only [Act.put, List.setIfInBounds_toArray, List.set_cons_zero, List.set_cons_succ]
        refine take_runs (i := 2) (v := ?_) (by simp only [List.getElem?_toArray, List.getElem?_cons_succ, List.getElem?_cons_zero]; rfl) (by kernel_rfl) (by kernel_rfl) (by kernel_rfl) rfl (by exact fun _ _ _ h => h) (by rfl) ?_ (by assumption) ?_
        rotate_left
        · intro w hSw; (try dsimp only at hSw); go_simp; try (with_reducible rfl)
        try simp only [Act.put, List.setIfInBounds_toArray, List.set_cons_zero, List.set_cons_succ]
        refine take_runs (i := 4) (v := ?_) (by simp only [List.getElem?_toArray, List.getElem?_cons_succ, List.getElem?_cons_zero]; rfl) (by kernel_rfl) (by kernel_rfl) (by kernel_rfl) rfl (by exact fun _ _ _ h => h) (by rfl) ?_ (by assumption) ?_
        rotate_left
        · intro w hSw; (try dsimp only at hSw); go_simp; try (with_reducible rfl)
        try simp only [Act.put, List.setIfInBounds_toArray, List.set_cons_zero, List.set_cons_succ]
        refine wpAnyH_ready (rs := [3]) (by kernel_rfl) (by simp) ?_
        refine (AllReadyH.cons (o := _) (by simp only [List.getElem?_toArray, List.getElem?_cons_succ, List.getElem?_cons_zero]; rfl) (fun K hK => ?_) AllReadyH.nil)
        go_simp
        refine (implSetsOf m (.slice ta0 ln0 cp0) (.slice ta1 ln1 cp1) (.slice ta2 ln2 cp2) fs rid (.slice va vs.length vc) vs (w5.drew) (HCI.out) (ints_below H3.out d.out) HZ.out HF3.out HV3.out).mono ?_
        rintro e w6 ⟨rfl, c6⟩
        replace B1 := Lib.hid ((c6.block (w.heap.size + 1) (Array.getElem?_eq_some_iff.1 B1.out).1).trans B1.out)
        replace B2 := Lib.hid ((c6.block w1.heap.size (Array.getElem?_eq_some_iff.1 B2.out).1).trans B2.out)
        replace B3 := Lib.hid ((c6.block w3.heap.size (Array.getElem?_eq_some_iff.1 B3.out).1).trans B3.out)
        replace HCI := Lib.hid (ci_below HCI.out c6)
        replace d := Lib.hid (d.out.trans (c6.mono d.out.size))
        clear c6
        have HM0 := Lib.hid (setM_lt fs vs 0); have HM1 := Lib.hid (setM_lt fs vs 1); have HM2 := Lib.hid (setM_lt fs vs 2)
        generalize setM fs vs 0 = a0 at *
        generalize setM fs vs 1 = a1 at *
        generalize setM fs vs 2 = a2 at *
        have p_B1_0 := (cell_of_row w6 _ 0 _ _ _ B1.out).trans (show _ = some (Value.int .i64 rid) from rfl)
        have p_B1_1 := (cell_of_row w6 _ 1 _ _ _ B1.out).trans (show _ = some (Value.slice va vs.length vc) from rfl)
        have p_B2_0 := (cell_of_row w6 _ 0 _ _ _ B2.out).trans (show _ = some (Value.int .u32 (m : Int)) from rfl)
        have p_B2_1 := (cell_of_row w6 _ 1 _ _ _ B2.out).trans (show _ = some (Value.slice ta0 ln0 cp0) from rfl)
        have p_B2_2 := (cell_of_row w6 _ 2 _ _ _ B2.out).trans (show _ = some (Value.slice ta1 ln1 cp1) from rfl)
        have p_B2_3 := (cell_of_row w6 _ 3 _ _ _ B2.out).trans (show _ = some (Value.slice ta2 ln2 cp2) from rfl)
        have p_B3_0 := (cell_of_row w6 _ 0 _ _ _ B3.out).trans (show _ = some (Value.int .i64 y0) from rfl)
        have p_B3_1 := (cell_of_row w6 _ 1 _ _ _ B3.out).trans (show _ = some (Value.int .i64 y1) from rfl)
        have p_B3_2 := (cell_of_row w6 _ 2 _ _ _ B3.out).trans (show _ = some (Value.int .i64 y2) from rfl)
        refine hK.out _ _ ⟨p_B1_0, p_B1_1, p_B2_0, p_B2_1, p_B2_2, p_B2_3, p_B3_0, p_B3_1, p_B3_2⟩ (fun hHeld => ?_)
        clear p_B1_0 p_B1_1 p_B2_0 p_B2_1 p_B2_2 p_B2_3 p_B3_0 p_B3_1 p_B3_2
        clear hK K
        try simp only [Act.put, List.setIfInBounds_toArray, List.set_cons_zero, List.set_cons_succ]
        refine wpAnyH_ready (rs := [5]) (by kernel_rfl) (by simp) ?_
        refine (AllReadyH.cons (o := _) (by simp only [List.getElem?_toArray, List.getElem?_cons_succ, List.getElem?_cons_zero]; rfl) (fun K hK => ?_) AllReadyH.nil)
        go_simp
        refine (implProbe m (.slice ta0 ln0 cp0) (.slice ta1 ln1 cp1) (.slice ta2 ln2 cp2) a0 a1 a2 y0 y1 y2 w6 HMX.out HM0.out HM1.out HM2.out HX0.out HX1.out HX2.out).mono ?_
        rintro e w7 ⟨rfl, c7⟩
        replace B1 := Lib.hid ((c7.block (w.heap.size + 1) (Array.getElem?_eq_some_iff.1 B1.out).1).trans B1.out)
        replace B2 := Lib.hid ((c7.block w1.heap.size (Array.getElem?_eq_some_iff.1 B2.out).1).trans B2.out)
        replace B3 := Lib.hid ((c7.block w3.heap.size (Array.getElem?_eq_some_iff.1 B3.out).1).trans B3.out)
        replace HCI := Lib.hid (ci_below HCI.out c7)
        replace d := Lib.hid (d.out.trans (c7.mono d.out.size))
        clear c7
        have HPR := Lib.hid (probeM_range (pick3 a0 a1 a2) [y0, y1, y2] m 0 HMX.out)
        generalize probeM (pick3 a0 a1 a2) [y0, y1, y2] m 0 = R at *
        have p_B1_0 := (cell_of_row w7 _ 0 _ _ _ B1.out).trans (show _ = some (Value.int .i64 rid) from rfl)
        have p_B1_1 := (cell_of_row w7 _ 1 _ _ _ B1.out).trans (show _ = some (Value.slice va vs.length vc) from rfl)
        have p_B2_0 := (cell_of_row w7 _ 0 _ _ _ B2.out).trans (show _ = some (Value.int .u32 (m : Int)) from rfl)
        have p_B2_1 := (cell_of_row w7 _ 1 _ _ _ B2.out).trans (show _ = some (Value.slice ta0 ln0 cp0) from rfl)
        have p_B2_2 := (cell_of_row w7 _ 2 _ _ _ B2.out).trans (show _ = some (Value.slice ta1 ln1 cp1) from rfl)
        have p_B2_3 := (cell_of_row w7 _ 3 _ _ _ B2.out).trans (show _ = some (Value.slice ta2 ln2 cp2) from rfl)
        have p_B3_0 := (cell_of_row w7 _ 0 _ _ _ B3.out).trans (show _ = some (Value.int .i64 y0) from rfl)
        have p_B3_1 := (cell_of_row w7 _ 1 _ _ _ B3.out).trans (show _ = some (Value.int .i64 y1) from rfl)
        have p_B3_2 := (cell_of_row w7 _ 2 _ _ _ B3.out).trans (show _ = some (Value.int .i64 y2) from rfl)
        refine hK.out _ _ ⟨p_B1_0, p_B1_1, p_B2_0, p_B2_1, p_B2_2, p_B2_3, p_B3_0, p_B3_1, p_B3_2⟩ (fun hHeld => ?_)
        clear p_B1_0 p_B1_1 p_B2_0 p_B2_1 p_B2_2 p_B2_3 p_B3_0 p_B3_1 p_B3_2
        clear hK K
        try simp only [Act.put, List.setIfInBounds_toArray, List.set_cons_zero, List.set_cons_succ]
        refine take_runs (i := 6) (v := ?_) (by simp only [List.getElem?_toArray, List.getElem?_cons_succ, List.getElem?_cons_zero]; rfl) (by kernel_rfl) (by kernel_rfl) (by kernel_rfl) rfl (by exact fun _ _ _ h => h) (by rfl) ?_ (by assumption) ?_
        rotate_left
        · intro w hSw; (try dsimp only at hSw); go_simp; try (with_reducible rfl)
        try simp only [Act.put, List.setIfInBounds_toArray, List.set_cons_zero, List.set_cons_succ]
        refine take_runs (i := 7) (v := ?_) (by simp only [List.getElem?_toArray, List.getElem?_cons_succ, List.getElem?_cons_zero]; rfl) (by kernel_rfl) (by kernel_rfl) (by kernel_rfl) rfl (by exact fun _ _ _ h => h) (by rfl) ?_ (by assumption) ?_
        rotate_left
        · intro w hSw; (try dsimp only at hSw); go_simp; try (with_reducible rfl)
        try simp only [Act.put, List.setIfInBounds_toArray, List.set_cons_zero, List.set_cons_succ]
        refine take_runs (i := 8) (v := ?_) (by simp only [List.getElem?_toArray, List.getElem?_cons_succ, List.getElem?_cons_zero]; rfl) (by kernel_rfl) (by kernel_rfl) (by kernel_rfl) rfl (by exact fun _ _ _ h => h) (by rfl) ?_ (by assumption) ?_
        rotate_left
        · intro w hSw; (try dsimp only at hSw); go_simp; try (with_reducible rfl)
        try simp only [Act.put, List.setIfInBounds_toArray, List.set_cons_zero, List.set_cons_succ]
        refine take_runs (i := 9) (v := ?_) (by simp only [List.getElem?_toArray, List.getElem?_cons_succ, List.getElem?_cons_zero]; rfl) (by kernel_rfl) (by kernel_rfl) (by kernel_rfl) rfl (by exact fun _ _ _ h => h) (by rfl) ?_ (by assumption) ?_
        rotate_left
        · intro w hSw; (try dsimp only at hSw); go_simp; try (with_reducible rfl)
        try simp only [Act.put, List.setIfInBounds_toArray, List.set_cons_zero, List.set_cons_succ]
        refine take_runs (i := 10) (v := ?_) (by simp only [List.getElem?_toArray, List.getElem?_cons_succ, List.getElem?_cons_zero]; rfl) (by kernel_rfl) (by kernel_rfl) (by kernel_rfl) rfl (by exact fun _ _ _ h => h) (by rfl) ?_ (by assumption) ?_
        rotate_left
        · intro w hSw; (try dsimp only at hSw); go_simp; try (with_reducible rfl)
        try simp only [Act.put, List.setIfInBounds_toArray, List.set_cons_zero, List.set_cons_succ]
        refine wpAnyH_done (by kernel_rfl) ?_ _
        clear hHeld
        go_wp2_with fail
        refine (implMembers R.1 w7 HPR.out.1).mono ?_
        rintro e w8 ⟨u, rfl, ou, c8⟩
        have ou2 := ownsN_up ou d.out.size
        have d8 := d.out.trans (c8.mono d.out.size)
        rw [HP.out.1] at ou2
        have HP2 := Lib.hid HP.out.2
        clear ou c8 HP
        go_wp2
        go_ret2
        exact ⟨u, by first | (rw [← HP2.out]; done) | (rw [← HP2.out]; rfl), ou2, d8⟩
    · have HE : Hid (probeB qs fs (rid, vs) os = ([], 0)) := Lib.hid (probeB_no (by rw [ho, Bool.and_false, Bool.and_false]))
      clear ho B1 B2
      have D := Lib.hid (d.out.alloc d.out.size (.cells #[.int .i64 0, .int .i64 0, .int .i64 0] 100))
      go_wp2
      go_ret2
      exact ⟨.slice none 0 0, by first | (rw [HE.out]; done) | (rw [HE.out]; rfl), by rw [HE.out]; exact ownsN_nil _ _, D.out⟩
end Go.Proofs.YtidhmgboknffkaaDoor
namespace Go.Proofs.YtidhmgboknffkaaDoor
open Go.RowKit
set_option linter.unusedVariables false
set_option linter.unusedSimpArgs false
set_option maxHeartbeats 16000000 in
set_option maxRecDepth 100000 in
theorem implMatchSet (qv fv vv : Value) (qs : List QD) (fs : List (List SpanD)) (rid : Int) (vs : List Int) (w : World) (h1 : SlR tQuery w qv qs) (h2 : SlR tSpanS w fv fs) (h3 : Ints w vv vs) (hs : zL tQuery qs ≤ 1048576) (hz : zL tSpanS fs ≤ 1048576) (hv : vs.length ≤ 1048576) (ht : OrdT w) :
    Calls Tryd.prog 15 #[.agg #[qv, fv], .agg #[.int .i64 rid, vv]] w (FreshInts w (probeB qs fs (rid, vs) [0, 1, 2]).1) := by
  have hlen := zL_len hs
  have HS := Lib.hid hs
  have HZ := Lib.hid hz
  have hvl : vs.length ≤ 1048576 := hv
  obtain ⟨qa, qc, rfl⟩ := slR_len h1
  obtain ⟨fa, fc, rfl⟩ := slR_len h2
  obtain ⟨va, vc, rfl⟩ := ints_len h3
  have d := Lib.hid (((Below.refl w.heap.size w).alloc (Nat.le_refl _) (.cells #[.slice qa qs.length qc, .slice fa fs.length fc] 27)).alloc (by simp) (.cells #[.int .i64 rid, .slice va vs.length vc] 30))
  have B0 : Hid (((w.alloc (.cells #[.slice qa qs.length qc, .slice fa fs.length fc] 27)).alloc (.cells #[.int .i64 rid, .slice va vs.length vc] 30)).heap[w.heap.size]? = some (.cells #[.slice qa qs.length qc, .slice fa fs.length fc] 27 (0, 0))) := Lib.hid (by rw [Below.heap_alloc _ _ _ (by simp)]; exact heap_alloc_new w _)
  have B1 : Hid (((w.alloc (.cells #[.slice qa qs.length qc, .slice fa fs.length fc] 27)).alloc (.cells #[.int .i64 rid, .slice va vs.length vc] 30)).heap[(w.heap.size + 1)]? = some (.cells #[.int .i64 rid, .slice va vs.length vc] 30 (0, 0))) := Lib.hid (by
    have := heap_alloc_new (w.alloc (.cells #[.slice qa qs.length qc, .slice fa fs.length fc] 27)) (.cells #[.int .i64 rid, .slice va vs.length vc] 30)
    simpa only [World.size_alloc] using this)
  have HT := Lib.hid ht
  have H1 := Lib.hid h1; have H2 := Lib.hid h2; have H3 := Lib.hid h3
  clear h1 h2 h3 hs hz
  have HW : Hid (((w.alloc (.cells #[.slice qa qs.length qc, .slice fa fs.length fc] 27)).alloc (.cells #[.int .i64 rid, .slice va vs.length vc] 30)).heap.size = w.heap.size + 1 + 1) := Lib.hid (by simp)
  go_enter Tryd.func15, Tryd.ntmps15
  go_wp2_with fail
  generalize ((w.alloc (.cells #[.slice qa qs.length qc, .slice fa fs.length fc] 27)).alloc (.cells #[.int .i64 rid, .slice va vs.length vc] 30)) = W at *
  have hal : Below W.heap.size W (W.alloc (.cells #[.int .i64 0, .int .i64 1, .int .i64 2] 3)) := (Below.refl _ _).alloc (Nat.le_refl _) _
  have oi : Ints (W.alloc (.cells #[.int .i64 0, .int .i64 1, .int .i64 2] 3)) (.slice (some ⟨w.heap.size + 1 + 1, 0, none⟩) 3 3) [0, 1, 2] := by
    rw [← HW.out]
    exact ownsN_ints (ownsN_lit W W.heap.size (Nat.le_refl _) #[.int .i64 0, .int .i64 1, .int .i64 2] 3 [0, 1, 2] rfl rfl (by decide))
  have d2 := Lib.hid (d.out.trans (hal.mono d.out.size))
  refine (implProbeSet (.slice qa qs.length qc) (.slice fa fs.length fc) (.slice va vs.length vc) _ qs fs rid vs [0, 1, 2] _ (slR_below tQuery_law H1.out d2.out) (slR_below tSpanS_law H2.out d2.out) (ints_below H3.out d2.out) oi HS.out HZ.out hv (by decide) (HT.out.on d2.out)).mono ?_
  rintro e w4 ⟨u, rfl, ou, c4⟩
  have ou2 := Lib.hid (ownsN_up ou d2.out.size)
  have d4 := Lib.hid (d2.out.trans (c4.mono d2.out.size))
  clear ou c4 oi hal
  go_wp2
  go_ret
  exact ⟨u, rfl, ou2.out, d4.out⟩
end Go.Proofs.YtidhmgboknffkaaDoor
namespace Go.Proofs.YtidhmgboknffkaaDoor
open Go.Maps
set_option linter.unusedVariables false
set_option linter.unusedSimpArgs false
def numD : DataW Unit → Int
  | .lit (.int _ n) => n
  | _ => 0
theorem numD_int (q : IntKind) (n : Int) : numD (.lit (.int q n)) = n := rfl
/-- How often the key stands in the list. -/
def cntK (L : List Lit) (k : Lit) : Nat := L.countP fun x => x.sameKey k
theorem cntK_snoc (L : List Lit) (x k : Lit) : cntK (L ++ [x]) k = cntK L k + (if x.sameKey k = true then 1 else 0) := by
  unfold cntK
  rw [List.countP_append]
  simp [List.countP_cons]
theorem cntK_le (L : List Lit) (k : Lit) : cntK L k ≤ L.length := List.countP_le_length
structure CountsD (D : DataW Unit) (L : List Lit) : Prop where
  isMap : IsMap D
  key : ∀ k ∈ L, WideAt.IsKeyLit k
  here : ∀ k ∈ L, Maps.has D k = true
  only : ∀ k, Maps.has D k = true → k ∈ L
  at_ : ∀ k, WideAt.IsKeyLit k → numD (D.atKey k (.lit (.int .i64 0))) = (cntK L k : Int)
theorem countsD_start : CountsD (.map []) [] where
  isMap := isMap_empty
  key := fun k h => absurd h List.not_mem_nil
  here := fun k h => absurd h List.not_mem_nil
  only := fun k h => by cases h
  at_ := fun k _ => rfl
theorem countsD_step {D : DataW Unit} {L : List Lit} {kl : Lit} {c : Int} (h : CountsD D L) (hk : WideAt.IsKeyLit kl) (hat : D.atKey kl (.lit (.int .i64 0)) = .lit (.int .i64 c)) :
    CountsD (D.put kl (.lit (.int .i64 (c + 1)))) (L ++ [kl]) where
  isMap := h.isMap.put kl _
  key := fun k hm => by
    rcases List.mem_append.1 hm with hm | hm
    · exact h.key k hm
    · rw [List.mem_singleton.1 hm]; exact hk
  here := fun k hm => by
    by_cases e : k = kl
    · rw [e]; exact has_put_same h.isMap hk _
    · rw [has_put_other e]
      rcases List.mem_append.1 hm with hm | hm
      · exact h.here k hm
      · exact absurd (List.mem_singleton.1 hm) e
  only := fun k hm => by
    by_cases e : k = kl
    · rw [e]; simp
    · rw [has_put_other e] at hm
      exact List.mem_append_left _ (h.only k hm)
  at_ := fun k hkk => by
    rw [cntK_snoc]
    by_cases e : k = kl
    · subst e
      rw [atKey_put_same h.isMap hk, WideAt.sameKey_self hk]
      have := h.at_ k hk
      rw [hat] at this
      simp only [numD_int] at this ⊢
      simp
      omega
    · rw [atKey_put_other e]
      have : kl.sameKey k = false := sameKey_ne (fun h => e h.symm)
      rw [this, h.at_ k hkk]
      simp
theorem countsD_at {D : DataW Unit} {L : List Lit} {kl : Lit} {c : Int} (h : CountsD D L) (hk : WideAt.IsKeyLit kl) (hat : D.atKey kl (.lit (.int .i64 0)) = .lit (.int .i64 c)) : c = (cntK L kl : Int) := by
  have := h.at_ kl hk
  rw [hat] at this
  exact this
/-- What the keys that are no longer to come add up to. -/
def doneS (g : Lit → Int) (left : Lit → Bool) (L : List Lit) : Int := (L.map fun k => if left k = true then 0 else g k).sum
theorem sum_zero {α : Type} {f : α → Int} : ∀ {L : List α}, (∀ k ∈ L, f k = 0) → (L.map f).sum = 0
  | [], _ => rfl
  | x :: L, h => by
    rw [List.map_cons, List.sum_cons, h x (List.mem_cons_self ..), sum_zero (fun k hk => h k (List.mem_cons_of_mem _ hk))]
    rfl
theorem doneS_start {g : Lit → Int} {left : Lit → Bool} {L : List Lit} (h : ∀ k ∈ L, left k = true) : doneS g left L = 0 :=
  sum_zero (fun k hk => by rw [h k hk]; rfl)
theorem doneS_end {g : Lit → Int} {left : Lit → Bool} {L : List Lit} (h : ∀ k, left k = false) : doneS g left L = (L.map g).sum := by
  unfold doneS
  congr 1
  apply List.map_congr_left
  intro k _
  rw [h k]; rfl
theorem doneS_step {g : Lit → Int} {left : Lit → Bool} {kl : Lit} (hl : left kl = true) : ∀ (L : List Lit), doneS g (fun z => left z && !z.sameKey kl) L = doneS g left L + (cntK L kl : Int) * g kl
  | [] => by simp [doneS, cntK]
  | x :: L => by
    have ih := doneS_step (g := g) hl L
    unfold doneS cntK at ih ⊢
    rw [List.map_cons, List.sum_cons, List.map_cons, List.sum_cons, ih, List.countP_cons]
    cases hx : x.sameKey kl with
    | true =>
      have e := WideAt.sameKey_eq hx
      subst e
      simp only [hl, hx, Bool.not_true, Bool.and_false, if_true, if_false, Bool.false_eq_true]
      rw [show ((List.countP (fun x_1 => x_1.sameKey x) L + 1 : Nat) : Int) = (List.countP (fun x_1 => x_1.sameKey x) L : Int) + 1 from rfl, Int.add_mul, Int.one_mul]
      omega
    | false =>
      simp only [hx, Bool.not_false, Bool.and_true, if_false, Bool.false_eq_true, Nat.add_zero]
      omega
theorem doneS_range {g : Lit → Int} {M : Int} (hg : ∀ k, 0 ≤ g k ∧ g k ≤ M) (left : Lit → Bool) : ∀ (L : List Lit), 0 ≤ doneS g left L ∧ doneS g left L ≤ (L.length : Int) * M
  | [] => by simp [doneS]
  | x :: L => by
    have ih := doneS_range hg left L
    have hx := hg x
    unfold doneS at ih ⊢
    rw [List.map_cons, List.sum_cons, List.length_cons]
    rw [show ((L.length + 1 : Nat) : Int) = (L.length : Int) + 1 from rfl, Int.add_mul, Int.one_mul]
    split <;> omega
/-- Three numbers of a kind as a key. -/
theorem keyOf_triple {P : Program} {k e : TypeId} {q : IntKind} (A : WideMaps.ArrKey P k e 3) (he : P.underlying e = some (.int q)) (hsz : ∃ m, P.types.size = m + 1) {a b c : Int} (wa : (Lit.int q a).wf = true) (wb : (Lit.int q b).wf = true) (wc : (Lit.int q c).wf = true) :
    keyOf P k (.agg #[.int q a, .int q b, .int q c]) = some (.string (keyBytes [.int q a, .int q b, .int q c])) := by
  have hkt := A.keyType hsz
  obtain ⟨m, hm⟩ := hsz
  unfold keyOf
  simp only [A.hu]
  rw [if_pos (by simp [hkt, Value.formed, A.hu, A.size]), hm]
  unfold Program.keyLits
  simp only [A.hu, Value.cells]
  rw [if_pos (by rw [A.size]; rfl), show List.range 3 = [0, 1, 2] from rfl, List.mapM_cons, List.mapM_cons, List.mapM_cons, List.mapM_nil]
  simp [A.one, Program.keyLits, he, wa, wb, wc]
end Go.Proofs.YtidhmgboknffkaaDoor
namespace Go.Proofs.YtidhmgboknffkaaDoor
open Go.Maps Go.WideElems Go.ChangeMaps
open Go.WideMaps (KeyLaw)
set_option linter.unusedVariables false
set_option linter.unusedSimpArgs false
theorem setBlock_twice {w : World} {b : Nat} {o o' : Obj} (hb : b < w.heap.size) : setBlock (setBlock w b o) b o' = setBlock w b o' := by
  unfold setBlock
  simp
theorem entry_any {P : Program} {w : World} {t k e : TypeId} {b n : Nat} {D : DataW Unit} (K : KeyLaw P k) (ht : P.underlying t = some (.map k e)) (he : P.underlying e = some (.int .i64)) (hz : ∀ u : World, (zeroValue e).run P u = .ok (.int .i64 0) u)
    (hown : w.ownsMap P k (plainElem P e) b n D) (hn : n + 1 < maxLen) {key : Value} {kl : Lit} (hkey : keyOf P k key = some kl) :
    ∃ (c : Int) (st : Nat) (w1 : World), D.atKey kl (.lit (.int .i64 0)) = .lit (.int .i64 c) ∧ (Lit.int .i64 c).wf = true ∧
      (Instr.lookup t (.map (some b)) key false).run P w = .ok (.int .i64 c) w ∧
      (Instr.mapEntry t (.map (some b)) key).run P w = .ok (.tuple #[.int .i64 c, goInt st]) w1 ∧
      (Instr.lookup t (.map (some b)) key false).run P w1 = .ok (.int .i64 c) w1 ∧ w.grownBy w1 (some b) ∧
      ∀ val, (Lit.int .i64 val).wf = true → ∃ w2, (Instr.entryStore t (.map (some b)) (goInt st) (.int .i64 val)).run P w1 = .ok () w2 ∧ w2.ownsMap P k (plainElem P e) b (n + 1) (D.put kl (.lit (.int .i64 val))) ∧ w1.grownBy w2 (some b) := by
  have K' := Keyed.of_law K
  obtain ⟨c, hlook, hat, hwc⟩ := hown.lookup_int K' ht he (hz w) hkey
  have hown' := hown
  obtain ⟨es, clock, hb, F, hs, hD⟩ := hown
  have hlt : b < w.heap.size := (Array.getElem?_eq_some_iff.1 hb).1
  obtain ⟨v0, st, es1, clock1, hent, hv0, hst⟩ := entry_then_store K ht hz hb F hkey
  -- the number that the entry holds is the one that the look-up sees
  obtain ⟨f1, _⟩ := F.stamped
  have hw1 : (setBlock w b (.map es1 clock1)).heap[b]? = some (.map es1 clock1) := heap_setBlock_same hb _
  have hval : v0 = .int .i64 c ∧ (Instr.lookup t (.map (some b)) key false).run P (setBlock w b (.map es1 clock1)) = .ok (.int .i64 c) (setBlock w b (.map es1 clock1)) := by
    -- storing the very number turns nothing further: so behind the entry the map reads as one that holds it
    rcases K.find w hkey es.toList F.keys with ⟨h1, h2⟩ | ⟨j, e0, h1, h2, h3⟩
    · have hz0 : v0 = .int .i64 0 := by
        rcases hv0 with ⟨e0, hm, hk, _⟩ | ⟨_, e⟩
        · exact absurd hk (h2 e0 hm)
        · exact e
      have hc0 : c = 0 := by
        have := hlook
        simp [Instr.lookup, run_underlying ht, MapKept.run_getObj_map hb, K.check w es.isEmpty hkey, h1, hz, Result.andThen] at this
        exact this.symm
      have hes : es1 = es.push ⟨key, .int .i64 0, clock⟩ := by
        have := hent
        simp [Instr.mapEntry, run_underlying ht, MapKept.run_getObj_map hb, K.check w false hkey, h1, hz, MapKept.run_setObj_map _ hb, Result.andThen] at this
        have h9 := congrArg (fun u : World => u.heap[b]?) this.2
        simp [setBlock, hlt] at h9
        exact h9.1.symm
      refine ⟨by rw [hz0, hc0], ?_⟩
      rcases K.find (setBlock w b (.map es1 clock1)) hkey es1.toList (fun x hx => by
        rw [hes] at hx
        simp at hx
        rcases hx with hx | rfl
        · exact F.keys x (by simpa using hx)
        · exact ⟨kl, hkey⟩) with ⟨g1, g2⟩ | ⟨j, e0, g1, g2, g3⟩
      · exact absurd rfl (g2 ⟨key, .int .i64 0, clock⟩ (by rw [hes]; simp))
      · have he0 : e0.val = .int .i64 0 := by
          have hm := List.mem_of_getElem? g2
          rw [hes] at hm
          simp at hm
          rcases hm with hm | rfl
          · exact absurd g3 (h2 e0 (by simpa using hm))
          · rfl
        rw [hc0]
        simp [Instr.lookup, run_underlying ht, MapKept.run_getObj_map hw1, K.check _ es1.isEmpty hkey, g1, he0, Result.andThen]
    · have hes : setBlock w b (.map es1 clock1) = w ∧ v0 = e0.val := by
        have hj : es[j]? = some e0 := by simpa using h2
        have hsame : es.modify j (fun e => { e with key := key }) = es := by
          apply Array.ext'
          rw [Array.toList_modify, modify_eq_set _ _ _ _ h2]
          have h9 : ({ e0 with key := key } : MapEntry) = e0 := by rw [← h3]
          rw [h9]
          exact set_self _ _ _ h2
        have := hent
        simp [Instr.mapEntry, run_underlying ht, MapKept.run_getObj_map hb, K.check w false hkey, h1, hj, h3, K.stays w hkey, hsame, MapKept.run_setObj_map _ hb, Result.andThen] at this
        refine ⟨?_, this.1.1.symm⟩
        have h7 := this.2
        simp only [setBlock] at h7 ⊢
        rw [← h7]
        have h8 : w.heap[b] = .map es clock := by
          have := Array.getElem?_eq_some_iff.1 hb
          exact this.2
        have : w.heap.setIfInBounds b (.map es clock) = w.heap := by
          apply Array.ext
          · simp
          · intro i hi1 hi2
            rw [Array.getElem_setIfInBounds]
            split
            · rename_i heq; subst heq; exact h8.symm
            · rfl
        rw [this]
      have hc0 : e0.val = .int .i64 c := by
        have := hlook
        simp [Instr.lookup, run_underlying ht, MapKept.run_getObj_map hb, K.check w es.isEmpty hkey, h1, Result.andThen] at this
        exact this
      rw [hes.1]
      exact ⟨by rw [hes.2, hc0], hlook⟩
  refine ⟨c, st, setBlock w b (.map es1 clock1), hat, hwc, hlook, by rw [hent, hval.1], hval.2, ⟨rfl, rfl, rfl, by simp [setBlock], fun i _ hi => heap_setBlock_other hb _ (fun e => hi (by rw [e]))⟩, fun val hwv => ?_⟩
  obtain ⟨es', clock', r1, r2⟩ := hst (setBlock w b (.map es1 clock1)) (.int .i64 val) hw1
  obtain ⟨w9, r3, r4, r5⟩ := hown'.update K' ht (by omega) hkey (plainElem_int he hwv)
  have e9 : w9 = setBlock w b (.map es' clock') := by
    rw [r2] at r3
    injection r3 with _ h
    exact h.symm
  subst e9
  refine ⟨_, r1, ?_, ⟨rfl, rfl, rfl, by simp [setBlock], fun i _ hi => heap_setBlock_other hw1 _ (fun e => hi (by rw [e]))⟩⟩
  rw [setBlock_twice hlt]
  exact r4
end Go.Proofs.YtidhmgboknffkaaDoor
namespace Go.Proofs.YtidhmgboknffkaaDoor
open Go.RowKit
set_option linter.unusedVariables false
set_option linter.unusedSimpArgs false
def tRow : Ty (Int × List Int) := tPair tInt tIntS
theorem tRow_law : tRow.Law := tPair_law tInt_law tIntS_law
theorem tRow_R {w : World} {cs : List Value} {a0 : Int} {x1 : List Int} (h : tRow.R w cs (a0, x1)) : ∃ v1, cs = [.int .i64 a0, v1] ∧ SlR tInt w v1 x1 := by
  obtain ⟨_, _, rfl, rfl, ⟨v1, rfl, h1⟩⟩ := h
  exact ⟨_, rfl, h1⟩
theorem tRow_sz {a0 : Int} {x1 : List Int} : tRow.sz (a0, x1) = zL tInt x1 := by
  simp only [tRow, tPair_sz, tPair_nd, tPair_nv, tInt_sz, tInt_nd, tInt_nv, tSl_sz, tSl_nd, tSl_nv]
  try omega
theorem tRow_O {w : World} {F : Nat → Prop} {cs : List Value} {a0 : Int} {x1 : List Int} (h : tRow.O w F cs (a0, x1)) : ∃ v1, ∃ F1 : Nat → Prop, cs = [.int .i64 a0, v1] ∧ SlO 3 tInt w F1 v1 x1 ∧ (∀ b, F1 b → F b) := by
  obtain ⟨_, _, F0_1, F0_2, rfl, rfl, ⟨v1, rfl, h1⟩, s0_1, s0_2, d0⟩ := h
  exact ⟨v1, F0_2, rfl, h1, fun b h => (s0_2 b h)⟩
theorem tRow_mkO {w : World} {F : Nat → Prop} {a0 : Int} {x1 : List Int} {v1 : Value} {F1 : Nat → Prop} (h1 : SlO 3 tInt w F1 v1 x1) (s1 : ∀ b, F1 b → F b)  : tRow.O w F [.int .i64 a0, v1] (a0, x1) := ⟨[.int .i64 a0], [v1], fun _ => False, F1, rfl, rfl, ⟨_, rfl, h1⟩, (fun b h => (False.elim h)), (fun b h => s1 b h), (fun b h g => (False.elim h))⟩
set_option maxHeartbeats 8000000 in
set_option maxRecDepth 100000 in
theorem szRow_Y (a0 : Int) (v1 : Value) (x1 : List Int) (k0 : Int) (w : World) (h1 : SlR tInt w v1 x1) (hs : ((zL tInt x1 : Nat) : Int) ≤ k0) (hk : k0 ≤ 1048576) :
    Calls Tryd.prog 27 #[.agg #[.int .i64 a0, v1], .int .i64 k0] w fun e w' => e = .returned (.int .i64 (k0 - ((zL tInt x1 : Nat) : Int))) ∧ Below w.heap.size w w' := by
  have H1 := Lib.hid h1
  clear h1
  have HZ1 : Hid (((zL tInt x1 : Nat) : Int) ≤ k0) := Lib.hid (by omega)
  have HK1 : Hid (k0 ≤ 1048576) := Lib.hid (by omega)
  have hn1 : ¬ k0 - ((zL tInt x1 : Nat) : Int) < 0 := by omega
  clear hs hk
  have hb : Below w.heap.size w (w.alloc (.cells #[.int .i64 a0, v1] 57)) := (Below.refl _ w).alloc (Nat.le_refl _) _
  have g0 : (w.alloc (.cells #[.int .i64 a0, v1] 57)).heap[w.heap.size]? = some (.cells #[.int .i64 a0, v1] 57 (0, 0)) := heap_alloc_new w _
  have hz0 : w.heap.size < (w.alloc (.cells #[.int .i64 a0, v1] 57)).heap.size := by simp
  go_enter Tryd.func27, Tryd.ntmps27
  go_wp2_with fail
  generalize (w.alloc (.cells #[.int .i64 a0, v1] 57)) = W at *
  refine (szIntS_Y v1 x1 (k0) W (slR_below tInt_law H1.out hb) HZ1.out HK1.out).mono ?_
  rintro e W1 ⟨rfl, b1⟩
  replace g0 := (b1.block w.heap.size hz0).trans g0
  replace hz0 := Nat.lt_of_lt_of_le hz0 b1.size
  replace hb := hb.trans (b1.mono hb.size)
  clear b1
  go_wp2
  go_ret
  exact ⟨rfl, hb⟩
set_option maxHeartbeats 8000000 in
set_option maxRecDepth 100000 in
theorem szRow_N (a0 : Int) (v1 : Value) (x1 : List Int) (k0 : Int) (w : World) (h1 : SlR tInt w v1 x1) (hs : k0 < ((zL tInt x1 : Nat) : Int)) (hk : k0 ≤ 1048576) (hp : 0 ≤ k0) (o1 : tIntS.ok x1) :
    Calls Tryd.prog 27 #[.agg #[.int .i64 a0, v1], .int .i64 k0] w fun e w' => e = .returned (.int .i64 (-1)) ∧ Below w.heap.size w w' := by
  have H1 := Lib.hid h1
  clear h1
  have HO1 := Lib.hid o1
  clear o1
  have HZ1 : Hid (k0 < ((zL tInt x1 : Nat) : Int)) := Lib.hid (by omega)
  have HP1 : Hid (0 ≤ k0) := Lib.hid (by omega)
  have HK1 : Hid (k0 ≤ 1048576) := Lib.hid (by omega)
  clear hs hk
  clear hp
  have hb : Below w.heap.size w (w.alloc (.cells #[.int .i64 a0, v1] 57)) := (Below.refl _ w).alloc (Nat.le_refl _) _
  have g0 : (w.alloc (.cells #[.int .i64 a0, v1] 57)).heap[w.heap.size]? = some (.cells #[.int .i64 a0, v1] 57 (0, 0)) := heap_alloc_new w _
  have hz0 : w.heap.size < (w.alloc (.cells #[.int .i64 a0, v1] 57)).heap.size := by simp
  go_enter Tryd.func27, Tryd.ntmps27
  go_wp2_with fail
  generalize (w.alloc (.cells #[.int .i64 a0, v1] 57)) = W at *
  refine (szIntS_N v1 x1 (k0) W (slR_below tInt_law H1.out hb) HZ1.out HK1.out HP1.out HO1.out).mono ?_
  rintro e W1 ⟨rfl, b1⟩
  replace g0 := (b1.block w.heap.size hz0).trans g0
  replace hz0 := Nat.lt_of_lt_of_le hz0 b1.size
  replace hb := hb.trans (b1.mono hb.size)
  clear b1
  go_wp2
  go_ret
  exact ⟨rfl, hb⟩
set_option maxHeartbeats 8000000 in
set_option maxRecDepth 100000 in
theorem toRow_T (a0 : Int) (v1 : Value) (x1 : List Int) (w : World) (h1 : SlR tInt w v1 x1) (s1 : zL tInt x1 ≤ 1048576) :
    Calls Tryd.prog 30 #[.agg #[.int .i64 a0, v1]] w (FreshT tRow (fun cs => .agg cs.toArray) w (a0, x1)) := by
  have H1 := Lib.hid h1
  clear h1
  have S1 := Lib.hid s1
  clear s1
  go_enter Tryd.func30, Tryd.ntmps30
  go_wp2_with fail
  have hb : Below w.heap.size w (((w.alloc (.cells #[.int .i64 a0, v1] 57)).alloc (.cells #[.int .i64 0, .slice none 0 0] 30)).alloc (.cells #[.int .i64 a0, .slice none 0 0] 30)) := (((Below.refl _ w).alloc (Nat.le_refl _) _).alloc (by simp) _).alloc (by simp; omega) _
  have g2 : (((w.alloc (.cells #[.int .i64 a0, v1] 57)).alloc (.cells #[.int .i64 0, .slice none 0 0] 30)).alloc (.cells #[.int .i64 a0, .slice none 0 0] 30)).heap[w.heap.size + 1 + 1]? = some (.cells #[.int .i64 a0, .slice none 0 0] 30 (0, 0)) := by
    have := heap_alloc_new ((w.alloc (.cells #[.int .i64 a0, v1] 57)).alloc (.cells #[.int .i64 0, .slice none 0 0] 30)) (.cells #[.int .i64 a0, .slice none 0 0] 30)
    simpa only [World.size_alloc] using this
  have g1 : (((w.alloc (.cells #[.int .i64 a0, v1] 57)).alloc (.cells #[.int .i64 0, .slice none 0 0] 30)).alloc (.cells #[.int .i64 a0, .slice none 0 0] 30)).heap[w.heap.size + 1]? = some (.cells #[.int .i64 0, .slice none 0 0] 30 (0, 0)) := by
    have := heap_alloc_new (w.alloc (.cells #[.int .i64 a0, v1] 57)) (.cells #[.int .i64 0, .slice none 0 0] 30)
    rw [Below.heap_alloc _ _ _ (by simp)]
    simpa only [World.size_alloc] using this
  have g0 : (((w.alloc (.cells #[.int .i64 a0, v1] 57)).alloc (.cells #[.int .i64 0, .slice none 0 0] 30)).alloc (.cells #[.int .i64 a0, .slice none 0 0] 30)).heap[w.heap.size]? = some (.cells #[.int .i64 a0, v1] 57 (0, 0)) := by
    rw [Below.heap_alloc _ _ _ (by simp; omega), Below.heap_alloc _ _ _ (by simp)]
    exact heap_alloc_new w _
  have hz : w.heap.size + 2 < (((w.alloc (.cells #[.int .i64 a0, v1] 57)).alloc (.cells #[.int .i64 0, .slice none 0 0] 30)).alloc (.cells #[.int .i64 a0, .slice none 0 0] 30)).heap.size := by simp [World.size_alloc]
  generalize (((w.alloc (.cells #[.int .i64 a0, v1] 57)).alloc (.cells #[.int .i64 0, .slice none 0 0] 30)).alloc (.cells #[.int .i64 a0, .slice none 0 0] 30)) = W at *
  refine (toIntS_S v1 x1 W (slR_below tInt_law H1.out hb) S1.out).mono ?_
  rintro e w1 ⟨u1, rfl, o1, b1⟩
  obtain ⟨ua1, uc1, rfl⟩ := slO_len o1
  replace o1 := slO_mono (slO_lt tInt_law o1) (F' := fun b => W.heap.size ≤ b ∧ b < w1.heap.size) (fun b h => h)
  replace g0 := (b1.block _ (by omega)).trans g0
  replace g1 := (b1.block _ (by omega)).trans g1
  replace g2 := (b1.block _ (by omega)).trans g2
  have zz1 := b1.size
  replace hb := hb.trans (b1.mono (by omega))
  clear b1
  have c2_0 := (cell_of_row w1 _ 0 _ _ _ g2).trans (show _ = some (Value.int .i64 a0) from rfl)
  have f2_0 := frozen_of_row w1 _ 0 _ _ g2
  have c2_1 := (cell_of_row w1 _ 1 _ _ _ g2).trans (show _ = some (Value.slice none 0 0) from rfl)
  have f2_1 := frozen_of_row w1 _ 1 _ _ g2
  have ne1 : ¬ w.heap.size = w.heap.size + 1 + 1 := by omega
  have ne2 : ¬ w.heap.size + 1 = w.heap.size + 1 + 1 := by omega
  have ne3 : ¬ w.heap.size + 1 + 1 = w.heap.size + 1 := by omega
  have c1_0 := (cell_of_row w1 _ 0 _ _ _ g1).trans (show _ = some (Value.int .i64 0) from rfl)
  have f1_0 := frozen_of_row w1 _ 0 _ _ g1
  have c1_1 := (cell_of_row w1 _ 1 _ _ _ g1).trans (show _ = some (Value.slice none 0 0) from rfl)
  have f1_1 := frozen_of_row w1 _ 1 _ _ g1
  go_wp2
  clear c2_0 f2_0 c2_1 f2_1 ne1 ne2 ne3 c1_0 f1_0 c1_1 f1_1
  have hw : Turn (fun b => b = w.heap.size + 1 ∨ b = w.heap.size + 1 + 1) w1 (((w1.setCell ⟨w.heap.size + 1 + 1, 1, none⟩ (.slice ua1 x1.length uc1)).setCell ⟨w.heap.size + 1, 0, none⟩ (.int .i64 a0)).setCell ⟨w.heap.size + 1, 1, none⟩ (.slice ua1 x1.length uc1)) := by
    first | exact ((((Turn.refl _ _).trans (turn_set (g := w.heap.size + 1 + 1) (j := 1) (u := .slice ua1 x1.length uc1) (Or.inr rfl))).trans (turn_set (g := w.heap.size + 1) (j := 0) (u := .int .i64 a0) (Or.inl rfl))).trans (turn_set (g := w.heap.size + 1) (j := 1) (u := .slice ua1 x1.length uc1) (Or.inl rfl))) | skip
  have r := (heap_setCell_same _ (w.heap.size + 1) 1 _ _ (.slice ua1 x1.length uc1) (heap_setCell_same _ (w.heap.size + 1) 0 _ _ (.int .i64 a0) ((heap_setCell_other _ ⟨w.heap.size + 1 + 1, 1, none⟩ (w.heap.size + 1) (.slice ua1 x1.length uc1) (by simp)).trans g1)))
  have e0 := cell_of_row _ _ 0 _ _ _ r
  have e1 := cell_of_row _ _ 1 _ _ _ r
  simp at e0 e1
  replace o1 := slO_turn tInt_law o1 hw (fun b h1 h2 => by have := h1.1; omega)
  replace hb := below_turn hb hw (fun b h => by omega) (by omega)
  refine bodyPost_ret (v := .agg #[.int .i64 a0, .slice ua1 x1.length uc1]) ?_ rfl ?_
  · simp [results, Tryd.f30, go_sem, e0, e1]
  · exact ⟨[.int .i64 a0, .slice ua1 x1.length uc1], rfl, tRow_mkO o1 (fun b h => by show w.heap.size ≤ b; have := h.1; omega) , hb⟩
set_option maxHeartbeats 8000000 in
set_option maxRecDepth 100000 in
theorem eqRow_T (a0 : Int) (v1 : Value) (x1 : List Int) (u1 : Value) (w : World) (h1 : SlR tInt w v1 x1) (g1 : SlR tInt w u1 x1) (s1 : zL tInt x1 ≤ 1048576) :
    Calls Tryd.prog 33 #[.agg #[.int .i64 a0, v1], .agg #[.int .i64 a0, u1]] w fun e w' => e = .returned (.bool true) ∧ Below w.heap.size w w' := by
  have H1 := Lib.hid h1; have G1 := Lib.hid g1; have S1 := Lib.hid s1
  clear h1 g1 s1
  have e0 : (a0 != a0) = false := by simp
  go_enter Tryd.func33, Tryd.ntmps33
  go_wp2_with fail
  have hb : Below w.heap.size w ((w.alloc (.cells #[.int .i64 a0, v1] 30)).alloc (.cells #[.int .i64 a0, u1] 30)) := ((Below.refl _ w).alloc (Nat.le_refl _) _).alloc (by simp) _
  have g1 : ((w.alloc (.cells #[.int .i64 a0, v1] 30)).alloc (.cells #[.int .i64 a0, u1] 30)).heap[w.heap.size + 1]? = some (.cells #[.int .i64 a0, u1] 30 (0, 0)) := by
    have := heap_alloc_new (w.alloc (.cells #[.int .i64 a0, v1] 30)) (.cells #[.int .i64 a0, u1] 30)
    simpa only [World.size_alloc] using this
  have g0 : ((w.alloc (.cells #[.int .i64 a0, v1] 30)).alloc (.cells #[.int .i64 a0, u1] 30)).heap[w.heap.size]? = some (.cells #[.int .i64 a0, v1] 30 (0, 0)) := by
    rw [Below.heap_alloc _ _ _ (by simp)]
    exact heap_alloc_new w _
  have hz : w.heap.size + 1 < ((w.alloc (.cells #[.int .i64 a0, v1] 30)).alloc (.cells #[.int .i64 a0, u1] 30)).heap.size := by simp [World.size_alloc]
  generalize ((w.alloc (.cells #[.int .i64 a0, v1] 30)).alloc (.cells #[.int .i64 a0, u1] 30)) = W at *
  refine (eqIntS_S v1 u1 x1 W (slR_below tInt_law H1.out hb) (slR_below tInt_law G1.out hb) S1.out).mono ?_
  rintro e w1 ⟨rfl, b1⟩
  replace g0 := (b1.block _ (by omega)).trans g0
  replace g1 := (b1.block _ (by omega)).trans g1
  have zz0 := b1.size
  replace hb := hb.trans (b1.mono (by omega))
  clear b1
  go_wp2
  go_ret
  exact ⟨rfl, hb⟩
set_option maxHeartbeats 8000000 in
set_option maxRecDepth 100000 in
theorem markRow_T (a0 : Int) (v1 : Value) (x1 : List Int) (F F1 : Nat → Prop) (k : Int) (w : World) (h1 : SlO 3 tInt w F1 v1 x1) (q1 : ∀ b, F1 b → F b)  (s1 : zL tInt x1 ≤ 1048576) (k0 : 0 ≤ k) (k1 : k ≤ 536870912) :
    Calls Tryd.prog 35 #[.agg #[.int .i64 a0, v1], .int .i64 k] w fun e w' => e = .returned (.int .i64 (k + (ndL tInt x1 : Int))) ∧ (SlO 3 tInt w' F1 v1 (mAll tInt x1 (k))) ∧ Turn F w w' := by
  have S1 := Lib.hid s1
  have N1 := ndL_le tInt_law (by decide) x1
  have R1 : Hid (0 ≤ k ∧ k ≤ 1073741824) := Lib.hid (by omega)
  have RE : Hid (0 ≤ k + (ndL tInt x1 : Int)) := Lib.hid (by omega)
  clear N1
  have O1 := Lib.hid (slO_lt tInt_law h1)
  clear h1 s1
  go_enter Tryd.func35, Tryd.ntmps35
  go_wp2_with fail
  have hb : Below w.heap.size w (w.alloc (.cells #[.int .i64 a0, v1] 30)) := (Below.refl _ w).alloc (Nat.le_refl _) _
  have g0 : (w.alloc (.cells #[.int .i64 a0, v1] 30)).heap[w.heap.size]? = some (.cells #[.int .i64 a0, v1] 30 (0, 0)) := heap_alloc_new w _
  have hz : w.heap.size < (w.alloc (.cells #[.int .i64 a0, v1] 30)).heap.size := by simp [World.size_alloc]
  have ht : Turn F w (w.alloc (.cells #[.int .i64 a0, v1] 30)) := turn_below hb
  replace O1 := Lib.hid (slO_fresh tInt_law O1.out hb)
  generalize (w.alloc (.cells #[.int .i64 a0, v1] 30)) = W at *
  refine (markIntS_S v1 x1 _ (k) W O1.out S1.out R1.out.1 R1.out.2).mono ?_
  rintro e w1 ⟨rfl, m1, t1⟩
  replace g0 := (t1.block _ hz (fun h => absurd h.2 (Nat.lt_irrefl _))).trans g0
  have zz0 := t1.size
  replace hz := Nat.lt_of_lt_of_le hz t1.size
  replace ht := ht.trans (t1.mono (fun b h => q1 b h.1))
  replace O1 := Lib.hid m1
  clear m1 t1
  go_wp2
  go_ret
  exact ⟨rfl, slO_mono O1.out (fun b h => h.1), ht⟩
end Go.Proofs.YtidhmgboknffkaaDoor
namespace Go.Proofs.YtidhmgboknffkaaDoor
open Go.RowKit
set_option linter.unusedVariables false
set_option linter.unusedSimpArgs false
abbrev tRowS : Ty (List (Int × List Int)) := tSl 30 tRow
set_option maxHeartbeats 8000000 in
set_option maxRecDepth 100000 in
theorem szRowS_Y (v : Value) (xs : List (Int × List Int)) (k0 : Int) (w : World) (h : SlR tRow w v xs) (hs : ((zL tRow xs : Nat) : Int) ≤ k0) (hk : k0 ≤ 1048576) :
    Calls Tryd.prog 39 #[v, .int .i64 k0] w fun e w' => e = .returned (.int .i64 (k0 - ((zL tRow xs : Nat) : Int))) ∧ Below w.heap.size w w' := by
  have H := Lib.hid h
  obtain ⟨a, cap, rfl⟩ := slR_len h
  clear h
  have h00 := zTo_le (T := tRow) (xs := xs) (Nat.zero_le _)
  rw [zTo_zero] at h00
  have HS := Lib.hid hs
  go_enter Tryd.func39, Tryd.ntmps39
  have hneg : ¬ k0 - (xs.length : Int) < 0 := by omega
  go_wp2
  clear hneg
  go_loopw [1, 5] (fun l i wr => ∃ k : Nat, k ≤ xs.length ∧ i = .int .i64 k ∧ l = .int .i64 (k0 - (zTo tRow xs k : Int)) ∧ Below w.heap.size w wr) (fun _ i _ => xs.length - (intOf i).toNat)
  case atStart => exact ⟨0, Nat.zero_le _, rfl, by rw [zTo_zero], Below.refl _ _⟩
  case round =>
    obtain ⟨k, hk', rfl, rfl, hbel⟩ := hrel
    by_cases hlt : k < xs.length
    · have HST := Lib.hid (zTo_step (T := tRow) hlt)
      have HLE := Lib.hid (zTo_le (T := tRow) (xs := xs) (k := k + 1) (by omega))
      have i1 : (0 : Int) ≤ (k : Int) := by omega
      have i2 : (k : Int) < (xs.length : Int) := by omega
      obtain ⟨b, off, cap', cs, hv, hbl, hcs, hR⟩ := slR_at (slR_below tRow_law H.out hbel) hlt
      simp only [Value.slice.injEq] at hv
      obtain ⟨rfl, _, rfl⟩ := hv
      generalize xs.getD k tRow.d = x at *
      obtain ⟨a0, x1⟩ := x
      obtain ⟨v1, hR'⟩ := tRow_R hR
      obtain ⟨rfl, h1⟩ := hR'
      have p0 : wr.cell? ⟨b, off + k * 2, none⟩ = some (Value.int .i64 a0) := hcs 0 (by decide)
      have p1 : wr.cell? ⟨b, off + k * 2 + 1, none⟩ = some (v1) := hcs 1 (by decide)
      clear hcs
      have HQ : Hid (tRow.sz (a0, x1) = zL tInt x1) := Lib.hid tRow_sz
      have hx1 : ((zL tInt x1 : Nat) : Int) ≤ k0 - (zTo tRow xs k : Int) := by have := HST.out; have := HLE.out; have := HQ.out; omega
      have hx2 : k0 - (zTo tRow xs k : Int) ≤ 1048576 := by omega
      have hneg : ¬ k0 - (zTo tRow xs k : Int) - ((zL tInt x1 : Nat) : Int) < 0 := by omega
      have HC := Lib.hid (fun W b => szRow_Y a0 v1 x1 (k0 - (zTo tRow xs k : Int)) W (slR_below tInt_law h1 b) hx1 hx2)
      go_wp2_with fail
      refine (HC.out _ (Below.refl _ _)).mono ?_
      rintro e w1 ⟨rfl, b1⟩
      have b2 := hbel.trans (b1.mono hbel.size)
      go_wp2
      go_roundw
      case rel => exact ⟨k + 1, by omega, by go_num, by rw [HST.out, HQ.out]; go_num, b2⟩
      case measure => simp [intOf]; omega
    · obtain rfl : k = xs.length := by omega
      go_wp2
      go_ret
      exact ⟨rfl, hbel⟩
set_option maxHeartbeats 8000000 in
set_option maxRecDepth 100000 in
theorem szRowS_N (v : Value) (xs : List (Int × List Int)) (k0 : Int) (w : World) (h : SlR tRow w v xs) (hs : k0 < ((zL tRow xs : Nat) : Int)) (hk : k0 ≤ 1048576) (hp : 0 ≤ k0) (ho : tRowS.ok xs) :
    Calls Tryd.prog 39 #[v, .int .i64 k0] w fun e w' => e = .returned (.int .i64 (-1)) ∧ Below w.heap.size w w' := by
  have H := Lib.hid h
  have HX := Lib.hid ho.2
  have hn := ho.1
  have HS := Lib.hid hs
  obtain ⟨a, cap, rfl⟩ := slR_len h
  clear h ho hs
  by_cases h1 : k0 < (xs.length : Int)
  · have hneg : k0 - (xs.length : Int) < 0 := by omega
    go_enter Tryd.func39, Tryd.ntmps39
    go_wp2
    go_ret
    exact ⟨rfl, Below.refl _ _⟩
  · go_enter Tryd.func39, Tryd.ntmps39
    have hneg : ¬ k0 - (xs.length : Int) < 0 := by omega
    go_wp2
    clear hneg
    go_loopw [1, 5] (fun l i wr => ∃ k : Nat, k ≤ xs.length ∧ i = .int .i64 k ∧ l = .int .i64 (k0 - (zTo tRow xs k : Int)) ∧ (zTo tRow xs k : Int) ≤ k0 ∧ Below w.heap.size w wr) (fun _ i _ => xs.length - (intOf i).toNat)
    case atStart => exact ⟨0, Nat.zero_le _, rfl, by rw [zTo_zero], by rw [zTo_zero]; omega, Below.refl _ _⟩
    case round =>
      obtain ⟨k, hk', rfl, rfl, hle, hbel⟩ := hrel
      by_cases hlt : k < xs.length
      · have HST := Lib.hid (zTo_step (T := tRow) hlt)
        have hx := HX.out k hlt
        have i1 : (0 : Int) ≤ (k : Int) := by omega
        have i2 : (k : Int) < (xs.length : Int) := by omega
        obtain ⟨b, off, cap', cs, hv, hbl, hcs, hR⟩ := slR_at (slR_below tRow_law H.out hbel) hlt
        simp only [Value.slice.injEq] at hv
        obtain ⟨rfl, _, rfl⟩ := hv
        generalize xs.getD k tRow.d = x at *
        obtain ⟨a0, x1⟩ := x
        obtain ⟨v1, hR'⟩ := tRow_R hR
        obtain ⟨rfl, h1⟩ := hR'
        have p0 : wr.cell? ⟨b, off + k * 2, none⟩ = some (Value.int .i64 a0) := hcs 0 (by decide)
        have p1 : wr.cell? ⟨b, off + k * 2 + 1, none⟩ = some (v1) := hcs 1 (by decide)
        clear hcs
        have HQ : Hid (tRow.sz (a0, x1) = zL tInt x1) := Lib.hid tRow_sz
        obtain ⟨_, o1⟩ := hx
        have hz0 : (0 : Int) ≤ (zTo tRow xs k : Int) := by omega
        by_cases hg : ((zL tInt x1 : Nat) : Int) ≤ k0 - (zTo tRow xs k : Int)
        · have hx2 : k0 - (zTo tRow xs k : Int) ≤ 1048576 := by omega
          have hneg : ¬ k0 - (zTo tRow xs k : Int) - ((zL tInt x1 : Nat) : Int) < 0 := by omega
          have HC := Lib.hid (fun W b => szRow_Y a0 v1 x1 (k0 - (zTo tRow xs k : Int)) W (slR_below tInt_law h1 b) hg hx2)
          go_wp2_with fail
          refine (HC.out _ (Below.refl _ _)).mono ?_
          rintro e w1 ⟨rfl, b1⟩
          have b2 := hbel.trans (b1.mono hbel.size)
          go_wp2
          go_roundw
          case rel => exact ⟨k + 1, by omega, by go_num, by rw [HST.out, HQ.out]; go_num, by rw [HST.out, HQ.out]; omega, b2⟩
          case measure => simp [intOf]; omega
        · have hx1 : k0 - (zTo tRow xs k : Int) < ((zL tInt x1 : Nat) : Int) := by omega
          have hx0 : 0 ≤ k0 - (zTo tRow xs k : Int) := by omega
          have hx2 : k0 - (zTo tRow xs k : Int) ≤ 1048576 := by omega
          have HC := Lib.hid (fun W b => szRow_N a0 v1 x1 (k0 - (zTo tRow xs k : Int)) W (slR_below tInt_law h1 b) hx1 hx2 hx0 o1)
          clear hg
          go_wp2_with fail
          refine (HC.out _ (Below.refl _ _)).mono ?_
          rintro e w1 ⟨rfl, b1⟩
          have b2 := hbel.trans (b1.mono hbel.size)
          go_wp2
          go_ret
          exact ⟨rfl, b2⟩
      · obtain rfl : k = xs.length := by omega
        exact absurd HS.out (by show ¬ k0 < ((zTo tRow xs xs.length : Nat) : Int); omega)
theorem Tryd.info_Row : (Tryd.prog.info? 30).map (fun i => (i.zero, i.size)) = some (some (.agg #[.int .i64 0, .slice none 0 0]), 2) := by kernel_rfl
theorem Tryd.bytes_Row : ((Tryd.prog.info? 30).map (fun i => decide (i.bytes ≤ 512))) = some true := by kernel_rfl
theorem tRow_zero (w : World) : tRow.O w (fun _ => False) #[.int .i64 0, .slice none 0 0].toList tRow.d := tRow_mkO (slO_nil _ _ _ (fun _ => False)) (fun b h => h) 
set_option maxHeartbeats 8000000 in
set_option maxRecDepth 100000 in
theorem toRowS_S (v : Value) (xs : List (Int × List Int)) (w : World) (h : SlR tRow w v xs) (hs : zL tRow xs ≤ 1048576) :
    Calls Tryd.prog 40 #[v] w (FreshS 30 tRow w xs) := by
  obtain ⟨i0, hi, hz0, hz1⟩ : ∃ i0, Tryd.prog.info? 30 = some i0 ∧ i0.zero = some (.agg #[.int .i64 0, .slice none 0 0]) ∧ i0.size = 2 := by
    have h0 := Tryd.info_Row
    cases q : Tryd.prog.info? 30 with
    | none => rw [q] at h0; simp at h0
    | some i => rw [q] at h0; simp only [Option.map_some, Option.some.injEq, Prod.mk.injEq] at h0; exact ⟨i, rfl, h0.1, h0.2⟩
  have hz2 : i0.bytes ≤ 512 := by
    have h0 := Tryd.bytes_Row
    rw [hi] at h0
    simpa using h0
  have HI := Lib.hid hi; have HZ0 := Lib.hid hz0; have HZ1 := Lib.hid hz1; have HZ2 := Lib.hid hz2
  clear hi hz0 hz1 hz2
  have H := Lib.hid h
  have hlen := zL_len hs
  have HS := Lib.hid hs
  obtain ⟨a, cap, rfl⟩ := slR_len h
  clear h hs
  go_enter Tryd.func40, Tryd.ntmps40
  go_wp2_with (at_make; refine wpList_make_full _ rfl (.tmp 6) (.tmp 6) 46 rfl w.heap.size 30 i0 (.agg #[.int .i64 0, .slice none 0 0]) 2 Tryd.underlying46 HI.out HZ0.out HZ1.out _ _ _ _ xs.length rfl rfl rfl rfl (by have h9 := Nat.mul_le_mul HZ2.out hlen; have h8 := Nat.mul_le_mul hlen HZ2.out; omega) (by unfold maxLen; omega) (Nat.le_refl _) ?_)
  intro w1 hown0 hg0
  have hown1 : SlO 30 tRow w1 (since w) (.slice (some ⟨w.heap.size, 0, none⟩) xs.length xs.length) (List.replicate xs.length tRow.d) := slO_made (z := #[.int .i64 0, .slice none 0 0]) tRow_law rfl (tRow_zero w1) (Nat.le_refl _) hown0
  have hbel1 := (Below.refl w.heap.size w).grown hg0 (Nat.le_refl _) (fun k hk => by cases hk)
  clear hown0 hg0
  go_wp2
  go_loopw [4] (fun i wr => ∃ k : Nat, k ≤ xs.length ∧ i = .int .i64 k ∧ SlO 30 tRow wr (since w) (.slice (some ⟨w.heap.size, 0, none⟩) xs.length xs.length) (xs.take k ++ List.replicate (xs.length - k) tRow.d) ∧ Below w.heap.size w wr) (fun i _ => xs.length - (intOf i).toNat)
  case atStart => exact ⟨0, Nat.zero_le _, rfl, by simpa using hown1, hbel1⟩
  case round =>
    obtain ⟨k, hk, rfl, hown, hbel⟩ := hrel
    by_cases hlt : k < xs.length
    · have HSET := Lib.hid (cTo_step (d := tRow.d) hlt)
      have HKL : Hid (k < (xs.take k ++ List.replicate (xs.length - k) tRow.d).length) := Lib.hid (by rw [cTo_len hk]; exact hlt)
      have HLL := Lib.hid (cTo_len (d := tRow.d) hk)
      have i1 : (0 : Int) ≤ (k : Int) := by omega
      have i2 : (k : Int) < (xs.length : Int) := by omega
      have hzx := zL_at HS.out hlt
      obtain ⟨b, off, cap', cs, hv, hbl, hcs, hR⟩ := slR_at (slR_below tRow_law H.out hbel) hlt
      simp only [Value.slice.injEq] at hv
      obtain ⟨rfl, _, rfl⟩ := hv
      obtain ⟨hme, hFg, hgl, cj, Fj, Lc, hrow, hLc, hO, hFj, hput⟩ := slO_open tRow_law hown HKL.out
      clear hme
      clear hown1 hbel1
      generalize xs.getD k tRow.d = x at *
      generalize xs.take k ++ List.replicate (xs.length - k) tRow.d = ys at *
      obtain ⟨a0, x1⟩ := x
      obtain ⟨v1, hR'⟩ := tRow_R hR
      obtain ⟨rfl, h1⟩ := hR'
      have p0 : wr.cell? ⟨b, off + k * 2, none⟩ = some (Value.int .i64 a0) := hcs 0 (by decide)
      have p1 : wr.cell? ⟨b, off + k * 2 + 1, none⟩ = some (v1) := hcs 1 (by decide)
      rw [tRow_sz] at hzx
      have S1 := Lib.hid (show zL tInt x1 ≤ 1048576 by omega)
      have HC := Lib.hid (fun w g1 => toRow_T a0 v1 x1 w g1 S1.out)
      have G1 := Lib.hid h1
      clear hcs hzx h1
      go_wp2_with fail
      refine (HC.out _ G1.out).mono ?_
      rintro e w2 ⟨cv, rfl, ow, b2⟩
      replace ow := tRow_law.lt ow
      have ow2 := ow
      obtain ⟨u1, K1, rfl, o1, _⟩ := tRow_O ow2
      obtain ⟨ua1, uc1, rfl⟩ := slO_len o1
      clear o1
      have r0 := row_turn (G := fun _ => False) hrow (turn_below b2) (fun _ _ => not_false)
      rw [HLL.out] at r0
      have q0 : ∃ x, w2.cell? ⟨w.heap.size, k * 2, none⟩ = some x := ⟨_, (World.ownsRow.cellAt r0 (k * 2) (by have := HKL.out; rw [HLL.out] at this; show _ < xs.length * 2; omega)).trans (List.getElem?_eq_getElem (by have h1 : Lc.length = xs.length * 2 := r0.1; omega))⟩
      obtain ⟨y0, q0⟩ := q0
      have f0 := World.ownsRow.frozenAt r0 (k * 2)
      have q1 : ∃ x, w2.cell? ⟨w.heap.size, k * 2 + 1, none⟩ = some x := ⟨_, (World.ownsRow.cellAt r0 (k * 2 + 1) (by have := HKL.out; rw [HLL.out] at this; show _ < xs.length * 2; omega)).trans (List.getElem?_eq_getElem (by have h1 : Lc.length = xs.length * 2 := r0.1; omega))⟩
      obtain ⟨y1, q1⟩ := q1
      have f1 := World.ownsRow.frozenAt r0 (k * 2 + 1)
      have b3 := hbel.trans (b2.mono hbel.size)
      have B3 := Lib.hid ((b3.setCell (p := ⟨w.heap.size, k * 2, none⟩) (Nat.le_refl _) (.int .i64 a0)).setCell (p := ⟨w.heap.size, k * 2 + 1, none⟩) (Nat.le_refl _) (.slice ua1 x1.length uc1))
      have hT : Turn (fun b => b = w.heap.size ∨ Fj b ∨ wr.heap.size ≤ b) wr ((w2.setCell ⟨w.heap.size, k * 2, none⟩ (.int .i64 a0)).setCell ⟨w.heap.size, k * 2 + 1, none⟩ (.slice ua1 x1.length uc1)) := (((turn_below b2).trans (turn_set (j := k * 2) (u := .int .i64 a0) (Or.inl rfl))).trans (turn_set (j := k * 2 + 1) (u := .slice ua1 x1.length uc1) (Or.inl rfl)))
      have hT2 : Turn (fun b => b = w.heap.size) w2 ((w2.setCell ⟨w.heap.size, k * 2, none⟩ (.int .i64 a0)).setCell ⟨w.heap.size, k * 2 + 1, none⟩ (.slice ua1 x1.length uc1)) := (((Turn.refl (fun b => b = w.heap.size) _).trans (turn_set (G := fun b => b = w.heap.size) (j := k * 2) (u := .int .i64 a0) rfl)).trans (turn_set (G := fun b => b = w.heap.size) (j := k * 2 + 1) (u := .slice ua1 x1.length uc1) rfl))
      have hO2 := tRow_law.turn ow hT2 (fun b h1 h2 => by have := h1.1; simp only [since] at this; omega)
      have r9 := (World.ownsRow.stored (World.ownsRow.stored r0 (k * 2) (.int .i64 a0)).1 (k * 2 + 1) (.slice ua1 x1.length uc1)).1
      have hLl : Lc.length = xs.length * 2 := r0.1
      have hst := Lib.hid (hput ((w2.setCell ⟨w.heap.size, k * 2, none⟩ (.int .i64 a0)).setCell ⟨w.heap.size, k * 2 + 1, none⟩ (.slice ua1 x1.length uc1)) ((Lc.set (k * 2) (.int .i64 a0)).set (k * 2 + 1) (.slice ua1 x1.length uc1)) [.int .i64 a0, .slice ua1 x1.length uc1] _ (a0, x1) (by rw [HLL.out]; exact r9) (fun p hp => by have hp2 : p < k * 2 ∨ k * 2 + 2 ≤ p := hp; rw [List.getElem?_set_ne (by omega)]; rw [List.getElem?_set_ne (by omega)]) (fun i hi => by have hi' : i < 2 := hi; match i, hi' with | 0, _ => (show (((Lc.set (k * 2) (.int .i64 a0)).set (k * 2 + 1) (.slice ua1 x1.length uc1)))[k * 2]? = _; rw [List.getElem?_set_ne (by omega)]; rw [List.getElem?_set_self (by first | omega | (simp only [List.length_set]; omega))]; rfl) | 1, _ => (show (((Lc.set (k * 2) (.int .i64 a0)).set (k * 2 + 1) (.slice ua1 x1.length uc1)))[k * 2 + 1]? = _; rw [List.getElem?_set_self (by first | omega | (simp only [List.length_set]; omega))]; rfl)) hO2 (fun b hb => ⟨Nat.le_trans hbel.size hb.1, Or.inr hb.1⟩) hT)
      have hst2 : SlO 30 tRow ((w2.setCell ⟨w.heap.size, k * 2, none⟩ (.int .i64 a0)).setCell ⟨w.heap.size, k * 2 + 1, none⟩ (.slice ua1 x1.length uc1)) (since w) (.slice (some ⟨w.heap.size, 0, none⟩) xs.length xs.length) (xs.take (k + 1) ++ List.replicate (xs.length - (k + 1)) tRow.d) := by have := hst.out; rw [HSET.out] at this; exact this
      have HST := Lib.hid hst2
      clear hst hst2 hT hT2 hO2 r9 r0 hrow hO hput hown hbel b2 ow b3 hLl hLc hFj
      go_wp2
      go_roundw
      case rel => exact ⟨k + 1, by omega, by go_num, HST.out, B3.out⟩
      case measure => simp [intOf]; omega
    · obtain rfl : k = xs.length := by omega
      have HE : Hid (xs.take xs.length ++ List.replicate (xs.length - xs.length) tRow.d = xs) := Lib.hid (by simp)
      rw [HE.out] at hown
      go_wp2
      go_ret
      exact ⟨_, rfl, hown, hbel⟩
set_option maxHeartbeats 8000000 in
set_option maxRecDepth 100000 in
theorem eqRowS_S (v u : Value) (xs : List (Int × List Int)) (w : World) (h : SlR tRow w v xs) (g : SlR tRow w u xs) (hs : zL tRow xs ≤ 1048576) :
    Calls Tryd.prog 41 #[v, u] w fun e w' => e = .returned (.bool true) ∧ Below w.heap.size w w' := by
  have H := Lib.hid h
  have G := Lib.hid g
  have HS := Lib.hid hs
  have hlen := zL_len hs
  obtain ⟨a, cap, rfl⟩ := slR_len h
  obtain ⟨a2, cap2, rfl⟩ := slR_len g
  clear h g hs
  go_enter Tryd.func41, Tryd.ntmps41
  go_wp2
  go_loopw [5] (fun i wr => ∃ k : Nat, k ≤ xs.length ∧ i = .int .i64 k ∧ Below w.heap.size w wr) (fun i _ => xs.length - (intOf i).toNat)
  case atStart => exact ⟨0, Nat.zero_le _, rfl, Below.refl _ _⟩
  case round =>
    obtain ⟨k, hk, rfl, hbel⟩ := hrel
    by_cases hlt : k < xs.length
    · obtain ⟨b, off, cap', cs, hv, hbl, hcs, hR⟩ := slR_at (slR_below tRow_law H.out hbel) hlt
      simp only [Value.slice.injEq] at hv
      obtain ⟨rfl, _, rfl⟩ := hv
      obtain ⟨b2, off2, cap2', ds, hv2, hbl2, hds, hQ⟩ := slR_at (slR_below tRow_law G.out hbel) hlt
      simp only [Value.slice.injEq] at hv2
      obtain ⟨rfl, _, rfl⟩ := hv2
      have hzx := zL_at HS.out hlt
      have i1 : (0 : Int) ≤ (k : Int) := by omega
      have i2 : (k : Int) < (xs.length : Int) := by omega
      generalize xs.getD k tRow.d = x at *
      obtain ⟨a0, x1⟩ := x
      obtain ⟨v1, hR'⟩ := tRow_R hR
      obtain ⟨rfl, h1⟩ := hR'
      obtain ⟨u1, hQ'⟩ := tRow_R hQ
      obtain ⟨rfl, g1⟩ := hQ'
      rw [tRow_sz] at hzx
      have S1 := Lib.hid (show zL tInt x1 ≤ 1048576 by omega)
      have p0 : wr.cell? ⟨b, off + k * 2, none⟩ = some (Value.int .i64 a0) := hcs 0 (by decide)
      have q0 : wr.cell? ⟨b2, off2 + k * 2, none⟩ = some (Value.int .i64 a0) := hds 0 (by decide)
      have p1 : wr.cell? ⟨b, off + k * 2 + 1, none⟩ = some (v1) := hcs 1 (by decide)
      have q1 : wr.cell? ⟨b2, off2 + k * 2 + 1, none⟩ = some (u1) := hds 1 (by decide)
      clear hcs hds hzx
      go_wp2
      go_region_with (first | (go_at_call 33; refine (eqRow_T a0 v1 x1 u1 _ (by exact slR_same tInt_law h1 rfl rfl rfl rfl) (by exact slR_same tInt_law g1 rfl rfl rfl rfl) S1.out).mono ?_; rintro e w8 ⟨rfl, b9⟩; have b10 : Below wr.heap.size wr w8 := ⟨b9.os, b9.tape, b9.output, b9.size, b9.block⟩))
      all_goals
        have b11 := hbel.trans (b10.mono hbel.size)
        go_wp2
        go_roundw
        case rel => exact ⟨k + 1, by omega, by go_num, b11⟩
        case measure => simp [intOf]; omega
    · go_wp2
      go_ret
      exact ⟨rfl, hbel⟩
end Go.Proofs.YtidhmgboknffkaaDoor
namespace Go.Proofs.YtidhmgboknffkaaDoor
open Go.RowKit
set_option linter.unusedVariables false
set_option linter.unusedSimpArgs false
theorem slR_rows {w : World} {v : Value} {rs : List RowD} (h : SlR tRow w v rs) : RowsR w v rs := by
  rcases h with h | ⟨b, off, cap, us, h1, h2, h3, h4⟩
  · exact Or.inl h
  · refine Or.inr ⟨b, off, cap, fun j => (us j).getD 1 (.slice none 0 0), h1, h2, h3, fun j hj => ?_⟩
    obtain ⟨hc, hR⟩ := h4 j hj
    obtain ⟨v1, e, g1⟩ := tRow_R (a0 := (rs.getD j (0, [])).1) (x1 := (rs.getD j (0, [])).2) hR
    have c0 := hc 0 (by decide); have c1 := hc 1 (by decide)
    simp only [e] at c0 c1 ⊢
    exact ⟨c0, c1, slR_ints g1⟩
theorem zL_rows (rs : List RowD) : zL tRow rs = szL rs := by
  have hf : tRow.sz = fun r : RowD => r.2.length := by
    funext r; obtain ⟨a, x⟩ := r; rw [tRow_sz, zL_ints]
  unfold zL zTo szL szTo sumN
  rw [hf]
end Go.Proofs.YtidhmgboknffkaaDoor
