/-
  The walks of the specification's union, meet and difference of sets.
-/
import Derived.Test.YtededfficggkaaaSetSpec
namespace Go.Proofs.Ytededfficggkaaa
open Go.RowKit
set_option linter.unusedVariables false
/-- The numbers below k that p takes. -/
def accU (p : Int → Bool) (k : Nat) : List Int := ((List.range k).map fun i : Nat => (i : Int)).filter p
theorem accU_yes {p : Int → Bool} {k : Nat} (h : p (k : Int) = true) : accU p k ++ [(k : Int)] = accU p (k + 1) := by
  unfold accU
  rw [List.range_succ, List.map_append, List.filter_append]
  simp [h]
theorem accU_no {p : Int → Bool} {k : Nat} (h : p (k : Int) = false) : accU p k = accU p (k + 1) := by
  unfold accU
  rw [List.range_succ, List.map_append, List.filter_append]
  simp [h]
theorem accU_len (p : Int → Bool) (k : Nat) : (accU p k).length ≤ k := by
  have := List.length_filter_le p ((List.range k).map fun i : Nat => (i : Int))
  simpa [accU] using this
/-- The first k of a that p takes. -/
def accA (p : Int → Bool) (a : List Int) (k : Nat) : List Int := (a.take k).filter p
theorem accA_yes {p : Int → Bool} {a : List Int} {k : Nat} (hk : k < a.length) (h : p (a.getD k 0) = true) : accA p a k ++ [a.getD k 0] = accA p a (k + 1) := by
  unfold accA
  have e : a.getD k 0 = a[k] := by simp [List.getD, hk]
  rw [e] at h ⊢
  rw [List.take_succ_eq_append_getElem hk, List.filter_append]
  simp [h]
theorem accA_no {p : Int → Bool} {a : List Int} {k : Nat} (hk : k < a.length) (h : p (a.getD k 0) = false) : accA p a k = accA p a (k + 1) := by
  unfold accA
  have e : a.getD k 0 = a[k] := by simp [List.getD, hk]
  rw [e] at h
  rw [List.take_succ_eq_append_getElem hk, List.filter_append]
  simp [h]
theorem accA_len (p : Int → Bool) (a : List Int) (k : Nat) : (accA p a k).length ≤ a.length := by
  have h1 := List.length_filter_le p (a.take k)
  have h2 := List.length_take_le' k a
  unfold accA; omega
theorem unite_no {a b : List Int} (h : (setB a && setB b) = false) : uniteL a b = [] := by unfold uniteL; rw [h]; rfl
theorem unite_yes {a b : List Int} (h1 : setB a = true) (h2 : setB b = true) : uniteL a b = accU (fun x => decide (x ∈ a) || decide (x ∈ b)) 24 := by unfold uniteL; rw [h1, h2]; rfl
theorem meet_no {a b : List Int} (h : (setB a && setB b) = false) : meetL a b = [] := by unfold meetL; rw [h]; rfl
theorem meet_yes {a b : List Int} (h1 : setB a = true) (h2 : setB b = true) : meetL a b = accA (fun x => decide (x ∈ b)) a a.length := by unfold meetL accA; rw [h1, h2, List.take_length]; rfl
theorem sub_no {a b : List Int} (h : (setB a && setB b) = false) : subL a b = [] := by unfold subL; rw [h]; rfl
theorem sub_yes {a b : List Int} (h1 : setB a = true) (h2 : setB b = true) : subL a b = accA (fun x => !decide (x ∈ b)) a a.length := by unfold subL accA; rw [h1, h2, List.take_length]; rfl
set_option maxHeartbeats 2000000 in
set_option maxRecDepth 100000 in
theorem specUnite (va vb : Value) (a b : List Int) (w : World) (ha : Ints w va a) (hb : Ints w vb b) (na : a.length ≤ 1048576) (nb : b.length ≤ 1048576) :
    Calls Try.prog 6 #[va, vb] w (Fresh w (uniteL a b)) := by
  have HA := Lib.hid ha
  have HB := Lib.hid hb
  have NA := Lib.hid na
  have NB := Lib.hid nb
  clear ha hb na nb
  by_cases hsa : setB a = true
  · by_cases hsb : setB b = true
    · have HU := Lib.hid (unite_yes hsa hsb)
      have SA := Lib.hid hsa
      have SB := Lib.hid hsb
      clear hsa hsb
      generalize hp : (fun x => decide (x ∈ a) || decide (x ∈ b)) = p at HU
      have HP := Lib.hid hp
      clear hp
      go_enter Try.func6, Try.ntmps6
      go_wp2
      go_loopw [5, 6] (fun v i wr => ∃ k : Nat, k ≤ 24 ∧ i = .int .i64 k ∧ OwnsN wr w.heap.size v (accU p k) ∧ Below w.heap.size w wr) (fun _ i _ => 24 - (intOf i).toNat)
      case atStart => exact ⟨0, Nat.zero_le _, rfl, ownsN_lit w _ (Nat.le_refl _) #[] 0 [] rfl rfl (by decide), (Below.refl _ _).alloc (Nat.le_refl _) _⟩
      case round =>
        obtain ⟨k, hk, rfl, hown, hbel⟩ := hrel
        by_cases hlt : k < 24
        · have HL := Lib.hid (accU_len p k)
          have HK := Lib.hid (congrFun HP.out (k : Int))
          go_wp2_with fail
          refine (specIsSet va a _ (ints_below HA.out hbel) NA.out).mono ?_
          rintro e w1 ⟨rfl, hb1⟩
          rw [SA.out]
          have hown1 := ownsN_below hown hb1
          have hbel1 := hbel.trans (hb1.mono hbel.size)
          clear hown hbel hb1
          go_wp2_with fail
          refine (specIsSet vb b _ (ints_below HB.out hbel1) NB.out).mono ?_
          rintro e w2 ⟨rfl, hb2⟩
          rw [SB.out]
          have hown2 := ownsN_below hown1 hb2
          have hbel2 := hbel1.trans (hb2.mono hbel1.size)
          have hB2 := hbel2.size
          clear hown1 hbel1 hb2
          go_wp2_with fail
          refine (specHas va a k _ (ints_below HA.out hbel2) NA.out).mono ?_
          rintro e w3 ⟨rfl, rfl⟩
          cases hma : decide ((k : Int) ∈ a) with
          | true =>
            have HT : Hid (p (k : Int) = true) := Lib.hid (by rw [← HK.out, hma]; rfl)
            clear hma
            go_wp2_with (at_builtin; refine append_ints rfl (.tmp 28) (.tmp 30) rfl w.heap.size _ _ rfl hown2 hB2 _ [(k : Int)] 1 _ rfl (by first | rfl | (simp; done)) rfl (by have := HL.out; simp; omega) ?_)
            intro v' w4 hown3 hb3
            rw [accU_yes HT.out] at hown3
            have hb4 := hbel2.trans hb3
            clear hown2 hbel2 hb3
            go_wp2
            go_roundw
            case rel => exact ⟨k + 1, by omega, by go_num, hown3, hb4⟩
            case measure => simp [intOf]; omega
          | false =>
            have HQ : Hid (p (k : Int) = decide ((k : Int) ∈ b)) := Lib.hid (by rw [← HK.out, hma]; rfl)
            clear hma
            go_wp2_with fail
            refine (specHas vb b k _ (ints_below HB.out hbel2) NB.out).mono ?_
            rintro e w3 ⟨rfl, rfl⟩
            cases hmb : decide ((k : Int) ∈ b) with
            | true =>
              have HT : Hid (p (k : Int) = true) := Lib.hid (by rw [HQ.out, hmb])
              clear hmb
              go_wp2_with (at_builtin; refine append_ints rfl (.tmp 28) (.tmp 30) rfl w.heap.size _ _ rfl hown2 hB2 _ [(k : Int)] 1 _ rfl (by first | rfl | (simp; done)) rfl (by have := HL.out; simp; omega) ?_)
              intro v' w4 hown3 hb3
              rw [accU_yes HT.out] at hown3
              have hb4 := hbel2.trans hb3
              clear hown2 hbel2 hb3
              go_wp2
              go_roundw
              case rel => exact ⟨k + 1, by omega, by go_num, hown3, hb4⟩
              case measure => simp [intOf]; omega
            | false =>
              have HT : Hid (p (k : Int) = false) := Lib.hid (by rw [HQ.out, hmb])
              clear hmb
              rw [accU_no HT.out] at hown2
              go_wp2
              go_roundw
              case rel => exact ⟨k + 1, by omega, by go_num, hown2, hbel2⟩
              case measure => simp [intOf]; omega
        · obtain rfl : k = 24 := by omega
          rw [← HU.out] at hown
          go_wp2
          go_ret
          exact ⟨_, rfl, hown, hbel⟩
    · have HE := Lib.hid (unite_no (a := a) (b := b) (by simp [hsb]))
      have SA := Lib.hid hsa
      have SB := Lib.hid (show setB b = false by simpa using hsb)
      clear hsa hsb
      rw [HE.out]
      go_enter Try.func6, Try.ntmps6
      go_wp2
      have hown := ownsN_lit w w.heap.size (Nat.le_refl _) #[] 0 [] rfl rfl (by decide)
      have hbel := (Below.refl w.heap.size w).alloc (Nat.le_refl _) (.cells #[] 3)
      generalize w.alloc (.cells #[] 3) = w0 at hown hbel ⊢
      go_loopw [5, 6] (fun v i wr => wr = w0 ∧ i = .int .i64 0 ∧ v = .slice (some ⟨w.heap.size, 0, none⟩) 0 0) (fun _ _ _ => 0)
      case atStart => exact ⟨rfl, rfl, rfl⟩
      case round =>
        obtain ⟨rfl, rfl, rfl⟩ := hrel
        go_wp2_with fail
        refine (specIsSet va a _ (ints_below HA.out hbel) NA.out).mono ?_
        rintro e w1 ⟨rfl, hb1⟩
        rw [SA.out]
        have hown1 := ownsN_below hown hb1
        have hbel1 := hbel.trans (hb1.mono hbel.size)
        clear hown hbel hb1
        go_wp2_with fail
        refine (specIsSet vb b _ (ints_below HB.out hbel1) NB.out).mono ?_
        rintro e w2 ⟨rfl, hb2⟩
        rw [SB.out]
        have hown2 := ownsN_below hown1 hb2
        have hbel2 := hbel1.trans (hb2.mono hbel1.size)
        clear hown1 hbel1 hb2
        go_wp2
        go_ret
        exact ⟨_, rfl, hown2, hbel2⟩
  · have HE := Lib.hid (unite_no (a := a) (b := b) (by simp [hsa]))
    have SA := Lib.hid (show setB a = false by simpa using hsa)
    clear hsa
    rw [HE.out]
    go_enter Try.func6, Try.ntmps6
    go_wp2
    have hown := ownsN_lit w w.heap.size (Nat.le_refl _) #[] 0 [] rfl rfl (by decide)
    have hbel := (Below.refl w.heap.size w).alloc (Nat.le_refl _) (.cells #[] 3)
    generalize w.alloc (.cells #[] 3) = w0 at hown hbel ⊢
    go_loopw [5, 6] (fun v i wr => wr = w0 ∧ i = .int .i64 0 ∧ v = .slice (some ⟨w.heap.size, 0, none⟩) 0 0) (fun _ _ _ => 0)
    case atStart => exact ⟨rfl, rfl, rfl⟩
    case round =>
      obtain ⟨rfl, rfl, rfl⟩ := hrel
      go_wp2_with fail
      refine (specIsSet va a _ (ints_below HA.out hbel) NA.out).mono ?_
      rintro e w1 ⟨rfl, hb1⟩
      rw [SA.out]
      have hown1 := ownsN_below hown hb1
      have hbel1 := hbel.trans (hb1.mono hbel.size)
      clear hown hbel hb1
      go_wp2
      go_ret
      exact ⟨_, rfl, hown1, hbel1⟩
/-! ### Meet -/
set_option maxHeartbeats 2000000 in
set_option maxRecDepth 100000 in
theorem specMeet (va vb : Value) (a b : List Int) (w : World) (ha : Ints w va a) (hb : Ints w vb b) (na : a.length ≤ 1048576) (nb : b.length ≤ 1048576) :
    Calls Try.prog 12 #[va, vb] w (Fresh w (meetL a b)) := by
  have HA := Lib.hid ha
  have HB := Lib.hid hb
  have NA := Lib.hid na
  have NB := Lib.hid nb
  obtain ⟨ao, cap, hva⟩ := ints_len ha
  clear ha hb nb
  by_cases hsa : setB a = true
  · by_cases hsb : setB b = true
    · have HU := Lib.hid (meet_yes hsa hsb)
      have SA := Lib.hid hsa
      have SB := Lib.hid hsb
      clear hsa hsb
      generalize hp : (fun x => decide (x ∈ b)) = p at HU
      have HP := Lib.hid hp
      clear hp
      subst hva
      go_enter Try.func12, Try.ntmps12
      go_wp2
      go_loopw [5, 6] (fun v i wr => ∃ k : Nat, k ≤ a.length ∧ i = .int .i64 k ∧ OwnsN wr w.heap.size v (accA p a k) ∧ Below w.heap.size w wr) (fun _ i _ => a.length - (intOf i).toNat)
      case atStart => exact ⟨0, Nat.zero_le _, rfl, ownsN_lit w _ (Nat.le_refl _) #[] 0 [] rfl rfl (by decide), (Below.refl _ _).alloc (Nat.le_refl _) _⟩
      case round =>
        obtain ⟨k, hk, rfl, hown, hbel⟩ := hrel
        by_cases hlt : k < a.length
        · have HL := Lib.hid (accA_len p a k)
          have HK := Lib.hid (congrFun HP.out (a.getD k 0))
          have i1 : (0 : Int) ≤ (k : Int) := by omega
          have i2 : (k : Int) < (a.length : Int) := by omega
          go_wp2_with fail
          refine (specIsSet _ a _ (ints_below HA.out hbel) NA.out).mono ?_
          rintro e w1 ⟨rfl, hb1⟩
          rw [SA.out]
          have hown1 := ownsN_below hown hb1
          have hbel1 := hbel.trans (hb1.mono hbel.size)
          clear hown hbel hb1
          go_wp2_with fail
          refine (specIsSet vb b _ (ints_below HB.out hbel1) NB.out).mono ?_
          rintro e w2 ⟨rfl, hb2⟩
          rw [SB.out]
          have hown2 := ownsN_below hown1 hb2
          have hbel2 := hbel1.trans (hb2.mono hbel1.size)
          have hB2 := hbel2.size
          clear hown1 hbel1 hb2
          obtain ⟨bb, off, cap', hv, hbl, hc⟩ := ints_cell HA.out (by omega)
          simp only [Value.slice.injEq] at hv
          obtain ⟨rfl, _, rfl⟩ := hv
          have hcell := (hbel2.cell (p := ⟨bb, off + k, none⟩) hbl).trans (hc k hlt)
          have HYES := Lib.hid (fun h => accA_yes (p := p) hlt h)
          have HNO := Lib.hid (fun h => accA_no (p := p) hlt h)
          clear hc
          generalize a.getD k 0 = y at hcell HK HYES HNO
          go_wp2_with fail
          refine (specHas vb b y _ (ints_below HB.out hbel2) NB.out).mono ?_
          rintro e w3 ⟨rfl, rfl⟩
          cases hmb : decide (y ∈ b) with
          | true =>
            have HT : Hid (p y = true) := Lib.hid (by rw [← HK.out]; simp [hmb])
            clear hmb
            go_wp2_with (at_builtin; refine append_ints rfl (.tmp 28) (.tmp 33) rfl w.heap.size _ _ rfl hown2 hB2 _ [y] 1 _ rfl (by first | rfl | (simp; done)) rfl (by have := HL.out; have := NA.out; simp; omega) ?_)
            intro v' w4 hown3 hb3
            rw [HYES.out HT.out] at hown3
            have hb4 := hbel2.trans hb3
            clear hown2 hbel2 hb3 hcell
            go_wp2
            go_roundw
            case rel => exact ⟨k + 1, by omega, by go_num, hown3, hb4⟩
            case measure => simp [intOf]; omega
          | false =>
            have HT : Hid (p y = false) := Lib.hid (by rw [← HK.out]; simp [hmb])
            clear hmb
            rw [HNO.out HT.out] at hown2
            go_wp2
            go_roundw
            case rel => exact ⟨k + 1, by omega, by go_num, hown2, hbel2⟩
            case measure => simp [intOf]; omega
        · obtain rfl : k = a.length := by omega
          rw [← HU.out] at hown
          go_wp2
          go_ret
          exact ⟨_, rfl, hown, hbel⟩
    · have HE := Lib.hid (meet_no (a := a) (b := b) (by simp [hsb]))
      have SA := Lib.hid hsa
      have SB := Lib.hid (show setB b = false by simpa using hsb)
      clear hsa hsb
      rw [HE.out]
      subst hva
      go_enter Try.func12, Try.ntmps12
      go_wp2
      have hown := ownsN_lit w w.heap.size (Nat.le_refl _) #[] 0 [] rfl rfl (by decide)
      have hbel := (Below.refl w.heap.size w).alloc (Nat.le_refl _) (.cells #[] 3)
      generalize w.alloc (.cells #[] 3) = w0 at hown hbel ⊢
      go_loopw [5, 6] (fun v i wr => wr = w0 ∧ i = .int .i64 0 ∧ v = .slice (some ⟨w.heap.size, 0, none⟩) 0 0) (fun _ _ _ => 0)
      case atStart => exact ⟨rfl, rfl, rfl⟩
      case round =>
        obtain ⟨rfl, rfl, rfl⟩ := hrel
        by_cases hl : 0 < a.length
        · go_wp2_with fail
          refine (specIsSet _ a _ (ints_below HA.out hbel) NA.out).mono ?_
          rintro e w1 ⟨rfl, hb1⟩
          rw [SA.out]
          have hown1 := ownsN_below hown hb1
          have hbel1 := hbel.trans (hb1.mono hbel.size)
          clear hown hbel hb1
          go_wp2_with fail
          refine (specIsSet vb b _ (ints_below HB.out hbel1) NB.out).mono ?_
          rintro e w2 ⟨rfl, hb2⟩
          rw [SB.out]
          have hown2 := ownsN_below hown1 hb2
          have hbel2 := hbel1.trans (hb2.mono hbel1.size)
          clear hown1 hbel1 hb2
          go_wp2
          go_ret
          exact ⟨_, rfl, hown2, hbel2⟩
        · have hl2 : ¬ ((0 : Int) < (a.length : Int)) := by omega
          go_wp2
          go_ret
          exact ⟨_, rfl, hown, hbel⟩
  · have HE := Lib.hid (meet_no (a := a) (b := b) (by simp [hsa]))
    have SA := Lib.hid (show setB a = false by simpa using hsa)
    clear hsa
    rw [HE.out]
    subst hva
    go_enter Try.func12, Try.ntmps12
    go_wp2
    have hown := ownsN_lit w w.heap.size (Nat.le_refl _) #[] 0 [] rfl rfl (by decide)
    have hbel := (Below.refl w.heap.size w).alloc (Nat.le_refl _) (.cells #[] 3)
    generalize w.alloc (.cells #[] 3) = w0 at hown hbel ⊢
    go_loopw [5, 6] (fun v i wr => wr = w0 ∧ i = .int .i64 0 ∧ v = .slice (some ⟨w.heap.size, 0, none⟩) 0 0) (fun _ _ _ => 0)
    case atStart => exact ⟨rfl, rfl, rfl⟩
    case round =>
      obtain ⟨rfl, rfl, rfl⟩ := hrel
      by_cases hl : 0 < a.length
      · go_wp2_with fail
        refine (specIsSet _ a _ (ints_below HA.out hbel) NA.out).mono ?_
        rintro e w1 ⟨rfl, hb1⟩
        rw [SA.out]
        have hown1 := ownsN_below hown hb1
        have hbel1 := hbel.trans (hb1.mono hbel.size)
        clear hown hbel hb1
        go_wp2
        go_ret
        exact ⟨_, rfl, hown1, hbel1⟩
      · have hl2 : ¬ ((0 : Int) < (a.length : Int)) := by omega
        go_wp2
        go_ret
        exact ⟨_, rfl, hown, hbel⟩
/-! ### Sub -/
set_option maxHeartbeats 2000000 in
set_option maxRecDepth 100000 in
theorem specSub (va vb : Value) (a b : List Int) (w : World) (ha : Ints w va a) (hb : Ints w vb b) (na : a.length ≤ 1048576) (nb : b.length ≤ 1048576) :
    Calls Try.prog 14 #[va, vb] w (Fresh w (subL a b)) := by
  have HA := Lib.hid ha
  have HB := Lib.hid hb
  have NA := Lib.hid na
  have NB := Lib.hid nb
  obtain ⟨ao, cap, hva⟩ := ints_len ha
  clear ha hb nb
  by_cases hsa : setB a = true
  · by_cases hsb : setB b = true
    · have HU := Lib.hid (sub_yes hsa hsb)
      have SA := Lib.hid hsa
      have SB := Lib.hid hsb
      clear hsa hsb
      generalize hp : (fun x => !decide (x ∈ b)) = p at HU
      have HP := Lib.hid hp
      clear hp
      subst hva
      go_enter Try.func14, Try.ntmps14
      go_wp2
      go_loopw [5, 6] (fun v i wr => ∃ k : Nat, k ≤ a.length ∧ i = .int .i64 k ∧ OwnsN wr w.heap.size v (accA p a k) ∧ Below w.heap.size w wr) (fun _ i _ => a.length - (intOf i).toNat)
      case atStart => exact ⟨0, Nat.zero_le _, rfl, ownsN_lit w _ (Nat.le_refl _) #[] 0 [] rfl rfl (by decide), (Below.refl _ _).alloc (Nat.le_refl _) _⟩
      case round =>
        obtain ⟨k, hk, rfl, hown, hbel⟩ := hrel
        by_cases hlt : k < a.length
        · have HL := Lib.hid (accA_len p a k)
          have HK := Lib.hid (congrFun HP.out (a.getD k 0))
          have i1 : (0 : Int) ≤ (k : Int) := by omega
          have i2 : (k : Int) < (a.length : Int) := by omega
          go_wp2_with fail
          refine (specIsSet _ a _ (ints_below HA.out hbel) NA.out).mono ?_
          rintro e w1 ⟨rfl, hb1⟩
          rw [SA.out]
          have hown1 := ownsN_below hown hb1
          have hbel1 := hbel.trans (hb1.mono hbel.size)
          clear hown hbel hb1
          go_wp2_with fail
          refine (specIsSet vb b _ (ints_below HB.out hbel1) NB.out).mono ?_
          rintro e w2 ⟨rfl, hb2⟩
          rw [SB.out]
          have hown2 := ownsN_below hown1 hb2
          have hbel2 := hbel1.trans (hb2.mono hbel1.size)
          have hB2 := hbel2.size
          clear hown1 hbel1 hb2
          obtain ⟨bb, off, cap', hv, hbl, hc⟩ := ints_cell HA.out (by omega)
          simp only [Value.slice.injEq] at hv
          obtain ⟨rfl, _, rfl⟩ := hv
          have hcell := (hbel2.cell (p := ⟨bb, off + k, none⟩) hbl).trans (hc k hlt)
          have HYES := Lib.hid (fun h => accA_yes (p := p) hlt h)
          have HNO := Lib.hid (fun h => accA_no (p := p) hlt h)
          clear hc
          generalize a.getD k 0 = y at hcell HK HYES HNO
          go_wp2_with fail
          refine (specHas vb b y _ (ints_below HB.out hbel2) NB.out).mono ?_
          rintro e w3 ⟨rfl, rfl⟩
          cases hmb : decide (y ∈ b) with
          | false =>
            have HT : Hid (p y = true) := Lib.hid (by rw [← HK.out]; simp [hmb])
            clear hmb
            go_wp2_with (at_builtin; refine append_ints rfl (.tmp 29) (.tmp 34) rfl w.heap.size _ _ rfl hown2 hB2 _ [y] 1 _ rfl (by first | rfl | (simp; done)) rfl (by have := HL.out; have := NA.out; simp; omega) ?_)
            intro v' w4 hown3 hb3
            rw [HYES.out HT.out] at hown3
            have hb4 := hbel2.trans hb3
            clear hown2 hbel2 hb3 hcell
            go_wp2
            go_roundw
            case rel => exact ⟨k + 1, by omega, by go_num, hown3, hb4⟩
            case measure => simp [intOf]; omega
          | true =>
            have HT : Hid (p y = false) := Lib.hid (by rw [← HK.out]; simp [hmb])
            clear hmb
            rw [HNO.out HT.out] at hown2
            go_wp2
            go_roundw
            case rel => exact ⟨k + 1, by omega, by go_num, hown2, hbel2⟩
            case measure => simp [intOf]; omega
        · obtain rfl : k = a.length := by omega
          rw [← HU.out] at hown
          go_wp2
          go_ret
          exact ⟨_, rfl, hown, hbel⟩
    · have HE := Lib.hid (sub_no (a := a) (b := b) (by simp [hsb]))
      have SA := Lib.hid hsa
      have SB := Lib.hid (show setB b = false by simpa using hsb)
      clear hsa hsb
      rw [HE.out]
      subst hva
      go_enter Try.func14, Try.ntmps14
      go_wp2
      have hown := ownsN_lit w w.heap.size (Nat.le_refl _) #[] 0 [] rfl rfl (by decide)
      have hbel := (Below.refl w.heap.size w).alloc (Nat.le_refl _) (.cells #[] 3)
      generalize w.alloc (.cells #[] 3) = w0 at hown hbel ⊢
      go_loopw [5, 6] (fun v i wr => wr = w0 ∧ i = .int .i64 0 ∧ v = .slice (some ⟨w.heap.size, 0, none⟩) 0 0) (fun _ _ _ => 0)
      case atStart => exact ⟨rfl, rfl, rfl⟩
      case round =>
        obtain ⟨rfl, rfl, rfl⟩ := hrel
        by_cases hl : 0 < a.length
        · go_wp2_with fail
          refine (specIsSet _ a _ (ints_below HA.out hbel) NA.out).mono ?_
          rintro e w1 ⟨rfl, hb1⟩
          rw [SA.out]
          have hown1 := ownsN_below hown hb1
          have hbel1 := hbel.trans (hb1.mono hbel.size)
          clear hown hbel hb1
          go_wp2_with fail
          refine (specIsSet vb b _ (ints_below HB.out hbel1) NB.out).mono ?_
          rintro e w2 ⟨rfl, hb2⟩
          rw [SB.out]
          have hown2 := ownsN_below hown1 hb2
          have hbel2 := hbel1.trans (hb2.mono hbel1.size)
          clear hown1 hbel1 hb2
          go_wp2
          go_ret
          exact ⟨_, rfl, hown2, hbel2⟩
        · have hl2 : ¬ ((0 : Int) < (a.length : Int)) := by omega
          go_wp2
          go_ret
          exact ⟨_, rfl, hown, hbel⟩
  · have HE := Lib.hid (sub_no (a := a) (b := b) (by simp [hsa]))
    have SA := Lib.hid (show setB a = false by simpa using hsa)
    clear hsa
    rw [HE.out]
    subst hva
    go_enter Try.func14, Try.ntmps14
    go_wp2
    have hown := ownsN_lit w w.heap.size (Nat.le_refl _) #[] 0 [] rfl rfl (by decide)
    have hbel := (Below.refl w.heap.size w).alloc (Nat.le_refl _) (.cells #[] 3)
    generalize w.alloc (.cells #[] 3) = w0 at hown hbel ⊢
    go_loopw [5, 6] (fun v i wr => wr = w0 ∧ i = .int .i64 0 ∧ v = .slice (some ⟨w.heap.size, 0, none⟩) 0 0) (fun _ _ _ => 0)
    case atStart => exact ⟨rfl, rfl, rfl⟩
    case round =>
      obtain ⟨rfl, rfl, rfl⟩ := hrel
      by_cases hl : 0 < a.length
      · go_wp2_with fail
        refine (specIsSet _ a _ (ints_below HA.out hbel) NA.out).mono ?_
        rintro e w1 ⟨rfl, hb1⟩
        rw [SA.out]
        have hown1 := ownsN_below hown hb1
        have hbel1 := hbel.trans (hb1.mono hbel.size)
        clear hown hbel hb1
        go_wp2
        go_ret
        exact ⟨_, rfl, hown1, hbel1⟩
      · have hl2 : ¬ ((0 : Int) < (a.length : Int)) := by omega
        go_wp2
        go_ret
        exact ⟨_, rfl, hown, hbel⟩
end Go.Proofs.Ytededfficggkaaa
