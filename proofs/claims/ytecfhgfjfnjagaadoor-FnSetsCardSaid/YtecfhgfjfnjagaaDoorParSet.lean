/-
  The walk of the specification's ParseSet: it returns what 'parSet' computes.
-/
import Derived.Test.YtecfhgfjfnjagaaDoorParSetMath
namespace Go.Proofs.YtecfhgfjfnjagaaDoor
open Go.RowKit
set_option linter.unusedVariables false
theorem apart_new {w : World} {B g n c : Nat} {u : Value} {ts : List ByteArray} (h : OwnsS w B u ts) (hg : g < B) : Apart (.slice (some ⟨g, 0, none⟩) n c) u := by
  cases hu : u.ownBlock with
  | none => exact Or.inl hu
  | some k => exact Or.inr (by rw [hu]; intro e; have := (h.lt k hu).1; simp [Value.ownBlock] at e; omega)
theorem strs_head {w : World} {B : Nat} {v : Value} {ps : List (List UInt8)} (h : OwnsS w B v (ps.map strB)) (h0 : 0 < ps.length) : ∃ g cap, v = .slice (some ⟨g, 0, none⟩) ps.length cap := by
  rcases ownsS_form h with ⟨_, e⟩ | ⟨g, cap, e, _⟩
  · have := congrArg List.length e; simp at this; subst this; simp at h0
  · exact ⟨g, cap, by rw [e]; simp⟩
theorem strs_at {w : World} {B g n cap : Nat} {ps : List (List UInt8)} (h : OwnsS w B (.slice (some ⟨g, 0, none⟩) n cap) (ps.map strB)) (j : Nat) (hj : j < ps.length) : w.cell? ⟨g, j, none⟩ = some (.string (strB (ps.getD j []))) :=
  ownsS_cell h (by simp [List.getD, hj])
theorem ret_ps {l : List UInt8} {v : Value} {xs : List Int} {b : Bool} (h : parSet l = (xs, b)) : Ending.returned (.tuple #[v, .bool b]) = .returned (.tuple #[v, .bool (parSet l).2]) := by rw [h]
theorem own_ps {l : List UInt8} {w : World} {B : Nat} {v : Value} {xs : List Int} {b : Bool} (h : parSet l = (xs, b)) (ho : OwnsN w B v xs) : OwnsN w B v (parSet l).1 := by rw [h]; exact ho
theorem partTo_two {ps : List (List UInt8)} (h : ps.length = 2) : partTo ps = numL (ps.getD 1 []) := if_pos h
theorem partTo_one {ps : List (List UInt8)} (h : ¬ ps.length = 2) : partTo ps = numL (ps.getD 0 []) := if_neg h
theorem partOk_no {ps : List (List UInt8)} {f t : Int} (hf : numL (ps.getD 0 []) = f) (ht : partTo ps = t) (h : ¬ (ps.length ≤ 2 ∧ (0 ≤ f ∧ f ≤ 23) ∧ (f ≤ t ∧ t ≤ 23))) : partOk ps = false := by unfold partOk; rw [hf, ht]; exact decide_eq_false h
theorem partOk_yes {ps : List (List UInt8)} {f t : Int} (hf : numL (ps.getD 0 []) = f) (ht : partTo ps = t) (h : ps.length ≤ 2 ∧ (0 ≤ f ∧ f ≤ 23) ∧ (f ≤ t ∧ t ≤ 23)) : partOk ps = true ∧ partNums ps = upN f (t - f + 1).toNat := by unfold partOk partNums; rw [hf, ht]; exact ⟨decide_eq_true h, rfl⟩
set_option maxHeartbeats 16000000 in
set_option maxRecDepth 100000 in
theorem specParSet (l : List UInt8) (w : World) (hs : l.length ≤ 1048576) :
    Calls Tryd.prog 24 #[.string (strB l)] w fun e w' => ∃ v, e = .returned (.tuple #[v, .bool (parSet l).2]) ∧ OwnsN w' w.heap.size v (parSet l).1 ∧ Below w.heap.size w w' := by
  by_cases hnone : l = [110, 111, 110, 101]
  · have HP := Lib.hid (parSet_none hnone)
    have e0 : strB l = ⟨#[110, 111, 110, 101]⟩ := by rw [hnone]; rfl
    rw [e0]
    clear hnone e0
    go_enter Tryd.func24, Tryd.ntmps24
    go_wp2
    go_ret2
    exact ⟨_, ret_ps HP.out, own_ps HP.out (ownsN_lit w _ (Nat.le_refl _) #[] 0 [] rfl rfl (by decide)), (Below.refl _ _).alloc (Nat.le_refl _) _⟩
  · have f0 : (strB l).toList = l := strB_toList l
    have f1 : ((strB l).toList == [110, 111, 110, 101]) = false := by rw [f0, beq_eq_false_iff_ne]; exact hnone
    have HNO := Lib.hid hnone
    have HC := Lib.hid (fun w => specCut (strB l) 32 32 w rfl (by rw [strB_size]; exact hs))
    have hPl := cut_len 32 l
    have hP0 := cut_pos 32 l
    have HPQ := Lib.hid (fun k => Nat.le_trans (cut_piece 32 l k) hs)
    clear hnone f0
    go_enter Tryd.func24, Tryd.ntmps24
    go_wp2_with fail
    refine (HC.out _).mono ?_
    rintro e w1 ⟨vp, rfl, op, b1⟩
    have e1 : (strB l).data.toList = l := rfl
    rw [e1] at op
    have hown0 : OwnsN w1 w.heap.size (.slice (some ⟨w.heap.size, 0, none⟩) 0 0) [] := ownsN_below (ownsN_lit w _ (Nat.le_refl _) #[] 0 [] rfl rfl (by decide)) b1
    have hbel0 : Below w.heap.size w w1 := ((Below.refl _ w).alloc (Nat.le_refl _) _).trans (b1.mono (by simp))
    have hap0 : Apart (.slice (some ⟨w.heap.size, 0, none⟩) 0 0) vp := apart_new op (by simp)
    have HNP : Hid (∀ x, parGo [] (cutL 32 l) = x → parGo [] (cutL 32 l) = x) := Lib.hid (fun x h => h)
    generalize hPP : cutL 32 l = P at *
    have HPP := Lib.hid hPP
    clear hPP HNP b1 e1 HC
    obtain ⟨B', hB'⟩ : ∃ B', OwnsS w1 B' vp (P.map strB) := ⟨_, op⟩
    obtain ⟨g, cap, rfl⟩ := strs_head hB' hP0
    clear op f1
    go_wp2
    go_loopw [4, 6] (fun v i wr => ∃ (k : Nat) (xs : List Int), k ≤ P.length ∧ i = .int .i64 k ∧ xs.length ≤ 24 * k ∧ OwnsN wr w.heap.size v xs ∧ OwnsS wr B' (.slice (some ⟨g, 0, none⟩) P.length cap) (P.map strB) ∧ Apart v (.slice (some ⟨g, 0, none⟩) P.length cap) ∧ Below w.heap.size w wr ∧ Hid (parGo xs (P.drop k) = parGo [] P)) (fun _ i _ => P.length - (intOf i).toNat)
    case atStart => exact ⟨0, [], Nat.zero_le _, rfl, Nat.le_refl _, hown0, hB', hap0, hbel0, Lib.hid rfl⟩
    case round =>
      obtain ⟨k, xs, hk, rfl, hxl, hown, hps, hap, hbel, hgo⟩ := hrel
      clear hown0 hB' hap0 hbel0
      by_cases hlt : k < P.length
      · have hcell := strs_at hps k hlt
        have hql := Lib.hid (HPQ.out k)
        have HIT : Hid (partOk (cutL 45 (P.getD k [])) = true → parGo (xs ++ partNums (cutL 45 (P.getD k []))) (P.drop (k + 1)) = parGo [] P) := Lib.hid (fun h => by rw [← parGo_hit hlt h]; exact hgo.out)
        have MISS : Hid (partOk (cutL 45 (P.getD k [])) = false → parSet l = ([], false)) := Lib.hid (fun h => parSet_bad HNO.out (by rw [HPP.out, ← hgo.out]; exact parGo_miss hlt h))
        clear hgo
        generalize P.getD k [] = q at hcell hql HIT MISS
        have i1 : (0 : Int) ≤ (k : Int) := by omega
        have i2 : (k : Int) < (P.length : Int) := by omega
        have HC := Lib.hid (fun w => specCut (strB q) 45 45 w rfl (by rw [strB_size]; exact hql.out))
        go_wp2_with fail
        refine (HC.out _).mono ?_
        rintro e w2 ⟨vl, rfl, ol, b2⟩
        have e1 : (strB q).data.toList = q := rfl
        rw [e1] at ol
        have hown2 := ownsN_below hown b2
        have hps2 := ownsS_below hps b2
        have hbel2 := hbel.trans (b2.mono hbel.size)
        have hL0 := cut_pos 45 q
        have HLQ := Lib.hid (fun k => Nat.le_trans (cut_piece 45 q k) hql.out)
        clear hown hps hbel b2 e1 HC hcell
        generalize cutL 45 q = L at ol hL0 HLQ HIT MISS
        obtain ⟨gl, capl, rfl⟩ := strs_head ol hL0
        have hc0 := strs_at ol 0 hL0
        have HN0 := Lib.hid (fun w => specNum (L.getD 0 []) w (HLQ.out 0))
        obtain ⟨f, hf⟩ : ∃ f, numL (L.getD 0 []) = f := ⟨_, rfl⟩
        have HF := Lib.hid hf
        rw [hf] at HN0
        generalize L.getD 0 [] = r0 at hc0 HN0
        clear hf
        have i3 : (0 : Int) < (L.length : Int) := by omega
        go_wp2_with fail
        refine (HN0.out _).mono ?_
        rintro e w3 ⟨rfl, b3⟩
        have hown3 := ownsN_below hown2 b3
        have hps3 := ownsS_below hps2 b3
        have hbel3 := hbel2.trans (b3.mono hbel2.size)
        have ol3 := ownsS_below ol b3
        clear hown2 hps2 hbel2 b3 ol HN0 hc0
        by_cases h2 : L.length = 2
        · have hc1 := strs_at ol3 1 (by omega)
          have HN1 := Lib.hid (fun w => specNum (L.getD 1 []) w (HLQ.out 1))
          obtain ⟨t, ht⟩ : ∃ t, numL (L.getD 1 []) = t := ⟨_, rfl⟩
          have HT : Hid (partTo L = t) := Lib.hid ((partTo_two h2).trans ht)
          rw [ht] at HN1
          generalize L.getD 1 [] = r1 at hc1 HN1
          clear ht
          have i4 : (1 : Int) < (L.length : Int) := by omega
          have i5 : (L.length : Int) = 2 := by omega
          go_wp2_with fail
          refine (HN1.out _).mono ?_
          rintro e w4 ⟨rfl, b4⟩
          have hown4 := ownsN_below hown3 b4
          have hps4 := ownsS_below hps3 b4
          have hbel4 := hbel3.trans (b4.mono hbel3.size)
          clear hown3 hps3 hbel3 b4 ol3 HN1 hc1
          have hgt : decide ((2 : Int) < (L.length : Int)) = false := by rw [decide_eq_false_iff_not]; omega
          by_cases hfi : 0 ≤ f ∧ f ≤ 23
          · by_cases hti : f ≤ t ∧ t ≤ 23
            · have GOOD : Hid (L.length ≤ 2 ∧ (0 ≤ f ∧ f ≤ 23) ∧ (f ≤ t ∧ t ≤ 23)) := Lib.hid ⟨by omega, hfi, hti⟩
              obtain ⟨f0, f1⟩ := hfi
              obtain ⟨t0, t1⟩ := hti
              go_wp2_with fail
              refine (in_yes _ _ _ _ f0 f1).mono ?_
              rintro e wx ⟨rfl, rfl⟩
              go_wp2_with fail
              refine (in_yes _ _ _ _ t0 t1).mono ?_
              rintro e wx ⟨rfl, rfl⟩
              go_wp2
              have HOK := partOk_yes HF.out HT.out GOOD.out
              obtain ⟨hok1, hok2⟩ := HOK
              have HG : Hid (parGo (xs ++ upN f (t - f + 1).toNat) (P.drop (k + 1)) = parGo [] P) := Lib.hid (by rw [← hok2]; exact HIT.out hok1)
              clear hok1 hok2 HIT MISS
              go_loopw [4, 10] (fun v i wr => ∃ (n : Nat), n ≤ (t - f + 1).toNat ∧ i = .int .i64 (f + (n : Int)) ∧ OwnsN wr w.heap.size v (xs ++ upN f n) ∧ OwnsS wr B' (.slice (some ⟨g, 0, none⟩) P.length cap) (P.map strB) ∧ Apart v (.slice (some ⟨g, 0, none⟩) P.length cap) ∧ Below w.heap.size w wr) (fun _ i _ => (24 - (intOf i)).toNat)
              case atStart => exact ⟨0, Nat.zero_le _, by simp, by simpa [upN] using hown4, hps4, hap, hbel4⟩
              case round =>
                obtain ⟨n, hn, rfl, hown5, hps5, hap5, hbel5⟩ := hrel
                clear hown4 hps4 hap hbel4
                have hB5 := hbel5.size
                by_cases hle : f + (n : Int) ≤ t
                · have HU := Lib.hid (upN_succ f n)
                  have HLN : Hid ((xs ++ upN f n).length + 1 ≤ 17592186044416) := Lib.hid (by simp [upN_len]; omega)
                  go_wp2_with (at_builtin; refine append_ints_at rfl (.tmp 61) (.tmp 63) rfl w.heap.size _ _ rfl hown5 hB5 _ [f + (n : Int)] 1 _ rfl (by first | rfl | (simp; done)) rfl (by have := HLN.out; simp at this ⊢; omega) ?_)
                  intro v' w6 hown6 hb6 hgr6 hat6
                  have hps6 := ownsS_kept hps5 hgr6 hap5
                  have hap6 := apart_step hps5 hap5 hat6
                  have hbel6 := hbel5.trans hb6
                  clear hown5 hps5 hap5 hbel5 hb6 hgr6 hat6
                  go_wp2
                  go_roundw
                  case rel => exact ⟨n + 1, by omega, by go_num, by rw [HU.out]; simpa using hown6, hps6, hap6, hbel6⟩
                  case measure => simp [intOf]; omega
                · have hn2 : n = (t - f + 1).toNat := by omega
                  have HLN : Hid ((xs ++ upN f n).length ≤ 24 * (k + 1)) := Lib.hid (by simp [upN_len]; omega)
                  rw [← hn2] at HG
                  go_wp2
                  go_roundw
                  case rel => exact ⟨k + 1, xs ++ upN f n, by omega, by go_num, HLN.out, hown5, hps5, hap5, hbel5, HG⟩
                  case measure => simp [intOf]; omega
            · have HI := Lib.hid hti
              obtain ⟨f0, f1⟩ := hfi
              have HM := Lib.hid (MISS.out (partOk_no HF.out HT.out (fun g => hti g.2.2)))
              clear HIT MISS
              go_wp2_with fail
              refine (in_yes _ _ _ _ f0 f1).mono ?_
              rintro e wx ⟨rfl, rfl⟩
              go_wp2_with fail
              refine (in_no _ _ _ _ HI.out).mono ?_
              rintro e wx ⟨rfl, rfl⟩
              go_wp2
              go_ret2
              exact ⟨_, ret_ps HM.out, own_ps HM.out (ownsN_lit _ _ hbel4.size #[] 0 [] rfl rfl (by decide)), hbel4.alloc hbel4.size _⟩
          · have HI := Lib.hid hfi
            have HM := Lib.hid (MISS.out (partOk_no HF.out HT.out (fun g => hfi g.2.1)))
            clear HIT MISS
            go_wp2_with fail
            refine (in_no _ _ _ _ HI.out).mono ?_
            rintro e wx ⟨rfl, rfl⟩
            go_wp2
            go_ret2
            exact ⟨_, ret_ps HM.out, own_ps HM.out (ownsN_lit _ _ hbel4.size #[] 0 [] rfl rfl (by decide)), hbel4.alloc hbel4.size _⟩
        · have HT : Hid (partTo L = f) := Lib.hid (by rw [partTo_one h2]; exact HF.out)
          have i5 : ¬ (L.length : Int) = 2 := by omega
          by_cases h3 : 2 < L.length
          · have hgt : decide ((2 : Int) < (L.length : Int)) = true := by rw [decide_eq_true_eq]; omega
            have h4 : (2 : Int) < (L.length : Int) := by omega
            have HM := Lib.hid (MISS.out (partOk_no HF.out HT.out (fun g => absurd g.1 (by omega))))
            clear HIT MISS
            skip
            go_wp2
            go_ret2
            exact ⟨_, ret_ps HM.out, own_ps HM.out (ownsN_lit _ _ hbel3.size #[] 0 [] rfl rfl (by decide)), hbel3.alloc hbel3.size _⟩
          · have hgt : decide ((2 : Int) < (L.length : Int)) = false := by rw [decide_eq_false_iff_not]; omega
            have h4 : ¬ (2 : Int) < (L.length : Int) := by omega
            by_cases hfi : 0 ≤ f ∧ f ≤ 23
            · by_cases hti : f ≤ f ∧ f ≤ 23
              · have GOOD : Hid (L.length ≤ 2 ∧ (0 ≤ f ∧ f ≤ 23) ∧ (f ≤ f ∧ f ≤ 23)) := Lib.hid ⟨by omega, hfi, hti⟩
                obtain ⟨f0, f1⟩ := hfi
                obtain ⟨t0, t1⟩ := hti
                go_wp2_with fail
                refine (in_yes _ _ _ _ f0 f1).mono ?_
                rintro e wx ⟨rfl, rfl⟩
                go_wp2_with fail
                refine (in_yes _ _ _ _ t0 t1).mono ?_
                rintro e wx ⟨rfl, rfl⟩
                go_wp2
                have HOK := partOk_yes HF.out HT.out GOOD.out
                obtain ⟨hok1, hok2⟩ := HOK
                have HG : Hid (parGo (xs ++ upN f (f - f + 1).toNat) (P.drop (k + 1)) = parGo [] P) := Lib.hid (by rw [← hok2]; exact HIT.out hok1)
                clear hok1 hok2 HIT MISS
                go_loopw [4, 10] (fun v i wr => ∃ (n : Nat), n ≤ (f - f + 1).toNat ∧ i = .int .i64 (f + (n : Int)) ∧ OwnsN wr w.heap.size v (xs ++ upN f n) ∧ OwnsS wr B' (.slice (some ⟨g, 0, none⟩) P.length cap) (P.map strB) ∧ Apart v (.slice (some ⟨g, 0, none⟩) P.length cap) ∧ Below w.heap.size w wr) (fun _ i _ => (24 - (intOf i)).toNat)
                case atStart => exact ⟨0, Nat.zero_le _, by simp, by simpa [upN] using hown3, hps3, hap, hbel3⟩
                case round =>
                  obtain ⟨n, hn, rfl, hown5, hps5, hap5, hbel5⟩ := hrel
                  clear hown3 hps3 hap hbel3
                  have hB5 := hbel5.size
                  by_cases hle : f + (n : Int) ≤ f
                  · have HU := Lib.hid (upN_succ f n)
                    have HLN : Hid ((xs ++ upN f n).length + 1 ≤ 17592186044416) := Lib.hid (by simp [upN_len]; omega)
                    go_wp2_with (at_builtin; refine append_ints_at rfl (.tmp 61) (.tmp 63) rfl w.heap.size _ _ rfl hown5 hB5 _ [f + (n : Int)] 1 _ rfl (by first | rfl | (simp; done)) rfl (by have := HLN.out; simp at this ⊢; omega) ?_)
                    intro v' w6 hown6 hb6 hgr6 hat6
                    have hps6 := ownsS_kept hps5 hgr6 hap5
                    have hap6 := apart_step hps5 hap5 hat6
                    have hbel6 := hbel5.trans hb6
                    clear hown5 hps5 hap5 hbel5 hb6 hgr6 hat6
                    go_wp2
                    go_roundw
                    case rel => exact ⟨n + 1, by omega, by go_num, by rw [HU.out]; simpa using hown6, hps6, hap6, hbel6⟩
                    case measure => simp [intOf]; omega
                  · have hn2 : n = (f - f + 1).toNat := by omega
                    have HLN : Hid ((xs ++ upN f n).length ≤ 24 * (k + 1)) := Lib.hid (by simp [upN_len]; omega)
                    rw [← hn2] at HG
                    go_wp2
                    go_roundw
                    case rel => exact ⟨k + 1, xs ++ upN f n, by omega, by go_num, HLN.out, hown5, hps5, hap5, hbel5, HG⟩
                    case measure => simp [intOf]; omega
              · exact absurd ⟨Int.le_refl _, hfi.2⟩ hti
            · have HI := Lib.hid hfi
              have HM := Lib.hid (MISS.out (partOk_no HF.out HT.out (fun g => hfi g.2.1)))
              clear HIT MISS
              go_wp2_with fail
              refine (in_no _ _ _ _ HI.out).mono ?_
              rintro e wx ⟨rfl, rfl⟩
              go_wp2
              go_ret2
              exact ⟨_, ret_ps HM.out, own_ps HM.out (ownsN_lit _ _ hbel3.size #[] 0 [] rfl rfl (by decide)), hbel3.alloc hbel3.size _⟩
      · obtain rfl : k = P.length := by omega
        have hg := hgo.out
        rw [List.drop_eq_nil_of_le (Nat.le_refl _)] at hg
        have HGO : Hid (parGo [] (cutL 32 l) = some xs) := Lib.hid (by rw [HPP.out]; exact hg.symm)
        clear hg hgo hps hap
        have HFS := Lib.hid (fun u w h => specFmtSetBig u xs w h (by omega))
        have hv0 := ownsN_ints hown
        go_wp2_with fail
        refine (HFS.out _ _ hv0).mono ?_
        rintro e w2 ⟨rfl, b2⟩
        have hown2 := ownsN_below hown b2
        have hbel2 := hbel.trans (b2.mono hbel.size)
        clear hown hbel b2 hv0 HFS
        by_cases hfm : fmtSet xs = l
        · have HM := Lib.hid (parSet_yes HNO.out HGO.out hfm)
          have heq : ((strB (fmtSet xs)).toList == (strB l).toList) = true := by rw [hfm]; simp
          clear hfm
          generalize strB (fmtSet xs) = y at heq ⊢
          go_wp2
          go_ret2
          exact ⟨_, ret_ps HM.out, own_ps HM.out hown2, hbel2⟩
        · have HM := Lib.hid (parSet_no HNO.out HGO.out hfm)
          have heq : ((strB (fmtSet xs)).toList == (strB l).toList) = false := by rw [beq_eq_false_iff_ne, strB_toList, strB_toList]; exact hfm
          clear hfm
          generalize strB (fmtSet xs) = y at heq ⊢
          go_wp2
          go_ret2
          exact ⟨_, ret_ps HM.out, own_ps HM.out (ownsN_lit _ _ hbel2.size #[] 0 [] rfl rfl (by decide)), hbel2.alloc hbel2.size _⟩
end Go.Proofs.YtecfhgfjfnjagaaDoor
