/-
  The walk that marks the queries of a slice.
-/
import Derived.Test.YteelgogfpidcdaaQueryMark
namespace Go.Proofs.Yteelgogfpidcdaa
open Go.RowKit
set_option linter.unusedVariables false
theorem getD_set_q {L : List QD} {j : Nat} (hj : j < L.length) (q : QD) : (L.set j q).getD j q0D = q := by simp [List.getD, hj]
theorem ownsQV_mid {w w2 : World} {B g n cap : Nat} {L : List QD} {vs : Nat → Value} (h : OwnsQV w B (.slice (some ⟨g, 0, none⟩) n cap) L vs) {j : Nat} (hj : j < L.length) (m m2 : Int) {cs2 : List CondD}
    (hg : ((w.setCell ⟨g, j * 4, none⟩ (.int .i64 m)).setCell ⟨g, j * 4 + 1, none⟩ (.int .i64 m2)).grownBy w2 (vs (2 * j)).ownBlock) (ho : OwnsC w2 B (vs (2 * j)) cs2) :
    OwnsQV w2 B (.slice (some ⟨g, 0, none⟩) n cap) (L.set j (m, m2, cs2, (L.getD j q0D).2.2.2)) vs := by
  have b := ownsQV_conds (ownsQV_two h hj m m2) (by rw [List.length_set]; exact hj) hg ho
  rw [getD_set_q hj, List.set_set] at b
  exact b
theorem ownsQV_fin {w2 w3 : World} {B : Nat} {v : Value} {L : List QD} {vs : Nat → Value} {j : Nat} {m m2 : Int} {cs2 : List CondD} {os os2 : List Int} (h : OwnsQV w2 B v (L.set j (m, m2, cs2, os)) vs) (hj : j < L.length)
    (hg : w2.grownBy w3 (vs (2 * j + 1)).ownBlock) (ho : OwnsN w3 B (vs (2 * j + 1)) os2) : OwnsQV w3 B v (L.set j (m, m2, cs2, os2)) vs := by
  have b := ownsQV_outs h (by rw [List.length_set]; exact hj) hg ho
  rw [getD_set_q hj, List.set_set] at b
  exact b
theorem ownsQV_third {w2 : World} {B g n cap : Nat} {L : List QD} {vs : Nat → Value} {j : Nat} {m m2 : Int} {cs2 : List CondD} {os : List Int} (h : OwnsQV w2 B (.slice (some ⟨g, 0, none⟩) n cap) (L.set j (m, m2, cs2, os)) vs) (hj : j < L.length) :
    w2.cell? ⟨g, j * 4 + 3, none⟩ = some (vs (2 * j + 1)) ∧ OwnsN w2 B (vs (2 * j + 1)) os := by
  obtain ⟨_, _, _, c3, _, _, _, on, _, _⟩ := ownsQV_cells h (j := j) (by rw [List.length_set]; exact hj)
  rw [getD_set_q hj] at on
  exact ⟨c3, on⟩
set_option maxHeartbeats 8000000 in
set_option maxRecDepth 100000 in
theorem markQueryS_V (v : Value) (qs : List QD) (vs : Nat → Value) (B hi : Nat) (k : Int) (w : World) (hv : OwnsQV w B v qs vs) (hvb : ∀ i, i < 2 * qs.length → ∀ b, (vs i).ownBlock = some b → B ≤ b ∧ b < hi) (hgb : ∀ b, v.ownBlock = some b → B ≤ b ∧ b < hi) (hs : szQL qs ≤ 1048576) (k0 : 0 ≤ k) (k1 : k ≤ 1048576) :
    Calls Try.prog 45 #[v, .int .i64 k] w fun e w' => e = .returned (.int .i64 (qkAt qs k qs.length)) ∧ OwnsQ w' B v (mQueries qs k) ∧ Only B hi w w' := by
  have h := ownsQ_of hv
  have HS := Lib.hid hs
  have hlen := szQL_len hs
  rcases ownsQV_form hv with ⟨rfl, rfl⟩ | ⟨g, cap, rfl, hBg, hgw⟩
  · have H := Lib.hid h
    clear h hs hv hvb hgb
    go_enter Try.func45, Try.ntmps45
    go_wp2
    go_loop [1, 5] (fun m i => i = .int .i64 0 ∧ m = .int .i64 k) (fun _ _ => 0)
    case atStart => exact ⟨rfl, rfl⟩
    case round =>
      obtain ⟨rfl, rfl⟩ := hrel
      go_wp2
      go_ret
      exact ⟨by simp [qkAt], by rw [show mQueries [] k = [] from rfl]; exact H.out, Only.refl _ _ _⟩
  · have HV := Lib.hid hvb
    have hgl : g < hi := (hgb g rfl).2
    have HO := Lib.hid hv
    clear h hs hv hvb hgb hgw
    go_enter Try.func45, Try.ntmps45
    go_wp2
    go_loopw [1, 5] (fun m i wr => ∃ j : Nat, j ≤ qs.length ∧ i = .int .i64 j ∧ m = .int .i64 (qkAt qs k j) ∧ OwnsQV wr B (.slice (some ⟨g, 0, none⟩) qs.length cap) (qmarkTo qs k j) vs ∧ Only B hi w wr) (fun _ i _ => qs.length - (intOf i).toNat)
    case atStart => exact ⟨0, Nat.zero_le _, rfl, by rw [qkAt_zero], by rw [qmarkTo_zero]; exact HO.out, Only.refl _ _ _⟩
    case round =>
      obtain ⟨j, hj, rfl, rfl, hown, hon⟩ := hrel
      by_cases hlt : j < qs.length
      · have i1 : (0 : Int) ≤ (j : Int) := by omega
        have i2 : (j : Int) < (qs.length : Int) := by omega
        have hjl : j < (qmarkTo qs k j).length := by rw [qmarkTo_len hj]; exact hlt
        have HJL := Lib.hid hjl
        obtain ⟨c1, c1b, c2, _, f1, f1b, o1, _, n1, _⟩ := ownsQV_cells hown hjl
        obtain ⟨r1, r2⟩ := qkAt_range (k := k) HS.out hj
        obtain ⟨hcl, hxl⟩ := szQL_at HS.out hlt
        have hstep := qkAt_step (k := k) hlt
        have hset := Lib.hid (qmarkTo_step (k := k) hlt)
        have hmr : mQuery qs k j = (qkAt qs k j, qkAt qs k j + 1, marksC (qkAt qs k j + 1 + 1) (qs.getD j q0D).2.2.1.length, marks (qkAt qs k j + 1 + 1 + 3 * ((qs.getD j q0D).2.2.1.length : Int)) (qs.getD j q0D).2.2.2.length) := rfl
        rw [hmr] at hset
        generalize qkAt qs k j = m at *
        have HM : Hid (∃ m', qkAt qs k (j + 1) = m') := Lib.hid ⟨_, rfl⟩
        obtain ⟨m', hm'⟩ := HM.out
        rw [hm'] at hstep
        have HM' := Lib.hid hm'
        clear hm' HM
        have HMID := Lib.hid (fun w2 => ownsQV_mid (w2 := w2) hown hjl m (m + 1) (cs2 := marksC (m + 1 + 1) (qs.getD j q0D).2.2.1.length))
        rw [qmarkTo_at hlt] at c1 c1b o1 HMID
        have HSET := hset.out
        replace HSET := Lib.hid HSET
        clear hset hmr
        generalize qmarkTo qs k j = L at *
        generalize qs.getD j q0D = q at *
        obtain ⟨qid, qtn, cs, os⟩ := q
        simp only at c1 c1b o1 hxl hcl hstep HMID HSET
        have hne : (vs (2 * j)).ownBlock = none ∨ (vs (2 * j)).ownBlock ≠ some g := Or.inr n1
        have o2 : OwnsC ((wr.setCell ⟨g, j * 4, none⟩ (.int .i64 m)).setCell ⟨g, j * 4 + 1, none⟩ (.int .i64 (m + 1))) B (vs (2 * j)) cs := World.ownsRow.kept (World.ownsRow.kept o1 (grow_set wr g (j * 4) _) hne) (grow_set _ g (j * 4 + 1) _) hne
        have HVA := Lib.hid (HV.out (2 * j) (by omega))
        have HVB := Lib.hid (HV.out (2 * j + 1) (by omega))
        clear hown n1 hne o1 HO hjl
        obtain ⟨u, hu⟩ : ∃ u, vs (2 * j) = u := ⟨_, rfl⟩
        rw [hu] at c2 HVA HMID o2
        have HU := Lib.hid hu
        clear hu
        go_wp2_with fail
        refine (markCondS_any u cs B (m + 1 + 1) _ o2 hcl (by omega) (by omega)).mono ?_
        rintro e w2 ⟨rfl, ou, hg⟩
        have hmid := HMID.out w2 hg ou
        obtain ⟨c3, on⟩ := ownsQV_third hmid HJL.out
        have HON2 := Lib.hid (((hon.trans (only_grown (grow_set wr g (j * 4) (.int .i64 m)) (fun b hb => by cases hb; exact ⟨hBg, hgl⟩))).trans (only_grown (grow_set _ g (j * 4 + 1) (.int .i64 (m + 1))) (fun b hb => by cases hb; exact ⟨hBg, hgl⟩))).trans (only_grown hg HVA.out))
        have HFIN := Lib.hid (fun w3 => ownsQV_fin (w3 := w3) (os2 := marks (m + 1 + 1 + 3 * (cs.length : Int)) os.length) hmid HJL.out)
        rw [HSET.out] at HFIN
        clear HMID ou hg hon hmid o2 c1 c1b c2 f1 f1b HSET
        obtain ⟨u2, hu2⟩ : ∃ u2, vs (2 * j + 1) = u2 := ⟨_, rfl⟩
        rw [hu2] at c3 on HVB HFIN
        have HU2 := Lib.hid hu2
        clear hu2
        go_wp2_with fail
        refine (markIntS_any u2 os B (m + 1 + 1 + 3 * (cs.length : Int)) _ on hxl (by omega) (by omega)).mono ?_
        rintro e w3 ⟨rfl, ou, hg⟩
        have HV2 := Lib.hid (HFIN.out w3 hg ou)
        have hon3 := HON2.out.trans (only_grown hg HVB.out)
        clear HFIN ou hg HON2 on c3
        have hmm : m + 1 + 1 + 3 * (cs.length : Int) + (os.length : Int) = m' := by omega
        rw [hmm]
        clear hmm hstep
        go_wp2
        go_roundw
        case rel => exact ⟨j + 1, by omega, by go_num, by rw [HM'.out], HV2.out, hon3⟩
        case measure => simp [intOf]; omega
      · obtain rfl : j = qs.length := by omega
        rw [qmarkTo_all] at hown
        go_wp2
        go_ret
        exact ⟨rfl, ownsQ_of hown, hon⟩
theorem markQueryS_any (v : Value) (qs : List QD) (B : Nat) (k : Int) (w0 w : World) (h0 : OwnsQ w0 B v qs) (hb0 : Below w0.heap.size w0 w) (hs : szQL qs ≤ 1048576) (k0 : 0 ≤ k) (k1 : k ≤ 1048576) :
    Calls Try.prog 45 #[v, .int .i64 k] w fun e w' => e = .returned (.int .i64 (qkAt qs k qs.length)) ∧ OwnsQ w' B v (mQueries qs k) ∧ Only B w0.heap.size w w' := by
  obtain ⟨vs, hv0⟩ := ownsQV_of h0
  exact markQueryS_V v qs vs B w0.heap.size k w (ownsQV_below hv0 hb0) (ownsQV_bound hv0).1 (ownsQV_bound hv0).2 hs k0 k1
end Go.Proofs.Yteelgogfpidcdaa
