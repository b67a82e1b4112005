/-
  The program's EqualRows: slices.EqualFunc over its comparison of two rows.
-/
import Derived.Test.YtjmiihgaaagojaaRowEqP
namespace Go.Proofs.Ytjmiihgaaagojaa
open Go.RowKit
set_option linter.unusedVariables false
set_option linter.unusedSimpArgs false
set_option maxHeartbeats 8000000 in
set_option maxRecDepth 100000 in
theorem equalFunc_any (v u : Value) (rs ss : List RowD) (w : World) (h : RowsR w v rs) (g : RowsR w u ss) (hs : szL rs ≤ 1048576) (ht : szL ss ≤ 1048576) :
    Calls Try.prog 30 #[v, u, .func (.func 31) #[] #[]] w fun e w' => e = .returned (.bool (decide (rs = ss))) ∧ Below w.heap.size w w' := by
  have H := Lib.hid h
  have G := Lib.hid g
  have HS := Lib.hid hs
  have HT := Lib.hid ht
  have hlen := szL_len hs
  have hlen2 := szL_len ht
  obtain ⟨a, cap, rfl⟩ := rowsR_len h
  obtain ⟨a2, cap2, rfl⟩ := rowsR_len g
  clear h g hs ht
  by_cases hl : rs.length = ss.length
  · have HL := Lib.hid hl
    have hne : ((rs.length : Int) != (ss.length : Int)) = false := by rw [hl]; simp
    clear hl
    go_enter Try.func30, Try.ntmps30
    go_wp2
    clear hne
    go_loopw [17] (fun i wr => ∃ k : Nat, k ≤ rs.length ∧ i = .int .i64 k ∧ Hid (∀ j, j < k → rs.getD j (0, []) = ss.getD j (0, [])) ∧ Below w.heap.size w wr) (fun i _ => rs.length - (intOf i).toNat)
    case atStart => exact ⟨0, Nat.zero_le _, rfl, Lib.hid (fun j hj => by omega), Below.refl _ _⟩
    case round =>
      obtain ⟨k, hk, rfl, hall, hbel⟩ := hrel
      by_cases hlt : k < rs.length
      · have hlt2 : k < ss.length := by have := HL.out; omega
        obtain ⟨b, off, cap', vv, hv, hbl, hc1, hc2, hI⟩ := rowsR_at (rowsR_below H.out hbel) hlt
        simp only [Value.slice.injEq] at hv
        obtain ⟨rfl, _, rfl⟩ := hv
        obtain ⟨b2, off2, cap2', uv, hv2, hbl2, hd1, hd2, hJ⟩ := rowsR_at (rowsR_below G.out hbel) hlt2
        simp only [Value.slice.injEq] at hv2
        obtain ⟨rfl, _, rfl⟩ := hv2
        have hxl := szL_row HS.out hlt
        have hyl := szL_row HT.out hlt2
        have i1 : (0 : Int) ≤ (k : Int) := by omega
        have i2 : (k : Int) < (rs.length : Int) := by omega
        have i3 : (k : Int) < (ss.length : Int) := by omega
        have HNE := Lib.hid (fun e => decide_eq_false (rows_ne_at (rs := rs) (ss := ss) (k := k) e))
        have HALL : Hid (rs.getD k (0, []) = ss.getD k (0, []) → ∀ j, j < k + 1 → rs.getD j (0, []) = ss.getD j (0, [])) := Lib.hid (fun he j hj => by
          by_cases e : j = k
          · exact e ▸ he
          · exact hall.out j (by omega))
        clear hall
        generalize rs.getD k (0, []) = r at *
        generalize ss.getD k (0, []) = q at *
        obtain ⟨id, xs⟩ := r
        obtain ⟨id2, ys⟩ := q
        simp only at hc1 hc2 hd1 hd2 hI hJ hxl hyl
        obtain ⟨va, vcap, rfl⟩ := ints_len hI
        obtain ⟨ua, ucap, rfl⟩ := ints_len hJ
        have HSM := Lib.hid (fun w h g => equalRow_any id id2 (.slice va xs.length vcap) (.slice ua ys.length ucap) xs ys w h g hxl hyl)
        have bb := ((Below.refl wr.heap.size wr).alloc (Nat.le_refl _) (.cells #[.int .i64 id, .slice va xs.length vcap] 27)).alloc (by simp) (.cells #[.int .i64 id2, .slice ua ys.length ucap] 27)
        have hd1' := ((Below.refl wr.heap.size wr).alloc (Nat.le_refl _) (.cells #[.int .i64 id, .slice va xs.length vcap] 27)).cell (p := ⟨b2, off2 + k * 2, none⟩) hbl2
        have hd2' := ((Below.refl wr.heap.size wr).alloc (Nat.le_refl _) (.cells #[.int .i64 id, .slice va xs.length vcap] 27)).cell (p := ⟨b2, off2 + k * 2 + 1, none⟩) hbl2
        rw [hd1] at hd1'
        rw [hd2] at hd2'
        by_cases he : ((id, xs) : RowD) = (id2, ys)
        · have HA := Lib.hid (HALL.out he)
          rw [decide_eq_true he] at HSM
          clear he HNE HALL
          go_wp2_with fail
          refine (HSM.out _ (ints_below hI bb) (ints_below hJ bb)).mono ?_
          rintro e w8 ⟨rfl, b9⟩
          have b11 := hbel.trans ((bb.trans (b9.mono bb.size)).mono hbel.size)
          clear b9 bb hd1' hd2'
          go_wp2
          go_roundw
          case rel => exact ⟨k + 1, by omega, by go_num, HA, b11⟩
          case measure => simp [intOf]; omega
        · have HF := Lib.hid (HNE.out he)
          rw [decide_eq_false he] at HSM
          clear he HNE HALL
          go_wp2_with fail
          refine (HSM.out _ (ints_below hI bb) (ints_below hJ bb)).mono ?_
          rintro e w8 ⟨rfl, b9⟩
          have b11 := hbel.trans ((bb.trans (b9.mono bb.size)).mono hbel.size)
          clear b9 bb hd1' hd2'
          go_wp2
          go_ret
          exact ⟨ret_b HF.out.symm, b11⟩
      · obtain rfl : k = rs.length := by omega
        have HE := Lib.hid (decide_eq_true (rows_eq_all HL.out hall.out))
        clear hall
        go_wp2
        go_ret
        exact ⟨ret_b HE.out.symm, hbel⟩
  · have HF := Lib.hid (decide_eq_false (show ¬ rs = ss from fun e => hl (by rw [e])))
    have hne : ((rs.length : Int) != (ss.length : Int)) = true := by rw [bne_iff_ne]; omega
    clear hl
    go_enter Try.func30, Try.ntmps30
    go_wp2
    go_ret
    exact ⟨ret_b HF.out.symm, Below.refl _ _⟩
set_option maxHeartbeats 2000000 in
set_option maxRecDepth 100000 in
theorem implEqualRows (v u : Value) (rs ss : List RowD) (w : World) (h : RowsR w v rs) (g : RowsR w u ss) (hs : szL rs ≤ 1048576) (ht : szL ss ≤ 1048576) :
    Calls Try.prog 18 #[v, u] w fun e w' => e = .returned (.bool (decide (rs = ss))) ∧ Below w.heap.size w w' := by
  have H := Lib.hid (fun w h g => equalFunc_any v u rs ss w h g hs ht)
  have HV := Lib.hid h
  have HU := Lib.hid g
  clear h g hs ht
  generalize decide (rs = ss) = r at *
  go_enter Try.func18, Try.ntmps18
  go_wp2_with fail
  refine (H.out _ HV.out HU.out).mono ?_
  rintro e w1 ⟨rfl, b1⟩
  go_wp2
  go_ret
  exact ⟨rfl, b1⟩
end Go.Proofs.Ytjmiihgaaagojaa
