/-
  The program's functions on sets answer what the specification's do.
-/
import Derived.Test.YtecfhgfjfnjagaaDoorMaskMem
namespace Go.Proofs.YtecfhgfjfnjagaaDoor
open Go.RowKit
set_option linter.unusedVariables false
theorem ownsN_base {w : World} {B C : Nat} {v : Value} {xs : List Int} (h : OwnsN w C v xs) (hb : B ≤ C) : OwnsN w B v xs := by
  refine ⟨h.1, ?_⟩
  rcases h.2 with hn | ⟨g, cap, cur, e, hb', rest⟩
  · exact .inl hn
  · exact .inr ⟨g, cap, cur, e, Nat.le_trans hb hb', rest⟩
set_option maxHeartbeats 2000000 in
set_option maxRecDepth 100000 in
theorem implUniteSets (va vb : Value) (a b : List Int) (w : World) (ha : Ints w va a) (hb : Ints w vb b) (na : a.length ≤ 1048576) (nb : b.length ≤ 1048576) :
    Calls Tryd.prog 8 #[va, vb] w (Fresh w (uniteL a b)) := by
  have H := Lib.hid (implMasksOf va vb a b w ha hb na nb)
  have HX := Lib.hid (maskA_lt a b)
  have HY := Lib.hid (maskB_lt a b)
  have HE := Lib.hid (unite_mask a b)
  clear ha hb na nb
  generalize uniteL a b = r at *
  generalize maskA a b = x at *
  generalize maskB a b = y at *
  go_enter Tryd.func8, Tryd.ntmps8
  go_wp2_with fail
  refine H.out.mono ?_
  rintro e w1 ⟨rfl, b1⟩
  go_wp2_with fail
  rw [or_u32 x y (by have := HX.out; omega) (by have := HY.out; omega)]
  refine (implMembers (x ||| y) _ (Nat.or_lt_two_pow (n := 24) HX.out HY.out)).mono ?_
  rw [HE.out]
  rintro e w2 ⟨v, rfl, o2, b2⟩
  go_wp2
  go_ret
  exact ⟨_, rfl, ownsN_base o2 b1.size, b1.trans (b2.mono b1.size)⟩
set_option maxHeartbeats 2000000 in
set_option maxRecDepth 100000 in
theorem implMeetSets (va vb : Value) (a b : List Int) (w : World) (ha : Ints w va a) (hb : Ints w vb b) (na : a.length ≤ 1048576) (nb : b.length ≤ 1048576) :
    Calls Tryd.prog 9 #[va, vb] w (Fresh w (meetL a b)) := by
  have H := Lib.hid (implMasksOf va vb a b w ha hb na nb)
  have HX := Lib.hid (maskA_lt a b)
  have HY := Lib.hid (maskB_lt a b)
  have HE := Lib.hid (meet_mask a b)
  clear ha hb na nb
  generalize meetL a b = r at *
  generalize maskA a b = x at *
  generalize maskB a b = y at *
  go_enter Tryd.func9, Tryd.ntmps9
  go_wp2_with fail
  refine H.out.mono ?_
  rintro e w1 ⟨rfl, b1⟩
  go_wp2_with fail
  rw [and_u32 x y (by have := HX.out; omega) (by have := HY.out; omega)]
  refine (implMembers (x &&& y) _ (Nat.and_lt_two_pow (n := 24) _ HY.out)).mono ?_
  rw [HE.out]
  rintro e w2 ⟨v, rfl, o2, b2⟩
  go_wp2
  go_ret
  exact ⟨_, rfl, ownsN_base o2 b1.size, b1.trans (b2.mono b1.size)⟩
set_option maxHeartbeats 2000000 in
set_option maxRecDepth 100000 in
theorem implSubtractSets (va vb : Value) (a b : List Int) (w : World) (ha : Ints w va a) (hb : Ints w vb b) (na : a.length ≤ 1048576) (nb : b.length ≤ 1048576) :
    Calls Tryd.prog 10 #[va, vb] w (Fresh w (subL a b)) := by
  have H := Lib.hid (implMasksOf va vb a b w ha hb na nb)
  have HX := Lib.hid (maskA_lt a b)
  have HY := Lib.hid (maskB_lt a b)
  have HE := Lib.hid (sub_mask a b)
  clear ha hb na nb
  generalize subL a b = r at *
  generalize maskA a b = x at *
  generalize maskB a b = y at *
  go_enter Tryd.func10, Tryd.ntmps10
  go_wp2_with fail
  refine H.out.mono ?_
  rintro e w1 ⟨rfl, b1⟩
  go_wp2_with fail
  rw [andNot_u32 x y (by have := HX.out; omega) (by have := HY.out; omega)]
  refine (implMembers (x &&& (4294967295 ^^^ y)) _ (andNot_lt _ HX.out)).mono ?_
  rw [HE.out]
  rintro e w2 ⟨v, rfl, o2, b2⟩
  go_wp2
  go_ret
  exact ⟨_, rfl, ownsN_base o2 b1.size, b1.trans (b2.mono b1.size)⟩
set_option maxHeartbeats 1000000 in
set_option maxRecDepth 100000 in
theorem implIndex (v : Value) (xs : List Int) (x : Int) (w : World) (h : Ints w v xs) (hn : xs.length ≤ 1048576) :
    Calls Tryd.prog 49 #[v, .int .i64 x] w fun e w' => (∃ n : Int, e = .returned (.int .i64 n) ∧ (0 ≤ n ↔ x ∈ xs) ∧ -1 ≤ n) ∧ w' = w := by
  have H := Lib.hid h
  obtain ⟨a, cap, rfl⟩ := ints_len h
  clear h
  go_enter Tryd.func49, Tryd.ntmps49
  go_wp2
  go_loop [8] (fun i => ∃ k : Nat, k ≤ xs.length ∧ i = .int .i64 k ∧ Hid (∀ j, j < k → xs.getD j 0 ≠ x)) (fun i => xs.length - (intOf i).toNat)
  case atStart => exact ⟨0, Nat.zero_le _, rfl, Lib.hid (fun j hj => by omega)⟩
  case round =>
    obtain ⟨k, hk, rfl, hne⟩ := hrel
    by_cases hlt : k < xs.length
    · obtain ⟨b, off, cap', hv, hbl, hc⟩ := ints_cell H.out (by omega)
      simp only [Value.slice.injEq] at hv
      obtain ⟨rfl, _, rfl⟩ := hv
      have hcell := hc k hlt
      have i1 : (0 : Int) ≤ (k : Int) := by omega
      have i2 : (k : Int) < (xs.length : Int) := by omega
      clear hc
      by_cases he : xs.getD k 0 = x
      · have HY := Lib.hid (show decide (x ∈ xs) = true from decide_eq_true ((member_iff xs x).2 ⟨k, hlt, he⟩))
        rw [he] at hcell
        have heq : (x == x) = true := by simp
        clear he
        go_wp2
        go_ret
        exact ⟨⟨(k : Int), rfl, iff_of_true i1 (of_decide_eq_true HY.out), by omega⟩, rfl⟩
      · have HN : Hid (∀ j, j < k + 1 → xs.getD j 0 ≠ x) := Lib.hid (fun j hj => by
          by_cases e : j = k
          · exact e ▸ he
          · exact hne.out j (by omega))
        have heq : (x == xs.getD k 0) = false := by rw [beq_eq_false_iff_ne]; exact fun e => he e.symm
        clear he
        generalize xs.getD k 0 = y at hcell heq
        go_wp2
        go_round
        case rel => exact ⟨k + 1, by omega, by go_num, HN⟩
        case measure => simp [intOf]; omega
    · have HN := Lib.hid (show decide (x ∈ xs) = false from decide_eq_false (fun g => by
        obtain ⟨j, hj, e⟩ := (member_iff xs x).1 g
        exact hne.out j (by omega) e))
      go_wp2
      go_ret
      exact ⟨⟨-1, rfl, iff_of_false (by omega) (of_decide_eq_false HN.out), by omega⟩, rfl⟩
set_option maxHeartbeats 1000000 in
theorem implHas (v : Value) (xs : List Int) (x : Int) (w : World) (h : Ints w v xs) (hn : xs.length ≤ 1048576) :
    Calls Tryd.prog 20 #[v, .int .i64 x] w fun e w' => e = .returned (.bool (decide (x ∈ xs))) ∧ Below w.heap.size w w' := by
  have HI := Lib.hid (implIndex v xs x w h hn)
  have HC : Hid (Calls Tryd.prog 36 #[v, .int .i64 x] w fun e w' => e = .returned (.bool (decide (x ∈ xs))) ∧ w' = w) := by
    refine Lib.hid ?_
    clear h hn
    go_enter Tryd.func36, Tryd.ntmps36
    go_wp2_with fail
    refine HI.out.mono ?_
    rintro e w1 ⟨⟨n, rfl, hd, hm⟩, rfl⟩
    go_wp2
    go_ret
    exact ⟨ret_b (by first | rfl | exact decide_eq_decide.2 hd), rfl⟩
  clear h hn HI
  go_enter Tryd.func20, Tryd.ntmps20
  go_wp2_with fail
  refine HC.out.mono ?_
  rintro e w1 ⟨rfl, rfl⟩
  go_wp2
  go_ret
  exact ⟨rfl, Below.refl _ _⟩
end Go.Proofs.YtecfhgfjfnjagaaDoor
