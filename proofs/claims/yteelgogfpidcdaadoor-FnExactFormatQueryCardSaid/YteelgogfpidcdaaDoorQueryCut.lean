/-
  The walks of the specification's l4After (the number behind a letter) and l4Range (two numbers apart by two dots).
-/
import Derived.Test.YteelgogfpidcdaaDoorParSetMath
import Derived.Test.YteelgogfpidcdaaDoorTake
namespace Go.Proofs.YteelgogfpidcdaaDoor
open Go.RowKit
set_option linter.unusedVariables false
set_option linter.unusedSimpArgs false
/-- The number behind the letter b. -/
def aftL (b : UInt8) (l : List UInt8) : Int := if 2 ≤ l.length ∧ l.getD 0 0 = b then numL (l.drop 1) else -100000
theorem drop_strB (s : ByteArray) (m : Nat) : s.extract m s.size = strB (s.data.toList.drop m) := by
  apply ByteArray.ext
  apply Array.ext'
  simp [strB]
  exact List.take_of_length_le (by simp)
theorem take_strB (s : ByteArray) (m : Nat) (h : m ≤ s.size) : s.extract 0 m = strB (s.data.toList.take m) := by
  apply ByteArray.ext
  apply Array.ext'
  simp [strB]
set_option maxHeartbeats 2000000 in
set_option maxRecDepth 100000 in
theorem specAfter (s : ByteArray) (b : UInt8) (c : Int) (w : World) (hc : (b.toNat : Int) = c) (hs : s.size ≤ 1048576) :
    Calls Tryd.prog 62 #[.string s, .int .u8 c] w fun e w' => e = .returned (.int .i64 (aftL b s.data.toList)) ∧ Below w.heap.size w w' := by
  subst hc
  have hl : s.data.toList.length = s.size := by simp
  by_cases h2 : s.size < 2
  · have HF : Hid (aftL b s.data.toList = -100000) := Lib.hid (by unfold aftL; rw [if_neg (by omega)])
    have i2 : (s.size : Int) < 2 := by omega
    have d2 : decide ((s.size : Int) < 2) = true := decide_eq_true i2
    clear h2 hl
    go_enter Tryd.func62, Tryd.ntmps62
    go_wp2
    go_ret
    exact ⟨ret_n HF.out.symm, Below.refl _ _⟩
  · have i2 : ¬ (s.size : Int) < 2 := by omega
    have d2 : decide ((s.size : Int) < 2) = false := decide_eq_false i2
    have i0 : (0 : Int) < (s.size : Int) := by omega
    have i1 : (1 : Int) ≤ (s.size : Int) := by omega
    have h0 : 0 < s.size := by omega
    have h1 : 1 ≤ s.size := by omega
    have g0 : s.data.toList.getD 0 0 = s[0] := by
      rw [List.getD_eq_getElem?_getD, List.getElem?_eq_getElem (by omega)]
      rfl
    by_cases hb : s[0] = b
    · have HF : Hid (aftL b s.data.toList = numL (s.data.toList.drop 1)) := Lib.hid (by unfold aftL; rw [if_pos ⟨by omega, by rw [g0]; exact hb⟩])
      have hbn : s[0].toNat = b.toNat := by rw [hb]
      have HN := Lib.hid (fun w => specNum (s.data.toList.drop 1) w (by simp only [List.length_drop]; omega))
      rw [← drop_strB] at HN
      clear h2 hl g0 hb
      go_enter Tryd.func62, Tryd.ntmps62
      go_wp2_with fail
      refine (HN.out _).mono ?_
      rintro e w1 ⟨rfl, b1⟩
      go_wp2
      go_ret
      exact ⟨ret_n (by rw [HF.out]; simp), b1⟩
    · have HF : Hid (aftL b s.data.toList = -100000) := Lib.hid (by unfold aftL; rw [if_neg (fun h => hb (by rw [← g0]; exact h.2))])
      have hbn : ¬ s[0].toNat = b.toNat := fun g => hb (UInt8.toNat_inj.1 g)
      clear h2 hl g0 hb
      go_enter Tryd.func62, Tryd.ntmps62
      go_wp2
      go_ret
      exact ⟨ret_n HF.out.symm, Below.refl _ _⟩
/-- The two numbers apart by the first two dots behind the bytes p. -/
def rngGo (p : List UInt8) : List UInt8 → Int × Int
  | a :: b :: r => if a = 46 ∧ b = 46 then (numL p, numL r) else rngGo (p ++ [a]) (b :: r)
  | _ => (-100000, -100000)
def rngL (l : List UInt8) : Int × Int := rngGo [] l
theorem rng_hit {p : List UInt8} {s : ByteArray} {m : Nat} (h : m + 1 < s.size) (h0 : s[m] = 46) (h1 : s[m + 1] = 46) : rngGo p (s.data.toList.drop m) = (numL p, numL (s.data.toList.drop (m + 2))) := by
  rw [drop_at s m (by omega), drop_at s (m + 1) h]
  unfold rngGo
  rw [if_pos ⟨h0, h1⟩]
theorem rng_miss {p : List UInt8} {s : ByteArray} {m : Nat} (h : m + 1 < s.size) (hn : ¬ (s[m] = 46 ∧ s[m + 1] = 46)) : rngGo p (s.data.toList.drop m) = rngGo (p ++ [s[m]]) (s.data.toList.drop (m + 1)) := by
  rw [drop_at s m (by omega), drop_at s (m + 1) h]
  conv => lhs; unfold rngGo
  rw [if_neg hn]
theorem rng_end {p : List UInt8} {s : ByteArray} {m : Nat} (h : ¬ m + 1 < s.size) : rngGo p (s.data.toList.drop m) = (-100000, -100000) := by
  by_cases h1 : m < s.size
  · rw [drop_at s m h1, List.drop_eq_nil_of_le (by simp; omega)]; rfl
  · rw [List.drop_eq_nil_of_le (by simp; omega)]; rfl
theorem ext_two (s : ByteArray) (m : Nat) (h : m + 1 < s.size) : s.extract m (m + 2) = strB [s[m], s[m + 1]] := by
  apply ByteArray.ext
  apply Array.ext'
  have e : s.data.toList.drop m = s[m] :: s[m + 1] :: s.data.toList.drop (m + 2) := by rw [drop_at s m (by omega), drop_at s (m + 1) h]
  simp only [ByteArray.data_extract, Array.toList_extract, List.extract_eq_take_drop, strB]
  rw [e, show m + 2 - m = 2 by omega]
  rfl
theorem take_next (s : ByteArray) (m : Nat) (h : m < s.size) : s.data.toList.take m ++ [s[m]] = s.data.toList.take (m + 1) := by
  rw [List.take_succ_eq_append_getElem (by simpa using h)]
  rfl
theorem ret_2i {a b c d : Int} (h : a = b) (g : c = d) : Ending.returned (.tuple #[.int .i64 a, .int .i64 c]) = .returned (.tuple #[.int .i64 b, .int .i64 d]) := by rw [h, g]
set_option maxHeartbeats 4000000 in
set_option maxRecDepth 100000 in
theorem specRange (s : ByteArray) (w : World) (hs : s.size ≤ 1048576) :
    Calls Tryd.prog 63 #[.string s] w fun e w' => e = .returned (.tuple #[.int .i64 (rngL s.data.toList).1, .int .i64 (rngL s.data.toList).2]) ∧ Below w.heap.size w w' := by
  go_enter Tryd.func63, Tryd.ntmps63
  go_wp2
  go_loopw [4] (fun i wr => ∃ m : Nat, m ≤ s.size ∧ i = .int .i64 m ∧ Hid (rngL s.data.toList = rngGo (s.data.toList.take m) (s.data.toList.drop m)) ∧ Below w.heap.size w wr) (fun i _ => s.size - (intOf i).toNat)
  case atStart => exact ⟨0, Nat.zero_le _, rfl, Lib.hid rfl, Below.refl _ _⟩
  case round =>
    obtain ⟨m, hm, rfl, hR, hbel⟩ := hrel
    by_cases hlt : m + 1 < s.size
    · have i1 : (0 : Int) ≤ (m : Int) := by omega
      have i2 : (m : Int) + 1 < (s.size : Int) := by omega
      have i3 : (m : Int) + 2 ≤ (s.size : Int) := by omega
      have i4 : m + 2 ≤ s.size := by omega
      have i5 : (0 : Int) ≤ (m : Int) + 2 := by omega
      have e3 : ((m : Int) + 2).toNat = m + 2 := by omega
      have e1 : IntKind.i64.wrap ((m : Int) + 1) = (m : Int) + 1 := IntWalk.i64_in _ (by omega)
      have e2 : IntKind.i64.wrap ((m : Int) + 2) = (m : Int) + 2 := IntWalk.i64_in _ (by omega)
      have hq : (s.extract m (m + 2)).toList = [s[m], s[m + 1]] := by rw [ext_two s m hlt, strB_toList]
      by_cases hb : s[m] = 46 ∧ s[m + 1] = 46
      · have HE : Hid (rngL s.data.toList = (numL (s.data.toList.take m), numL (s.data.toList.drop (m + 2)))) := Lib.hid (by rw [hR.out, rng_hit hlt hb.1 hb.2])
        have heq : ((s.extract m (m + 2)).toList == [46, 46]) = true := by rw [hq, hb.1, hb.2]; rfl
        have H1 := Lib.hid (fun w => specNum (s.data.toList.take m) w (by simp only [List.length_take]; omega))
        have H2 := Lib.hid (fun w => specNum (s.data.toList.drop (m + 2)) w (by simp only [List.length_drop, ByteArray.size_data, Array.length_toList]; omega))
        rw [← take_strB s m hm] at H1
        rw [← drop_strB] at H2
        clear hR hq hb
        generalize numL (s.data.toList.take m) = x at *
        generalize numL (s.data.toList.drop (m + 2)) = y at *
        go_wp2
        refine wp_region_held_drew (S := fun _ => True) (by kernel_rfl) trivial (fun hHeld => ?_)
        have e0 := below_drew (Below.refl wr.heap.size wr)
        refine take_runs (i := 0) (v := ?_) (by simp only [List.getElem?_toArray, List.getElem?_cons_succ, List.getElem?_cons_zero]; rfl) (by kernel_rfl) (by kernel_rfl) (by kernel_rfl) rfl (by exact fun _ _ _ h => h) (by rfl) ?_ (by assumption) ?_
        rotate_left
        · intro w hSw; (try dsimp only at hSw); go_simp; try (with_reducible rfl)
        try simp only [Act.put, List.setIfInBounds_toArray, List.set_cons_zero, List.set_cons_succ]
        refine take_runs (i := 1) (v := ?_) (by simp only [List.getElem?_toArray, List.getElem?_cons_succ, List.getElem?_cons_zero]; rfl) (by kernel_rfl) (by kernel_rfl) (by kernel_rfl) rfl (by exact fun _ _ _ h => h) (by rfl) ?_ (by assumption) ?_
        rotate_left
        · intro w hSw; (try dsimp only at hSw); go_simp; try (with_reducible rfl)
        try simp only [Act.put, List.setIfInBounds_toArray, List.set_cons_zero, List.set_cons_succ]
        refine take_runs (i := 2) (v := ?_) (by simp only [List.getElem?_toArray, List.getElem?_cons_succ, List.getElem?_cons_zero]; rfl) (by kernel_rfl) (by kernel_rfl) (by kernel_rfl) rfl (by exact fun _ _ _ h => h) (by rfl) ?_ (by assumption) ?_
        rotate_left
        · intro w hSw; (try dsimp only at hSw); go_simp; try (with_reducible rfl)
        try simp only [Act.put, List.setIfInBounds_toArray, List.set_cons_zero, List.set_cons_succ]
        refine take_runs (i := 4) (v := ?_) (by simp only [List.getElem?_toArray, List.getElem?_cons_succ, List.getElem?_cons_zero]; rfl) (by kernel_rfl) (by kernel_rfl) (by kernel_rfl) rfl (by exact fun _ _ _ h => h) (by rfl) ?_ (by assumption) ?_
        rotate_left
        · intro w hSw; (try dsimp only at hSw); go_simp; try (with_reducible rfl)
        try simp only [Act.put, List.setIfInBounds_toArray, List.set_cons_zero, List.set_cons_succ]
        refine take_runs (i := 5) (v := ?_) (by simp only [List.getElem?_toArray, List.getElem?_cons_succ, List.getElem?_cons_zero]; rfl) (by kernel_rfl) (by kernel_rfl) (by kernel_rfl) rfl (by exact fun _ _ _ h => h) (by rfl) ?_ (by assumption) ?_
        rotate_left
        · intro w hSw; (try dsimp only at hSw); go_simp; try (with_reducible rfl)
        try simp only [Act.put, List.setIfInBounds_toArray, List.set_cons_zero, List.set_cons_succ]
        refine take_runs (i := 6) (v := ?_) (by simp only [List.getElem?_toArray, List.getElem?_cons_succ, List.getElem?_cons_zero]; rfl) (by kernel_rfl) (by kernel_rfl) (by kernel_rfl) rfl (by exact fun _ _ _ h => h) (by rfl) ?_ (by assumption) ?_
        rotate_left
        · intro w hSw; (try dsimp only at hSw); go_simp; try (with_reducible rfl)
        try simp only [Act.put, List.setIfInBounds_toArray, List.set_cons_zero, List.set_cons_succ]
        refine take_runs (i := 7) (v := ?_) (by simp only [List.getElem?_toArray, List.getElem?_cons_succ, List.getElem?_cons_zero]; rfl) (by kernel_rfl) (by kernel_rfl) (by kernel_rfl) rfl (by exact fun _ _ _ h => h) (by rfl) ?_ (by assumption) ?_
        rotate_left
        · intro w hSw; (try dsimp only at hSw); go_simp; try (with_reducible rfl)
        try simp only [Act.put, List.setIfInBounds_toArray, List.set_cons_zero, List.set_cons_succ]
        refine wpAnyH_ready (rs := [3]) (by kernel_rfl) (by simp) ?_
        refine AllReadyH.cons (o := _) (by simp only [List.getElem?_toArray, List.getElem?_cons_succ, List.getElem?_cons_zero]; rfl) (fun K hK => ?_) AllReadyH.nil
        go_simp
        refine (H1.out _).mono ?_
        rintro e x1 ⟨rfl, c1⟩
        have f1 := e0.trans (c1.mono e0.size)
        refine hK.out _ _ trivial (fun hHeld => ?_)
        clear hK K
        try simp only [Act.put, List.setIfInBounds_toArray, List.set_cons_zero, List.set_cons_succ]
        refine wpAnyH_ready (rs := [8]) (by kernel_rfl) (by simp) ?_
        refine AllReadyH.cons (o := _) (by simp only [List.getElem?_toArray, List.getElem?_cons_succ, List.getElem?_cons_zero]; rfl) (fun K hK => ?_) AllReadyH.nil
        go_simp
        refine (H2.out _).mono ?_
        rintro e x2 ⟨rfl, c2⟩
        have f2 := f1.trans (c2.mono f1.size)
        refine hK.out _ _ trivial (fun hHeld => ?_)
        clear hK K
        try simp only [Act.put, List.setIfInBounds_toArray, List.set_cons_zero, List.set_cons_succ]
        refine take_runs (i := 9) (v := ?_) (by simp only [List.getElem?_toArray, List.getElem?_cons_succ, List.getElem?_cons_zero]; rfl) (by kernel_rfl) (by kernel_rfl) (by kernel_rfl) rfl (by exact fun _ _ _ h => h) (by rfl) ?_ (by assumption) ?_
        rotate_left
        · intro w hSw; (try dsimp only at hSw); go_simp; try (with_reducible rfl)
        try simp only [Act.put, List.setIfInBounds_toArray, List.set_cons_zero, List.set_cons_succ]
        refine take_runs (i := 10) (v := ?_) (by simp only [List.getElem?_toArray, List.getElem?_cons_succ, List.getElem?_cons_zero]; rfl) (by kernel_rfl) (by kernel_rfl) (by kernel_rfl) rfl (by exact fun _ _ _ h => h) (by rfl) ?_ (by assumption) ?_
        rotate_left
        · intro w hSw; (try dsimp only at hSw); go_simp; try (with_reducible rfl)
        try simp only [Act.put, List.setIfInBounds_toArray, List.set_cons_zero, List.set_cons_succ]
        refine wpAnyH_done (by kernel_rfl) ?_ _
        have b9 := hbel.trans (f2.mono hbel.size)
        go_wp2
        go_ret2
        exact ⟨ret_2i (by rw [HE.out]) (by rw [HE.out]), b9⟩
      · have HR : Hid (rngL s.data.toList = rngGo (s.data.toList.take (m + 1)) (s.data.toList.drop (m + 1))) := Lib.hid (by rw [hR.out, rng_miss hlt hb, take_next s m (by omega)])
        have heq : ((s.extract m (m + 2)).toList == [46, 46]) = false := by
          rw [hq, beq_eq_false_iff_ne]
          intro g
          simp only [List.cons.injEq, and_true] at g
          exact hb g
        clear hR hq hb
        go_wp2
        go_roundw
        case rel => exact ⟨m + 1, by omega, by go_num, HR, hbel⟩
        case measure => simp [intOf]; omega
    · have HE : Hid (rngL s.data.toList = (-100000, -100000)) := Lib.hid (by rw [hR.out, rng_end hlt])
      have i2 : ¬ (m : Int) + 1 < (s.size : Int) := by omega
      have e1 : IntKind.i64.wrap ((m : Int) + 1) = (m : Int) + 1 := IntWalk.i64_in _ (by omega)
      clear hR
      go_wp2
      go_ret2
      exact ⟨ret_2i (by rw [HE.out]) (by rw [HE.out]), hbel⟩
end Go.Proofs.YteelgogfpidcdaaDoor
