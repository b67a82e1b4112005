/-
  The specification's order of rows, and its copy of a row.
-/
import Derived.Test.YtginjmnohnidiaaRowAre
namespace Go.Proofs.Ytginjmnohnidiaa
open Go.RowKit
set_option linter.unusedVariables false
set_option linter.unusedSimpArgs false
/-- The first list lies before the second. -/
def lessL : List Int → List Int → Bool
  | _, [] => false
  | [], _ :: _ => true
  | x :: xs, y :: ys => if x = y then lessL xs ys else decide (x < y)
/-- Rows by their numbers, then by their values. -/
def rowLess (a b : RowD) : Bool := if a.1 = b.1 then lessL a.2 b.2 else decide (a.1 < b.1)
theorem lessL_step {xs ys : List Int} {k : Nat} (hx : k < xs.length) (hy : k < ys.length) (h : xs.getD k 0 = ys.getD k 0) : lessL (xs.drop k) (ys.drop k) = lessL (xs.drop (k + 1)) (ys.drop (k + 1)) := by
  rw [List.drop_eq_getElem_cons hx, List.drop_eq_getElem_cons hy]
  have e : xs[k] = ys[k] := by simpa [List.getD, hx, hy] using h
  simp only [lessL, e, if_true]
theorem lessL_ne {xs ys : List Int} {k : Nat} (hx : k < xs.length) (hy : k < ys.length) (h : ¬ xs.getD k 0 = ys.getD k 0) : lessL (xs.drop k) (ys.drop k) = decide (xs.getD k 0 < ys.getD k 0) := by
  rw [List.drop_eq_getElem_cons hx, List.drop_eq_getElem_cons hy]
  have e : ¬ xs[k] = ys[k] := by simpa [List.getD, hx, hy] using h
  simp only [lessL, if_neg e]
  simp [List.getD, hx, hy]
theorem lessL_end {xs ys : List Int} {k : Nat} (hx : k ≤ xs.length) (hy : k ≤ ys.length) (h : ¬ (k < xs.length ∧ k < ys.length)) : lessL (xs.drop k) (ys.drop k) = decide (xs.length < ys.length) := by
  by_cases e : k = ys.length
  · subst e
    rw [List.drop_length]
    rw [decide_eq_false (by omega)]
    unfold lessL
    rfl
  · have e2 : k = xs.length := by omega
    subst e2
    rw [List.drop_length, List.drop_eq_getElem_cons (by omega), decide_eq_true (by omega)]
    rfl
set_option maxHeartbeats 4000000 in
set_option maxRecDepth 100000 in
theorem l3LessInts_any (v u : Value) (xs ys : List Int) (w : World) (h : Ints w v xs) (g : Ints w u ys) (hn : xs.length ≤ 1048576) (hm : ys.length ≤ 1048576) :
    Calls Try.prog 91 #[v, u] w fun e w' => e = .returned (.bool (lessL xs ys)) ∧ Below w.heap.size w w' := by
  have H := Lib.hid h
  have G := Lib.hid g
  obtain ⟨a, cap, rfl⟩ := ints_len h
  obtain ⟨a2, cap2, rfl⟩ := ints_len g
  clear h g
  go_enter Try.func91, Try.ntmps91
  go_wp2
  go_loopw [5] (fun i wr => ∃ k : Nat, k ≤ xs.length ∧ k ≤ ys.length ∧ i = .int .i64 k ∧ Hid (lessL (xs.drop k) (ys.drop k) = lessL xs ys) ∧ Below w.heap.size w wr) (fun i _ => xs.length - (intOf i).toNat)
  case atStart => exact ⟨0, Nat.zero_le _, Nat.zero_le _, rfl, Lib.hid (by simp), Below.refl _ _⟩
  case round =>
    obtain ⟨k, hk, hk2, rfl, hall, hbel⟩ := hrel
    by_cases hlt : k < xs.length ∧ k < ys.length
    · obtain ⟨h1, h2⟩ := hlt
      obtain ⟨b, off, cap', hv, hbl, hc⟩ := ints_cell H.out (by omega)
      obtain ⟨b2, off2, cap2', hv2, hbl2, hc2⟩ := ints_cell G.out (by omega)
      simp only [Value.slice.injEq] at hv hv2
      obtain ⟨rfl, _, rfl⟩ := hv
      obtain ⟨rfl, _, rfl⟩ := hv2
      have hcell := (hbel.cell (p := ⟨b, off + k, none⟩) hbl).trans (hc k h1)
      have hcell2 := (hbel.cell (p := ⟨b2, off2 + k, none⟩) hbl2).trans (hc2 k h2)
      have i1 : (0 : Int) ≤ (k : Int) := by omega
      have i2 : (k : Int) < (xs.length : Int) := by omega
      have i3 : (k : Int) < (ys.length : Int) := by omega
      have HST := Lib.hid (fun e => (lessL_step h1 h2 e).symm.trans hall.out)
      have HNE := Lib.hid (fun e => (lessL_ne h1 h2 e).symm.trans hall.out)
      clear hc hc2 hall
      generalize xs.getD k 0 = x at *
      generalize ys.getD k 0 = y at *
      by_cases he : x = y
      · subst he
        have HA := Lib.hid (HST.out rfl)
        clear HST HNE
        go_wp2
        go_quiet (fail)
        go_wp2
        go_roundw
        case rel => exact ⟨k + 1, by omega, by omega, by go_num, HA, below_same hbel rfl rfl rfl rfl⟩
        case measure => simp [intOf]; omega
      · have HA := Lib.hid (HNE.out he)
        have hne : (x != y) = true := by rw [bne_iff_ne]; exact he
        clear HST HNE he
        go_wp2
        go_quiet (fail)
        go_wp2
        go_quiet (fail)
        go_wp2
        go_ret
        exact ⟨ret_b HA.out, below_same hbel rfl rfl rfl rfl⟩
    · have HE := Lib.hid ((lessL_end hk hk2 hlt).symm.trans hall.out)
      clear hall
      by_cases h1 : k < xs.length
      · have h2 : ¬ k < ys.length := fun h2 => hlt ⟨h1, h2⟩
        have i3 : ¬ (k : Int) < (ys.length : Int) := by omega
        have i2 : (k : Int) < (xs.length : Int) := by omega
        go_wp2
        go_ret
        exact ⟨ret_b (by rw [← HE.out]), hbel⟩
      · have i2 : ¬ (k : Int) < (xs.length : Int) := by omega
        go_wp2
        go_ret
        exact ⟨ret_b (by rw [← HE.out]), hbel⟩
set_option maxHeartbeats 4000000 in
set_option maxRecDepth 100000 in
theorem l3Less_any (id id2 : Int) (v u : Value) (xs ys : List Int) (w : World) (h : Ints w v xs) (g : Ints w u ys) (hn : xs.length ≤ 1048576) (hm : ys.length ≤ 1048576) :
    Calls Try.prog 48 #[.agg #[.int .i64 id, v], .agg #[.int .i64 id2, u]] w fun e w' => e = .returned (.bool (rowLess (id, xs) (id2, ys))) ∧ Below w.heap.size w w' := by
  have HL := Lib.hid (fun w h g => l3LessInts_any v u xs ys w h g hn hm)
  have hb : Below w.heap.size w ((w.alloc (.cells #[.int .i64 id, v] 76)).alloc (.cells #[.int .i64 id2, u] 76)) := ((Below.refl _ w).alloc (Nat.le_refl _) _).alloc (by simp [World.size_alloc]) _
  have I1 := Lib.hid (ints_below h hb)
  have I2 := Lib.hid (ints_below g hb)
  by_cases he : id = id2
  · subst he
    have HA : Hid (rowLess (id, xs) (id, ys) = lessL xs ys) := Lib.hid (by simp [rowLess])
    obtain ⟨a, cap, rfl⟩ := ints_len h
    obtain ⟨a2, cap2, rfl⟩ := ints_len g
    clear h g
    go_enter Try.func48, Try.ntmps48
    go_wp2_with fail
    refine (HL.out _ I1.out I2.out).mono ?_
    rintro e w2 ⟨rfl, b2⟩
    have b3 := hb.trans (b2.mono hb.size)
    go_wp2
    go_ret
    exact ⟨ret_b HA.out.symm, b3⟩
  · have HA : Hid (rowLess (id, xs) (id2, ys) = decide (id < id2)) := Lib.hid (by simp [rowLess, he])
    have hne : (id != id2) = true := by rw [bne_iff_ne]; exact he
    obtain ⟨a, cap, rfl⟩ := ints_len h
    obtain ⟨a2, cap2, rfl⟩ := ints_len g
    clear h g he
    go_enter Try.func48, Try.ntmps48
    go_wp2
    go_ret
    exact ⟨ret_b HA.out.symm, hb⟩
end Go.Proofs.Ytginjmnohnidiaa
