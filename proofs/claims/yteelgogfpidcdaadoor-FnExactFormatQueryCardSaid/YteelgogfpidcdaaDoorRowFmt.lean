/-
  The walk of the specification's FormatRow: it returns the text 'fmtRow'.
-/
import Derived.Test.YteelgogfpidcdaaDoorRowSpec
import Derived.Test.YteelgogfpidcdaaDoorRowLaw1
import Derived.Test.YteelgogfpidcdaaDoorFmtSet
import Derived.Test.YteelgogfpidcdaaDoorTake
namespace Go.Proofs.YteelgogfpidcdaaDoor
open Go.RowKit
set_option linter.unusedVariables false
set_option linter.unusedSimpArgs false
/-- The text of the first k numbers. -/
def listTo (xs : List Int) : Nat → List UInt8
  | 0 => []
  | k + 1 => (if k = 0 then [] else listTo xs k ++ [44]) ++ Lib.itoa (xs.getD k 0)
def fmtRow (r : RowD) : List UInt8 := if rowB r then Lib.itoa r.1 ++ [58] ++ listTo r.2 r.2.length else []
theorem row_parts {id : Int} {xs : List Int} (h : rowB (id, xs) = true) : (0 ≤ id ∧ id ≤ 999) ∧ xs.length = 3 ∧ ∀ j, j < xs.length → 0 ≤ xs.getD j 0 ∧ xs.getD j 0 ≤ 99 := by
  unfold rowB at h
  simp only [Bool.and_eq_true, decide_eq_true_eq, List.all_eq_true] at h
  obtain ⟨h1, h2, h3⟩ := h
  refine ⟨h1, h3, fun j hj => ?_⟩
  have e : xs.getD j 0 = xs[j] := by simp [List.getD, hj]
  rw [e]
  exact h2 _ (List.getElem_mem hj)
theorem fmtAny (n : Int) (w : World) (h0 : 0 ≤ n) (h1 : n ≤ 999) : Calls Tryd.prog 44 #[.int .i64 n] w fun e w' => e = .returned (.string (strB (Lib.itoa n))) ∧ Below w.heap.size w w' := specFmt n w (by omega) (by omega)
set_option maxHeartbeats 8000000 in
set_option maxRecDepth 100000 in
theorem l3List_any (v : Value) (xs : List Int) (w : World) (h : Ints w v xs) (hn : xs.length ≤ 1000) (hr : ∀ j, j < xs.length → 0 ≤ xs.getD j 0 ∧ xs.getD j 0 ≤ 999) :
    Calls Tryd.prog 52 #[v] w fun e w' => e = .returned (.string (strB (listTo xs xs.length))) ∧ Below w.heap.size w w' ∧ (listTo xs xs.length).length ≤ 45 * xs.length := by
  have H := Lib.hid h
  have HR := Lib.hid hr
  obtain ⟨a, cap, rfl⟩ := ints_len h
  clear h hr
  go_enter Tryd.func52, Tryd.ntmps52
  go_wp2
  go_loopw [3, 4] (fun s i wr => ∃ k : Nat, k ≤ xs.length ∧ i = .int .i64 k ∧ s = .string (strB (listTo xs k)) ∧ (listTo xs k).length ≤ 45 * k ∧ Below w.heap.size w wr) (fun _ i _ => xs.length - (intOf i).toNat)
  case atStart => exact ⟨0, Nat.zero_le _, rfl, rfl, by simp [listTo], Below.refl _ _⟩
  case round =>
    obtain ⟨k, hk, rfl, rfl, hll, hbel⟩ := hrel
    by_cases hlt : k < xs.length
    · obtain ⟨b, off, cap', hv, hbl, hc⟩ := ints_cell H.out (by omega)
      simp only [Value.slice.injEq] at hv
      obtain ⟨rfl, _, rfl⟩ := hv
      have hcell := (hbel.cell (p := ⟨b, off + k, none⟩) hbl).trans (hc k hlt)
      have i1 : (0 : Int) ≤ (k : Int) := by omega
      have i2 : (k : Int) < (xs.length : Int) := by omega
      have hx := HR.out k hlt
      have hlx := Lib.hid (Lib.itoa_length_le (xs.getD k 0) (by omega) (by omega))
      have HF := Lib.hid (fun w => fmtAny (xs.getD k 0) w hx.1 hx.2)
      have HS : Hid (listTo xs (k + 1) = (if k = 0 then [] else listTo xs k ++ [44]) ++ Lib.itoa (xs.getD k 0)) := Lib.hid rfl
      clear hc hx
      generalize listTo xs k = t at *
      generalize xs.getD k 0 = x at *
      by_cases hz : k = 0
      · have hg : decide ((0 : Int) < (k : Int)) = false := decide_eq_false (by omega)
        have hgn : decide (0 < k) = false := decide_eq_false (by omega)
        have ht : t = [] := List.eq_nil_of_length_eq_zero (by omega)
        have HS2 : Hid (listTo xs (k + 1) = t ++ Lib.itoa x) := Lib.hid (by rw [HS.out, if_pos hz, ht])
        have d1 := strB_add t (Lib.itoa x) (by have := hlx.out; omega)
        have HLEN : Hid ((t ++ Lib.itoa x).length ≤ 45 * (k + 1)) := Lib.hid (by have := hlx.out; simp; omega)
        clear hz ht HS
        go_wp2_with fail
        refine (HF.out _).mono ?_
        rintro e w5 ⟨rfl, hb5⟩
        have hb6 := hbel.trans (hb5.mono hbel.size)
        go_wp2
        go_roundw
        case rel => exact ⟨k + 1, by omega, by go_num, by rw [HS2.out], by rw [HS2.out]; exact HLEN.out, hb6⟩
        case measure => simp [intOf]; omega
      · have hg : decide ((0 : Int) < (k : Int)) = true := decide_eq_true (by omega)
        have hgn : decide (0 < k) = true := decide_eq_true (by omega)
        have HS2 : Hid (listTo xs (k + 1) = (t ++ [44]) ++ Lib.itoa x) := Lib.hid (by rw [HS.out, if_neg hz])
        have d0 := strB_add t [44] (by simp; omega)
        have d1 := strB_add (t ++ [44]) (Lib.itoa x) (by have := hlx.out; simp; omega)
        have HLEN : Hid (((t ++ [44]) ++ Lib.itoa x).length ≤ 45 * (k + 1)) := Lib.hid (by have := hlx.out; simp; omega)
        have e44 : (⟨#[44]⟩ : ByteArray) = strB [44] := rfl
        clear hz HS
        go_wp2_with fail
        refine (HF.out _).mono ?_
        rintro e w5 ⟨rfl, hb5⟩
        have hb6 := hbel.trans (hb5.mono hbel.size)
        go_wp2
        go_roundw
        case rel => exact ⟨k + 1, by omega, by go_num, by rw [HS2.out, List.append_assoc]; rfl, by rw [HS2.out]; exact HLEN.out, hb6⟩
        case measure => simp [intOf]; omega
    · obtain rfl : k = xs.length := by omega
      go_wp2
      go_ret
      exact ⟨rfl, hbel, hll⟩
end Go.Proofs.YteelgogfpidcdaaDoor
