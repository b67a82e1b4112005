/-
  Pieces of a text between two bytes, and numerals: the mathematics of the parsers.
-/
import Derived.Test.YteelgogfpidcdaaDoorParSetMath
namespace Go.Proofs.YteelgogfpidcdaaDoor
open Go.RowKit
set_option linter.unusedVariables false
theorem cutGo_no {b : UInt8} : ∀ (l p : List UInt8), b ∉ l → cutGo b p l = [p ++ l] := by
  intro l
  induction l with
  | nil => intro p _; simp [cutGo]
  | cons c r ih =>
    intro p h
    rw [List.mem_cons, not_or] at h
    unfold cutGo
    rw [if_neg (fun e => h.1 e.symm), ih _ h.2]
    simp
theorem cutGo_app {b : UInt8} : ∀ (a p l : List UInt8), b ∉ a → cutGo b p (a ++ b :: l) = (p ++ a) :: cutGo b [] l := by
  intro a
  induction a with
  | nil => intro p l _; simp [cutGo]
  | cons c r ih =>
    intro p l h
    rw [List.mem_cons, not_or] at h
    rw [List.cons_append]
    show (if c = b then _ else cutGo b (p ++ [c]) (r ++ b :: l)) = _
    rw [if_neg (fun e => h.1 e.symm), ih _ _ h.2]
    simp
theorem cutL_no {b : UInt8} {l : List UInt8} (h : b ∉ l) : cutL b l = [l] := by unfold cutL; rw [cutGo_no l [] h]; rfl
theorem cutL_app {b : UInt8} {a : List UInt8} (l : List UInt8) (h : b ∉ a) : cutL b (a ++ b :: l) = a :: cutL b l := by unfold cutL; rw [cutGo_app a [] l h]; rfl
theorem index_cases (l : List UInt8) (c : UInt8) : (c ∉ l ∧ Lib.indexByte l c = -1) ∨ ∃ a r, l = a ++ c :: r ∧ c ∉ a ∧ Lib.indexByte l c = (a.length : Int) := by
  induction l with
  | nil => left; exact ⟨by simp, rfl⟩
  | cons b l ih =>
    by_cases h : b = c
    · right; exact ⟨[], l, by rw [h]; rfl, by simp, by unfold Lib.indexByte; rw [if_pos (by simpa using h)]; rfl⟩
    · have hb : (b == c) = false := by rw [beq_eq_false_iff_ne]; exact h
      rcases ih with ⟨h1, h2⟩ | ⟨a, r, h1, h2, h3⟩
      · left
        refine ⟨by rw [List.mem_cons, not_or]; exact ⟨fun e => h e.symm, h1⟩, ?_⟩
        unfold Lib.indexByte; rw [hb, h2]; rfl
      · right
        refine ⟨b :: a, r, by rw [h1]; rfl, by rw [List.mem_cons, not_or]; exact ⟨fun e => h e.symm, h2⟩, ?_⟩
        unfold Lib.indexByte
        rw [hb, h3]
        have : ((a.length : Int) == -1) = false := by rw [beq_eq_false_iff_ne]; omega
        rw [this]
        simp
/-! ### Numerals -/
theorem parI_is {l : List UInt8} (h : (parI l).2 = true) : Lib.itoa (parI l).1 = l := by
  unfold parI at h ⊢
  by_cases hc : Lib.itoa (sval l) = l ∧ dcnt l ≤ 9
  · rw [if_pos hc]; exact hc.1
  · rw [if_neg hc] at h; cases h
theorem itoa_dig {n : Int} (h : 0 ≤ n) : ∀ b ∈ Lib.itoa n, dig b = true := by
  unfold Lib.itoa
  rw [if_neg (by omega)]
  exact (digits_dec n.toNat).2
theorem dig_no45 : dig 45 = false := by decide
theorem dig_no32 : dig 32 = false := by decide
theorem itoa_no {n : Int} (h : 0 ≤ n) {c : UInt8} (hc : dig c = false) : c ∉ Lib.itoa n := fun g => by
  have := itoa_dig h c g; rw [hc] at this; cases this
theorem parI_minus {l : List UInt8} (hm : (45 : UInt8) ∈ l) (h : (parI l).2 = true) : (parI l).1 < 0 := by
  apply Int.not_le.1
  intro g
  have e := parI_is h
  rw [← e] at hm
  exact itoa_no g dig_no45 hm
theorem parI_itoa {n : Int} (h0 : 0 ≤ n) (h1 : n ≤ 23) : parI (Lib.itoa n) = (n, true) := by
  obtain ⟨u, rfl⟩ := Int.eq_ofNat_of_zero_le h0
  have hi : Lib.itoa (u : Int) = Lib.decDigits u := by unfold Lib.itoa; rw [if_neg (by omega), Int.toNat_natCast]
  have hneg : neg (Lib.itoa (u : Int)) = false := by
    cases hn : neg (Lib.itoa (u : Int)) with
    | false => rfl
    | true =>
      obtain ⟨r, hr⟩ := neg_cons hn
      exact absurd (by rw [hr]; exact List.mem_cons_self ..) (itoa_no (n := (u : Int)) (by omega) dig_no45)
  have hs : sval (Lib.itoa (u : Int)) = (u : Int) := by
    unfold sval
    rw [hneg, hi, (digits_dec u).1]
    rfl
  have hlen : (Lib.decDigits u).length ≤ 9 := by
    by_cases h : u < 10
    · rw [Lib.decDigits_one h]; simp
    · rw [Lib.decDigits, dif_neg h, List.length_append, Lib.decDigits_one (by omega)]; simp
  have hd : dcnt (Lib.itoa (u : Int)) ≤ 9 := by rw [hi]; exact Nat.le_trans (dcnt_le _) hlen
  exact (parI_ok (by rw [hs]) hd).trans (by rw [hs])
theorem numL_itoa {n : Int} (h0 : 0 ≤ n) (h1 : n ≤ 23) : numL (Lib.itoa n) = n := by unfold numL; rw [parI_itoa h0 h1]; rfl
theorem numL_yes {q : List UInt8} (h : (parI q).2 = true) : numL q = (parI q).1 := by unfold numL; rw [h]; rfl
theorem numL_no {q : List UInt8} (h : ¬ (parI q).2 = true) : numL q = -100000 := by unfold numL; rw [if_neg h]
theorem parI_itoa3 {n : Int} (h0 : 0 ≤ n) (h1 : n ≤ 999) : parI (Lib.itoa n) = (n, true) := by
  obtain ⟨u, rfl⟩ := Int.eq_ofNat_of_zero_le h0
  have hi : Lib.itoa (u : Int) = Lib.decDigits u := by unfold Lib.itoa; rw [if_neg (by omega), Int.toNat_natCast]
  have hneg : neg (Lib.itoa (u : Int)) = false := by
    cases hn : neg (Lib.itoa (u : Int)) with
    | false => rfl
    | true =>
      obtain ⟨r, hr⟩ := neg_cons hn
      exact absurd (by rw [hr]; exact List.mem_cons_self ..) (itoa_no (n := (u : Int)) (by omega) dig_no45)
  have hs : sval (Lib.itoa (u : Int)) = (u : Int) := by
    unfold sval
    rw [hneg, hi, (digits_dec u).1]
    rfl
  have two : ∀ q : Nat, q ≤ 99 → (Lib.decDigits q).length ≤ 2 := fun q hq => by
    by_cases h : q < 10
    · rw [Lib.decDigits_one h]; simp
    · rw [Lib.decDigits, dif_neg h, List.length_append, Lib.decDigits_one (by omega)]; simp
  have hlen : (Lib.decDigits u).length ≤ 9 := by
    by_cases h : u < 10
    · rw [Lib.decDigits_one h]; simp
    · rw [Lib.decDigits, dif_neg h, List.length_append]
      have := two (u / 10) (by omega)
      simp; omega
  have hd : dcnt (Lib.itoa (u : Int)) ≤ 9 := by rw [hi]; exact Nat.le_trans (dcnt_le _) hlen
  exact (parI_ok (by rw [hs]) hd).trans (by rw [hs])
theorem numL_itoa3 {n : Int} (h0 : 0 ≤ n) (h1 : n ≤ 999) : numL (Lib.itoa n) = n := by unfold numL; rw [parI_itoa3 h0 h1]; rfl
theorem dig_no44 : dig 44 = false := by decide
theorem dig_no58 : dig 58 = false := by decide
theorem strB_take (a b : List UInt8) : (strB (a ++ b)).extract 0 a.length = strB a := by
  apply ByteArray.ext
  apply Array.ext'
  simp only [ByteArray.data_extract, Array.toList_extract, strB]
  rw [List.extract_eq_take_drop]
  simp
theorem strB_drop (a : List UInt8) (c : UInt8) (b : List UInt8) : (strB (a ++ c :: b)).extract (a.length + 1) (a ++ c :: b).length = strB b := by
  apply ByteArray.ext
  apply Array.ext'
  simp only [ByteArray.data_extract, Array.toList_extract, strB]
  rw [List.extract_eq_take_drop, show a ++ c :: b = (a ++ [c]) ++ b by simp]
  rw [List.drop_left' (by simp), List.take_of_length_le (by simp; omega)]
theorem triple {a b c d : List UInt8} {x : Bool} (h1 : a = b) (h2 : c = d) : Ending.returned (.tuple #[.string (strB a), .string (strB c), .bool x]) = .returned (.tuple #[.string (strB b), .string (strB d), .bool x]) := by rw [h1, h2]
theorem triple' {u v : ByteArray} {c d : List UInt8} {x : Bool} (h1 : u = strB c) (h2 : v = strB d) : Ending.returned (.tuple #[.string u, .string v, .bool x]) = .returned (.tuple #[.string (strB c), .string (strB d), .bool x]) := by rw [h1, h2]
end Go.Proofs.YteelgogfpidcdaaDoor
