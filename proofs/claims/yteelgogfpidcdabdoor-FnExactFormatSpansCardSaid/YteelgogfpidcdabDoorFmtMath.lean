/-
  Plain facts on decimal numerals.
-/
import Derived.Laws.BytesArg
import Derived.Lib.ItoaMem
import Derived.Lib.ItoaLen
namespace Go.Proofs.YteelgogfpidcdabDoor
/-- The decimal digits of u. -/
def decI (u : Nat) : List Int := if u < 10 then [48 + (u : Int)] else decI (u / 10) ++ [48 + ((u % 10 : Nat) : Int)]
  termination_by u
  decreasing_by omega
theorem decI_small (u : Nat) (h : u < 10) : decI u = [48 + (u : Int)] := by rw [decI, if_pos h]
theorem decI_big (u : Nat) (h : 10 ≤ u) : decI u = decI (u / 10) ++ [48 + ((u % 10 : Nat) : Int)] := by rw [decI, if_neg (by omega)]
theorem decI_digits (u : Nat) : (decI u).map (fun n => UInt8.ofNat n.toNat) = Lib.decDigits u := by
  induction u using Nat.strongRecOn with
  | _ u ih =>
    by_cases h : u < 10
    · rw [decI_small u h, Lib.decDigits_one h]
      simp only [List.map_cons, List.map_nil]
      rw [show (48 + (u : Int)).toNat = 48 + u by omega]
    · rw [decI_big u (by omega), Lib.decDigits, dif_neg h, List.map_append, ih _ (by omega)]
      simp only [List.map_cons, List.map_nil]
      rw [show (48 + ((u % 10 : Nat) : Int)).toNat = 48 + u % 10 by omega]
theorem str_decI (u : Nat) : strOfNums (decI u) = ⟨(Lib.itoa (u : Int)).toArray⟩ := by
  unfold strOfNums; rw [decI_digits, Lib.itoa_nonneg]
theorem str_decI_neg (u : Nat) (h : 1 ≤ u) : strOfNums (45 :: decI u) = ⟨(Lib.itoa (-(u : Int))).toArray⟩ := by
  unfold strOfNums; rw [List.map_cons, decI_digits, Lib.itoa_neg u h]; rfl
theorem decI_length (u : Nat) (h : u ≤ 9223372036854775808) (h1 : 1 ≤ u) : (decI u).length ≤ 21 := by
  have h2 := Lib.itoa_length_le (-(u : Int)) (by omega) (by omega)
  rw [Lib.itoa_neg u h1, ← decI_digits] at h2
  simp at h2
  omega
/-- What the loop has made of u: xs, and m is left. -/
def DecInv (u m : Nat) (xs : List Int) : Prop := if m = 0 then xs = decI u else decI m ++ xs = decI u
theorem decInv_start (u : Nat) (h : 1 ≤ u) : DecInv u u [] := by unfold DecInv; rw [if_neg (by omega)]; simp
theorem decInv_step {u m : Nat} {xs : List Int} (h : DecInv u m xs) (hm : 1 ≤ m) : DecInv u (m / 10) ((48 + ((m % 10 : Nat) : Int)) :: xs) := by
  unfold DecInv at *
  rw [if_neg (by omega)] at h
  by_cases h10 : m < 10
  · rw [if_pos (by omega), ← h, decI_small m h10, show m % 10 = m by omega]; rfl
  · rw [if_neg (by omega), ← h, decI_big m (by omega)]; simp
theorem decInv_end {u : Nat} {xs : List Int} (h : DecInv u 0 xs) : xs = decI u := by unfold DecInv at h; rwa [if_pos rfl] at h
theorem decInv_len {u m : Nat} {xs : List Int} (h : DecInv u m xs) (hu : u ≤ 9223372036854775808) (h1 : 1 ≤ u) : xs.length ≤ 21 := by
  have h2 := decI_length u hu h1
  unfold DecInv at h
  split at h
  · rw [h]; exact h2
  · rw [← h] at h2; simp at h2; omega
end Go.Proofs.YteelgogfpidcdabDoor
