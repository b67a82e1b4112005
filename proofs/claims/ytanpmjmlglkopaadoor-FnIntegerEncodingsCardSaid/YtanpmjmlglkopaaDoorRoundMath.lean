/-
  Plain facts: each decoder gives back what its encoder was given, whatever follows.
-/
import Derived.Test.YtanpmjmlglkopaaDoorDecVMath
import Derived.Test.YtanpmjmlglkopaaDoorDecHMath
import Derived.Test.YtanpmjmlglkopaaDoorParMath
namespace Go.Proofs.YtanpmjmlglkopaaDoor
/-- The bytes that numbers stand for. -/
def toB (L : List Int) : List UInt8 := L.map fun n => UInt8.ofNat n.toNat
theorem str_list (L : List Int) : (strOfNums L).data.toList = toB L := rfl
theorem toB_append (L M : List Int) : toB (L ++ M) = toB L ++ toB M := List.map_append
theorem toB_length (L : List Int) : (toB L).length = L.length := List.length_map _
theorem byte_of (k : Nat) (h : k ≤ 255) : (UInt8.ofNat (k : Int).toNat).toNat = k := by
  rw [UInt8.toNat_ofNat', Int.toNat_natCast]; omega
theorem le_evI (n : Nat) : le (toB (evI n)) = n := by
  induction n using Nat.strongRecOn with
  | _ n ih =>
    by_cases h : n < 128
    · rw [evI_small n h]
      show (UInt8.ofNat (n : Int).toNat).toNat % 128 + 128 * le [] = n
      rw [byte_of n (by omega), le]; omega
    · rw [evI_big n (by omega)]
      show (UInt8.ofNat ((n % 128 + 128 : Nat) : Int).toNat).toNat % 128 + 128 * le (toB (evI (n / 128))) = n
      rw [byte_of _ (by omega), ih _ (by omega)]; omega
theorem evI_len_pow (k : Nat) : ∀ n, n < 128 ^ (k + 1) → (evI n).length ≤ k + 1 := by
  induction k with
  | zero => intro n h; rw [evI_small n (by simpa using h)]; simp
  | succ k ih =>
    intro n h
    by_cases h1 : n < 128
    · rw [evI_small n h1]; simp
    · rw [evI_big n (by omega)]
      have := ih (n / 128) (Nat.div_lt_of_lt_mul (by rw [Nat.pow_succ, Nat.mul_comm] at h; exact h))
      simp only [List.length_cons]; omega
theorem evI_pos (n : Nat) : 1 ≤ (evI n).length := by
  cases h : evI n with
  | nil => exact absurd h (evI_ne n)
  | cons a r => simp
theorem good_enc (n : Nat) (h : n ≤ 562949953421311) (bs : List Int) : decV (strOfNums (evI n ++ bs)) = (n, (evI n).length) := by
  have h7 : (evI n).length ≤ 7 := evI_len_pow 6 n (by omega)
  have ht : (strOfNums (evI n ++ bs)).data.toList.take (evI n).length = toB (evI n) := by
    rw [str_list, toB_append, List.take_append_of_le_length (by rw [toB_length]; exact Nat.le_refl _), List.take_of_length_le (by rw [toB_length]; exact Nat.le_refl _)]
  have hg : Good (strOfNums (evI n ++ bs)) (evI n).length := by
    refine ⟨evI_pos n, h7, by rw [strOfNums_size]; simp, ?_⟩
    rw [ht, le_evI, encV_in n h, strOfNums_toList, extract_toList, ht]; rfl
  rw [decV_good hg, ht, le_evI]
/-! Fixed width. -/
theorem be_beI (a n : Nat) : be (toB (beI a n)) = n % 256 ^ a := by
  induction a generalizing n with
  | zero => simp [beI, toB, be]; omega
  | succ a ih =>
    rw [beI, toB_append]
    show be (toB (beI a (n / 256)) ++ [UInt8.ofNat ((n % 256 : Nat) : Int).toNat]) = _
    rw [be_snoc, ih, byte_of _ (by omega), Nat.pow_succ, Nat.mul_comm (256 ^ a) 256, Nat.mod_mul]
    omega
theorem decF_enc (n a : Nat) (h1 : 1 ≤ a) (h2 : a ≤ 7) (h : n < 256 ^ a) (bs : List Int) : decF (strOfNums (beI a n ++ bs)).data.toList a = (n, true) := by
  have ht : (strOfNums (beI a n ++ bs)).data.toList.take a = toB (beI a n) := by
    rw [str_list, toB_append, List.take_append_of_le_length (by rw [toB_length, beI_length]; exact Nat.le_refl _), List.take_of_length_le (by rw [toB_length, beI_length]; exact Nat.le_refl _)]
  unfold decF
  rw [if_pos ⟨by omega, by omega, by rw [str_list, toB_length, List.length_append, beI_length]; omega⟩, Int.toNat_natCast, ht, be_beI, Nat.mod_eq_of_lt h]
/-! Hexadecimal digits. -/
theorem hexD_byte (q : Int) (h0 : 0 ≤ q) (h1 : q < 16) : hexI ((UInt8.ofNat (hexD q).toNat).toNat : Int) = q := by
  have : ((UInt8.ofNat (hexD q).toNat).toNat : Int) = hexD q := by
    rw [UInt8.toNat_ofNat']; unfold hexD; split <;> omega
  rw [this, hexI_hexD q h0 h1]
theorem digs_hex (l : List UInt8) : digs (toB (l.flatMap fun b => [hexD ((b.toNat : Int) / 16), hexD ((b.toNat : Int) % 16)])) = l.flatMap fun b => [(b.toNat : Int) / 16, (b.toNat : Int) % 16] := by
  induction l with
  | nil => rfl
  | cons b l ih =>
    have hb := b.toNat_lt
    simp only [List.flatMap_cons, toB_append]
    unfold digs at ih ⊢
    rw [List.map_append, ih]
    congr 1
    show [hexI ((UInt8.ofNat (hexD ((b.toNat : Int) / 16)).toNat).toNat : Int), hexI ((UInt8.ofNat (hexD ((b.toNat : Int) % 16)).toNat).toNat : Int)] = _
    rw [hexD_byte _ (by omega) (by omega), hexD_byte _ (by omega) (by omega)]
theorem pack_halves (l : List UInt8) : pack (l.flatMap fun b => [(b.toNat : Int) / 16, (b.toNat : Int) % 16]) = l.map fun b => (b.toNat : Int) := by
  induction l with
  | nil => rfl
  | cons b l ih =>
    simp only [List.flatMap_cons, List.cons_append, List.nil_append, pack, ih, List.map_cons]
    congr 1; omega
theorem decH_enc (l : List UInt8) : decH (toB (l.flatMap fun b => [hexD ((b.toNat : Int) / 16), hexD ((b.toNat : Int) % 16)])) = (l.map fun b => (b.toNat : Int), true) := by
  rw [decH_ok, digs_hex, pack_halves]
  · rw [← digs_length, digs_hex]
    induction l with
    | nil => rfl
    | cons b l ih => simp only [List.flatMap_cons, List.length_append, List.length_cons, List.length_nil] at ih ⊢; omega
  · rw [digs_hex]
    intro x hx
    obtain ⟨b, _, hb⟩ := List.mem_flatMap.1 hx
    simp at hb
    omega
theorem str_bytes (l : List UInt8) : strOfNums (l.map fun b => (b.toNat : Int)) = ⟨l.toArray⟩ := by
  unfold strOfNums
  congr 1
  rw [List.map_map]
  congr 1
  induction l with
  | nil => rfl
  | cons b l ih => simp only [List.map_cons, ih, Function.comp, Int.toNat_natCast]; congr 1; exact UInt8.ofNat_toNat
/-! Decimal numerals. -/
theorem sval_itoa (w : Int) : sval (Lib.itoa w) = w ∧ dcnt (Lib.itoa w) = (Lib.decDigits w.natAbs).length := by
  by_cases h : w < 0
  · have e : Lib.itoa w = 45 :: Lib.decDigits w.natAbs := by unfold Lib.itoa; rw [if_pos h]
    have hd := digits_dec w.natAbs
    rw [e]
    refine ⟨?_, ?_⟩
    · show -(dval (Lib.decDigits w.natAbs) : Int) = w
      rw [hd.1]; omega
    · rw [dcnt_minus, dcnt_all _ hd.2]
  · have e : Lib.itoa w = Lib.decDigits w.natAbs := by unfold Lib.itoa; rw [if_neg h, show w.toNat = w.natAbs by omega]
    have hd := digits_dec w.natAbs
    rw [e]
    have hn : neg (Lib.decDigits w.natAbs) = false := by
      cases hl : Lib.decDigits w.natAbs with
      | nil => rfl
      | cons a r =>
        have := (dig_iff a).1 (hd.2 a (by rw [hl]; simp))
        have h2 : (a == 45) = false := by rw [beq_eq_false_iff_ne]; intro g; rw [g] at this; simp at this
        show (some a == some 45) = false
        simpa using h2
    refine ⟨?_, dcnt_all _ hd.2⟩
    unfold sval; rw [hn]
    show (dval (Lib.decDigits w.natAbs) : Int) = w
    rw [hd.1]; omega
theorem dec_len (k : Nat) : ∀ u, u < 10 ^ (k + 1) → (Lib.decDigits u).length ≤ k + 1 := by
  induction k with
  | zero => intro u h; rw [Lib.decDigits_one (by simpa using h)]; simp
  | succ k ih =>
    intro u h
    by_cases h1 : u < 10
    · rw [Lib.decDigits_one h1]; simp
    · rw [Lib.decDigits, dif_neg h1]
      have := ih (u / 10) (Nat.div_lt_of_lt_mul (by rw [Nat.pow_succ, Nat.mul_comm] at h; exact h))
      simp; omega
theorem par_small (w : Int) (h0 : -1000000000 < w) (h1 : w < 1000000000) : parI (Lib.itoa w) = (w, true) := by
  have hs := sval_itoa w
  have := parI_ok (l := Lib.itoa w) (by rw [hs.1]) (by rw [hs.2]; exact dec_len 8 _ (by omega))
  rw [this, hs.1]
theorem par_large (w : Int) (h : ¬ (-1000000000 < w ∧ w < 1000000000)) : parI (Lib.itoa w) = (0, false) := by
  have hs := sval_itoa w
  refine parI_many ?_
  by_cases h9 : 9 < dcnt (Lib.itoa w)
  · exact h9
  · exfalso
    have := dval_lt9 (Lib.itoa w) (by omega)
    have e : (sval (Lib.itoa w)).natAbs = dval (Lib.itoa w) := by unfold sval; split <;> omega
    rw [hs.1] at e
    omega
end Go.Proofs.YtanpmjmlglkopaaDoor
