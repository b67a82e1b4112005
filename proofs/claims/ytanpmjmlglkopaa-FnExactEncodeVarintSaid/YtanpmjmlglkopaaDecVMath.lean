/-
  Plain facts on varints: what DecodeVarint computes.
-/
import Derived.Test.YtanpmjmlglkopaaNumMath
import Derived.Laws.BytesArg
import Derived.Laws.Strings2
import Derived.Laws.BitsAllLaws
import Derived.PlainAid
namespace Go.Proofs.Ytanpmjmlglkopaa
/-- EncodeVarint. -/
def encV (n : Int) : List Int := if 0 ≤ n ∧ n ≤ 562949953421311 then evI n.toNat else []
theorem encV_in (n : Nat) (h : n ≤ 562949953421311) : encV n = evI n := by unfold encV; rw [if_pos (by omega)]; simp
theorem encV_out (n : Int) (h : ¬ (0 ≤ n ∧ n ≤ 562949953421311)) : encV n = [] := by unfold encV; rw [if_neg h]
theorem evI_ne (n : Nat) : evI n ≠ [] := by
  by_cases h : n < 128
  · rw [evI_small n h]; simp
  · rw [evI_big n (by omega)]; simp
theorem evI_range (n : Nat) : ∀ y ∈ evI n, 0 ≤ y ∧ y ≤ 255 := by
  induction n using Nat.strongRecOn with
  | _ n ih =>
    by_cases h : n < 128
    · rw [evI_small n h]; intro y hy; simp at hy; omega
    · rw [evI_big n (by omega)]
      intro y hy
      rcases List.mem_cons.1 hy with h1 | h1
      · omega
      · exact ih _ (by omega) y h1
theorem evI_parts (n : Nat) : ∀ (xs : List Int) (x : Int), evI n = xs ++ [x] → x < 128 ∧ ∀ y ∈ xs, 128 ≤ y := by
  induction n using Nat.strongRecOn with
  | _ n ih =>
    intro xs x hx
    by_cases h : n < 128
    · rw [evI_small n h] at hx
      cases xs with
      | nil => simp at hx; exact ⟨by omega, by simp⟩
      | cons a r => simp at hx
    · rw [evI_big n (by omega)] at hx
      cases xs with
      | nil => simp at hx; exact absurd hx.2 (evI_ne _)
      | cons a r =>
        simp only [List.cons_append, List.cons.injEq] at hx
        have := ih (n / 128) (by omega) r x hx.2
        refine ⟨this.1, ?_⟩
        intro y hy
        rcases List.mem_cons.1 hy with h1 | h1
        · omega
        · exact this.2 y h1
/-- The number that bytes encode in groups of seven bits, least significant first. -/
def le : List UInt8 → Nat
  | [] => 0
  | b :: r => b.toNat % 128 + 128 * le r
theorem le_snoc (l : List UInt8) (b : UInt8) : le (l ++ [b]) = le l + 128 ^ l.length * (b.toNat % 128) := by
  induction l with
  | nil => simp [le]
  | cons a l ih => simp only [List.cons_append, le, ih, List.length_cons, Nat.pow_succ]; rw [Nat.mul_add, ← Nat.mul_assoc, Nat.mul_comm 128 (128 ^ l.length)]; omega
theorem le_lt (l : List UInt8) : le l < 128 ^ l.length := by
  induction l with
  | nil => simp [le]
  | cons a l ih => simp only [le, List.length_cons, Nat.pow_succ]; omega
theorem le_lt7 (l : List UInt8) (h : l.length ≤ 7) : le l ≤ 562949953421311 := by
  have h1 := le_lt l
  have h2 : 128 ^ l.length ≤ 128 ^ 7 := Nat.pow_le_pow_right (by omega) h
  omega
theorem strOfNums_toList (xs : List Int) : (strOfNums xs).toList = xs.map fun n => UInt8.ofNat n.toNat := by rw [ByteArray.toList_eq]; rfl
theorem extract_toList (s : ByteArray) (k : Nat) : (s.extract 0 k).toList = s.data.toList.take k := by
  rw [ByteArray.toList_eq]; simp
/-- The first k bytes are a varint. -/
def Good (s : ByteArray) (k : Nat) : Prop := 1 ≤ k ∧ k ≤ 7 ∧ k ≤ s.size ∧ (strOfNums (encV (le (s.data.toList.take k)))).toList = (s.extract 0 k).toList
theorem map_back : ∀ (L : List Int), (∀ y ∈ L, 0 ≤ y ∧ y ≤ 255) → (L.map fun n => UInt8.ofNat n.toNat).map (fun b => (b.toNat : Int)) = L
  | [], _ => rfl
  | y :: L, h => by
    have h1 := h y (by simp)
    simp only [List.map_cons]
    rw [map_back L (fun z hz => h z (by simp [hz]))]
    congr 1
    rw [UInt8.toNat_ofNat']
    omega
theorem good_bytes {s : ByteArray} {j : Nat} (hj : j < s.size) (h : Good s (j + 1)) : s[j].toNat < 128 ∧ ∀ i (hi : i < j), 128 ≤ (s[i]'(by omega)).toNat := by
  obtain ⟨_, h7, _, he⟩ := h
  rw [encV_in _ (le_lt7 _ (by rw [List.length_take]; omega)), strOfNums_toList, extract_toList] at he
  have hb := map_back _ (evI_range (le (s.data.toList.take (j + 1))))
  rw [he, take_snoc s j hj, List.map_append] at hb
  have hp := evI_parts _ _ _ hb.symm
  refine ⟨by have := hp.1; simp at this; omega, ?_⟩
  intro i hi
  have := hp.2 ((s[i]'(by omega)).toNat : Int) (by
    refine List.mem_map.2 ⟨s[i]'(by omega), ?_, rfl⟩
    have e : (s.data.toList.take j)[i]'(by rw [List.length_take]; simp; omega) = s[i]'(by omega) := by rw [List.getElem_take]; rfl
    rw [← e]; exact List.getElem_mem _)
  omega
theorem good_lt {s : ByteArray} {j : Nat} (h : Good s j) : ∃ i, ∃ hi : i < s.size, j = i + 1 ∧ s[i].toNat < 128 := by
  obtain ⟨i, rfl⟩ : ∃ i, j = i + 1 := ⟨j - 1, by have := h.1; omega⟩
  have hi : i < s.size := by have := h.2.2.1; omega
  exact ⟨i, hi, rfl, (good_bytes hi h).1⟩
theorem good_unique {s : ByteArray} {j k : Nat} (h : Good s j) (g : Good s k) : j = k := by
  obtain ⟨a, ha, rfl, ha1⟩ := good_lt h
  obtain ⟨b, hb, rfl, hb1⟩ := good_lt g
  by_cases h1 : a < b
  · have := (good_bytes hb g).2 a h1; omega
  · by_cases h2 : b < a
    · have := (good_bytes ha h).2 b h2; omega
    · omega
/-- DecodeVarint. -/
noncomputable def decV (s : ByteArray) : Nat × Nat :=
  open Classical in if h : ∃ k, Good s k then (le (s.data.toList.take (Classical.choose h)), Classical.choose h) else (0, 0)
theorem decV_good {s : ByteArray} {k : Nat} (h : Good s k) : decV s = (le (s.data.toList.take k), k) := by
  unfold decV
  have hx : ∃ k, Good s k := ⟨k, h⟩
  rw [dif_pos hx, good_unique (Classical.choose_spec hx) h]
theorem decV_none {s : ByteArray} (h : ∀ k, ¬ Good s k) : decV s = (0, 0) := by
  unfold decV
  rw [dif_neg (fun ⟨k, hk⟩ => h k hk)]
/-- The first byte below 128 is at k, and the bytes up to it are no varint: there is none. -/
theorem decV_first {s : ByteArray} {k : Nat} (hk : k < s.size) (hb : s[k].toNat < 128) (hp : ∀ i (hi : i < k), 128 ≤ (s[i]'(by omega)).toNat) (h : ¬ Good s (k + 1)) : decV s = (0, 0) := by
  refine decV_none fun j hj => ?_
  obtain ⟨a, ha, rfl, ha1⟩ := good_lt hj
  by_cases h1 : a < k
  · have := hp a h1; omega
  · by_cases h2 : k < a
    · have := (good_bytes ha hj).2 k h2; omega
    · obtain rfl : a = k := by omega
      exact h hj
theorem decV_end {s : ByteArray} {k : Nat} (hk : k ≤ s.size) (h7 : k = 7 ∨ k = s.size) (hp : ∀ i (hi : i < k), 128 ≤ (s[i]'(by omega)).toNat) : decV s = (0, 0) := by
  refine decV_none fun j hj => ?_
  obtain ⟨a, ha, rfl, ha1⟩ := good_lt hj
  have hj7 := hj.2.1
  have := hp a (by omega)
  omega
/-! The step of the program: n | (b & 127) << 7k. -/
theorem and127 (b : Nat) (h : b < 256) : bits .and .u8 (b : Int) 127 = ((b % 128 : Nat) : Int) := by
  have := bits_mask .u8 8 (by decide) wraps_u8 7 (by decide) (b : Int) (by omega) (by omega)
  rw [show (127 : Int) = 2 ^ 7 - 1 by decide, this]
  omega
theorem pow_7k (k : Nat) : (2 : Nat) ^ (7 * k) = 128 ^ k := by rw [Nat.pow_mul]
theorem wrap64_small (n : Int) (h0 : 0 ≤ n) (h1 : n < 4611686018427387904) : RowKit.wrap64 n = n := by unfold RowKit.wrap64; omega
theorem step_or (m b k : Nat) (hb : b < 256) (hk : k < 7) (hm : m < 128 ^ k) :
    bits .or .i64 (m : Int) (RowKit.wrap64 (RowKit.wrap64 (bits .and .u8 (b : Int) 127) * 2 ^ (7 * k))) = ((m + 128 ^ k * (b % 128) : Nat) : Int) := by
  have h6 : 128 ^ k ≤ 128 ^ 6 := Nat.pow_le_pow_right (by omega) (by omega)
  have hx : 128 ^ k * (b % 128) ≤ 128 ^ 6 * 127 := Nat.mul_le_mul h6 (by omega)
  have e : ((b % 128 : Nat) : Int) * 2 ^ (7 * k) = ((128 ^ k * (b % 128) : Nat) : Int) := by
    rw [← pow_7k k, Int.natCast_mul, Int.mul_comm]; simp
  rw [and127 b hb, wrap64_small ((b % 128 : Nat) : Int) (by omega) (by omega), e, wrap64_small _ (by omega) (by omega), (bits_nat .i64 62 (by decide) wraps_i64 m _ (by omega) (by omega)).2, Nat.or_comm,
    nat_join (7 * k) _ _ (by rw [pow_7k]; exact Nat.mul_mod_right _ _) (by rw [pow_7k]; exact hm), Nat.add_comm]
theorem le_take_step (s : ByteArray) (k : Nat) (h : k < s.size) : le (s.data.toList.take (k + 1)) = le (s.data.toList.take k) + 128 ^ k * (s[k].toNat % 128) := by
  rw [take_snoc s k h, le_snoc, List.length_take, show min k s.data.toList.length = k by simp; omega]
theorem le_drop_step (s : ByteArray) (k j : Nat) (h : j < k) (hk : k ≤ s.size) : le ((s.data.toList.take k).drop j) = (s[j]'(by omega)).toNat % 128 + 128 * le ((s.data.toList.take k).drop (j + 1)) := by
  rw [List.drop_eq_getElem_cons (by rw [List.length_take]; simp; omega), le, List.getElem_take]
  rfl
end Go.Proofs.Ytanpmjmlglkopaa
