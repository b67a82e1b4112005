/-
  Plain facts on numbers and lists of bytes: what the encodings of integers compute.
-/
import Derived.Laws.BitsLemmas
import Derived.WalkKit
namespace Go.Proofs.YteelgogfpidcdaaDoor
/-- The number that a list of bytes encodes, most significant byte first. -/
def be (l : List UInt8) : Nat := l.foldl (fun n b => n * 256 + b.toNat) 0
theorem be_snoc (l : List UInt8) (b : UInt8) : be (l ++ [b]) = be l * 256 + b.toNat := by simp [be]
theorem be_lt (l : List UInt8) : be l < 256 ^ l.length := by
  have h : ∀ (r : List UInt8), be r.reverse < 256 ^ r.length := by
    intro r
    induction r with
    | nil => simp [be]
    | cons b r ih => rw [List.reverse_cons, be_snoc]; have := b.toNat_lt; simp only [List.length_cons, Nat.pow_succ]; omega
  have := h l.reverse
  simpa using this
theorem be_lt6 (l : List UInt8) (h : l.length ≤ 6) : be l < 281474976710656 := by
  have := be_lt l
  have : 256 ^ l.length ≤ 256 ^ 6 := Nat.pow_le_pow_right (by omega) h
  omega
theorem be_lt7 (l : List UInt8) (h : l.length ≤ 7) : be l < 72057594037927936 := by
  have := be_lt l
  have : 256 ^ l.length ≤ 256 ^ 7 := Nat.pow_le_pow_right (by omega) h
  omega
theorem take_snoc (s : ByteArray) (k : Nat) (h : k < s.size) : s.data.toList.take (k + 1) = s.data.toList.take k ++ [s[k]] := by
  rw [List.take_succ_eq_append_getElem (by simpa using h)]; rfl
theorem ret_int {k : IntKind} {a b : Int} (h : a = b) : Ending.returned (.int k a) = .returned (.int k b) := by rw [h]
theorem wraps_i64 (n : Int) (h₀ : 0 ≤ n) (h₁ : n < 2 ^ 62) : IntKind.i64.wrap n = n := by rw [IntKind.wrap_i64]; omega
theorem i64_or8 (x y : Int) (h0 : 0 ≤ x) (h1 : x < 281474976710656) (h2 : 0 ≤ y) (h3 : y < 256) : bits .or .i64 (x * 256) y = x * 256 + y :=
  bits_join .i64 62 (by decide) wraps_i64 8 _ _ (by omega) (by omega) (by omega) h2 (by omega) (by omega)
/-- DecodeFixed. -/
def decF (l : List UInt8) (a : Int) : Nat × Bool := if 1 ≤ a ∧ a ≤ 7 ∧ a ≤ (l.length : Int) then (be (l.take a.toNat), true) else (0, false)
/-- The bytes of a varint. -/
def evI (n : Nat) : List Int := if n < 128 then [(n : Int)] else ((n % 128 + 128 : Nat) : Int) :: evI (n / 128)
  termination_by n
  decreasing_by omega
theorem evI_small (n : Nat) (h : n < 128) : evI n = [(n : Int)] := by rw [evI, if_pos h]
theorem evI_big (n : Nat) (h : 128 ≤ n) : evI n = ((n % 128 + 128 : Nat) : Int) :: evI (n / 128) := by rw [evI, if_neg (by omega)]
theorem evI_length (n : Nat) : (evI n).length ≤ n / 128 + 1 := by
  induction n using Nat.strongRecOn with
  | _ n ih =>
    by_cases h : n < 128
    · rw [evI_small n h]; simp
    · rw [evI_big n (by omega)]; have := ih (n / 128) (by omega); simp only [List.length_cons]; omega
theorem evI_step {xs : List Int} {k m : Nat} (h : xs ++ evI k = evI m) (hk : 128 ≤ k) : (xs ++ [((k % 128 + 128 : Nat) : Int)]) ++ evI (k / 128) = evI m := by
  rw [← h, evI_big k hk]; simp
theorem evI_end {xs : List Int} {k m : Nat} (h : xs ++ evI k = evI m) (hk : k < 128) : xs ++ [(k : Int)] = evI m := by
  rw [← h, evI_small k hk]
theorem evI_len {xs : List Int} {k m : Nat} (h : xs ++ evI k = evI m) (hm : m ≤ 562949953421311) : xs.length + 1 ≤ 140737488355328 := by
  have h1 := congrArg List.length h
  have h2 := evI_length m
  simp only [List.length_append] at h1
  omega
/-- The last a bytes of n, most significant byte first. -/
def beI : Nat → Nat → List Int
  | 0, _ => []
  | a + 1, n => beI a (n / 256) ++ [((n % 256 : Nat) : Int)]
theorem beI_length (a n : Nat) : (beI a n).length = a := by
  induction a generalizing n with
  | zero => rfl
  | succ a ih => simp [beI, ih]
theorem beI_cons (a n : Nat) : beI (a + 1) n = ((n / 256 ^ a % 256 : Nat) : Int) :: beI a n := by
  induction a generalizing n with
  | zero => simp [beI]
  | succ a ih =>
    rw [beI, ih (n / 256), Nat.div_div_eq_div_mul, show 256 * 256 ^ a = 256 ^ (a + 1) by rw [Nat.pow_succ]; omega]
    rfl
theorem div_step {n k m : Nat} (h : m = n / 256 ^ k) : m / 256 = n / 256 ^ (k + 1) := by
  rw [h, Nat.div_div_eq_div_mul, Nat.pow_succ]
theorem beI_step {n k m : Nat} (h : m = n / 256 ^ k) : beI (k + 1) n = ((m % 256 : Nat) : Int) :: beI k n := by
  rw [beI_cons, h]
/-- EncodeFixed. -/
def encF (n a : Int) : List Int := if 0 ≤ n ∧ 1 ≤ a ∧ a ≤ 7 ∧ n.toNat < 256 ^ a.toNat then beI a.toNat n.toNat else []
theorem encF_ok (n a : Nat) (h1 : 1 ≤ a) (h2 : a ≤ 7) (h : n < 256 ^ a) : encF n a = beI a n := by
  unfold encF; rw [if_pos ⟨by omega, by omega, by omega, by simpa using h⟩]; simp
theorem encF_bad (n a : Int) (h : ¬ (0 ≤ n ∧ 1 ≤ a ∧ a ≤ 7)) : encF n a = [] := by
  unfold encF; rw [if_neg (by omega)]
theorem encF_big (n a : Nat) (h : ¬ n < 256 ^ a) : encF n a = [] := by
  unfold encF; rw [if_neg (fun g => h (by simpa using g.2.2.2))]
theorem pow_256 (a : Nat) : (2 : Int) ^ (8 * a) = ((256 ^ a : Nat) : Int) := by
  rw [Int.pow_mul]; simp
theorem shr_zero (n a : Nat) (h : n < 256 ^ a) : ((n : Int) / 2 ^ (8 * a) != 0) = false := by
  rw [pow_256, ← Int.natCast_ediv, Nat.div_eq_of_lt h]; rfl
theorem shr_pos (n a : Nat) (h : ¬ n < 256 ^ a) : ((n : Int) / 2 ^ (8 * a) != 0) = true := by
  rw [pow_256, ← Int.natCast_ediv]
  have : 0 < n / 256 ^ a := Nat.div_pos (by omega) (Nat.pow_pos (by decide))
  rw [bne_iff_ne]; omega
theorem rep_set (j a n m : Nat) (h : m = n / 256 ^ (a - (j + 1))) (hj : j < a) :
    (List.replicate (j + 1) (0 : Int) ++ beI (a - (j + 1)) n).set j ((m % 256 : Nat) : Int) = List.replicate j 0 ++ beI (a - j) n := by
  rw [show a - j = a - (j + 1) + 1 by omega, beI_step h, List.replicate_succ', List.append_assoc, List.set_append_right _ _ (by simp)]
  simp
end Go.Proofs.YteelgogfpidcdaaDoor
