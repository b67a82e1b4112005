/-
  Plain facts on numbers and lists of bytes: what the encodings of integers compute.
-/
import Derived.Laws.BitsLemmas
import Derived.WalkKit
namespace Go.Proofs.Ytanpmjmlglkopaa
/-- The number that a list of bytes encodes, most significant byte first. -/
def be (l : List UInt8) : Nat := l.foldl (fun n b => n * 256 + b.toNat) 0
theorem be_snoc (l : List UInt8) (b : UInt8) : be (l ++ [b]) = be l * 256 + b.toNat := by simp [be]
theorem be_lt (l : List UInt8) : be l < 256 ^ l.length := by
  have h : ∀ (r : List UInt8), be r.reverse < 256 ^ r.length := by
    intro r
    induction r with
    | nil => simp [be]
    | cons b r ih => rw [List.reverse_cons, be_snoc]; have := b.toNat_lt; simp only [List.length_cons, Nat.pow_succ]; omega
  have := h l.reverse
  simpa using this
theorem be_lt6 (l : List UInt8) (h : l.length ≤ 6) : be l < 281474976710656 := by
  have := be_lt l
  have : 256 ^ l.length ≤ 256 ^ 6 := Nat.pow_le_pow_right (by omega) h
  omega
theorem be_lt7 (l : List UInt8) (h : l.length ≤ 7) : be l < 72057594037927936 := by
  have := be_lt l
  have : 256 ^ l.length ≤ 256 ^ 7 := Nat.pow_le_pow_right (by omega) h
  omega
theorem take_snoc (s : ByteArray) (k : Nat) (h : k < s.size) : s.data.toList.take (k + 1) = s.data.toList.take k ++ [s[k]] := by
  rw [List.take_succ_eq_append_getElem (by simpa using h)]; rfl
theorem ret_int {k : IntKind} {a b : Int} (h : a = b) : Ending.returned (.int k a) = .returned (.int k b) := by rw [h]
theorem wraps_i64 (n : Int) (h₀ : 0 ≤ n) (h₁ : n < 2 ^ 62) : IntKind.i64.wrap n = n := by rw [IntKind.wrap_i64]; omega
theorem i64_or8 (x y : Int) (h0 : 0 ≤ x) (h1 : x < 281474976710656) (h2 : 0 ≤ y) (h3 : y < 256) : bits .or .i64 (x * 256) y = x * 256 + y :=
  bits_join .i64 62 (by decide) wraps_i64 8 _ _ (by omega) (by omega) (by omega) h2 (by omega) (by omega)
/-- DecodeFixed. -/
def decF (l : List UInt8) (a : Int) : Nat × Bool := if 1 ≤ a ∧ a ≤ 7 ∧ a ≤ (l.length : Int) then (be (l.take a.toNat), true) else (0, false)
end Go.Proofs.Ytanpmjmlglkopaa
