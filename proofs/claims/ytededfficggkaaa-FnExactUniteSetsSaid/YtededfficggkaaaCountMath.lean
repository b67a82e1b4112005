/-
  How many members a mask has: the ones of its three bytes.
-/
import Derived.Test.YtededfficggkaaaMaskMath
import Derived.Lib.BitFns
namespace Go.Proofs.Ytededfficggkaaa
set_option linter.unusedVariables false
theorem popAux_split : ∀ (a b x : Nat), Lib.popAux (a + b) x = Lib.popAux a x + Lib.popAux b (x / 2 ^ a)
  | 0, b, x => by simp [Lib.popAux]
  | a + 1, b, x => by
    rw [show a + 1 + b = (a + b) + 1 by omega]
    show x % 2 + Lib.popAux (a + b) (x / 2) = x % 2 + Lib.popAux a (x / 2) + Lib.popAux b (x / 2 ^ (a + 1))
    rw [popAux_split a b (x / 2), Nat.div_div_eq_div_mul, Nat.pow_succ, Nat.mul_comm (2 ^ a) 2, Nat.add_assoc]
theorem popAux_zero : ∀ a : Nat, Lib.popAux a 0 = 0
  | 0 => rfl
  | a + 1 => by
    show 0 % 2 + Lib.popAux a (0 / 2) = 0
    simp [popAux_zero a]
theorem popAux_mod : ∀ (a x : Nat), Lib.popAux a (x % 2 ^ a) = Lib.popAux a x
  | 0, x => rfl
  | a + 1, x => by
    show x % 2 ^ (a + 1) % 2 + Lib.popAux a (x % 2 ^ (a + 1) / 2) = x % 2 + Lib.popAux a (x / 2)
    have h1 : x % 2 ^ (a + 1) % 2 = x % 2 := Nat.mod_mod_of_dvd x ⟨2 ^ a, by rw [Nat.pow_succ, Nat.mul_comm]⟩
    have h2 : x % 2 ^ (a + 1) / 2 = x / 2 % 2 ^ a := by
      rw [Nat.pow_succ, Nat.mul_comm, Nat.mod_mul_right_div_self]
    rw [h1, h2, popAux_mod a (x / 2)]
theorem popAux_count : ∀ (f x : Nat), Lib.popAux f x = ((List.range f).filter fun i => x.testBit i).length
  | 0, x => rfl
  | f + 1, x => by
    show x % 2 + Lib.popAux f (x / 2) = _
    rw [List.range_succ_eq_map, List.filter_cons, List.filter_map, popAux_count f (x / 2)]
    have e : (List.filter ((fun i => x.testBit i) ∘ Nat.succ) (List.range f)) = List.filter (fun i => (x / 2).testBit i) (List.range f) := by
      apply List.filter_congr
      intro i _
      show x.testBit (i + 1) = (x / 2).testBit i
      rw [Nat.testBit_add_one]
    rw [e]
    rcases Nat.mod_two_eq_zero_or_one x with h | h
    · have : x.testBit 0 = false := by simp [Nat.testBit_zero, h]
      rw [this]; simp [h]
    · have : x.testBit 0 = true := by simp [Nat.testBit_zero, h]
      rw [this]; simp [h]; omega
theorem ones_byte {y : Nat} (h : y < 256) : Lib.onesCount y = Lib.popAux 8 y := by
  unfold Lib.onesCount
  rw [show (64 : Nat) = 8 + 56 from rfl, popAux_split, Nat.div_eq_of_lt h, popAux_zero, Nat.add_zero]
theorem memL_count (m : Nat) : (memL m).length = Lib.onesCount (m / 65536 % 256) + Lib.onesCount (m / 256 % 256) + Lib.onesCount (m % 256) := by
  rw [ones_byte (Nat.mod_lt _ (by omega)), ones_byte (Nat.mod_lt _ (by omega)), ones_byte (Nat.mod_lt _ (by omega))]
  have e : (memL m).length = Lib.popAux 24 m := by
    rw [popAux_count]; simp [memL, memTo]
  rw [e, show (24 : Nat) = 8 + (8 + 8) from rfl, popAux_split, popAux_split, Nat.div_div_eq_div_mul]
  rw [show (256 : Nat) = 2 ^ 8 from rfl, popAux_mod, popAux_mod, popAux_mod, show (2 : Nat) ^ 8 * 2 ^ 8 = 65536 from rfl]
  omega
/-- How many members. -/
def cntM (m : Nat) : Nat := (memL m).length
theorem memL_le (m : Nat) : (memL m).length ≤ 24 := memTo_len m 24
end Go.Proofs.Ytededfficggkaaa
