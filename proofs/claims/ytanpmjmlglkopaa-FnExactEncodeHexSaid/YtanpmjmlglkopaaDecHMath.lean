/-
  Plain facts on hexadecimal digits: what DecodeHex computes.
-/
import Derived.WalkKit
namespace Go.Proofs.Ytanpmjmlglkopaa
/-- The digit of k. -/
def hexD (k : Int) : Int := if k < 10 then 48 + k else 87 + k
/-- The value of a digit, or -1. -/
def hexI (r : Int) : Int := if 48 ≤ r ∧ r ≤ 57 then r - 48 else if 97 ≤ r ∧ r ≤ 102 then r - 87 else -1
theorem hexI_hexD (k : Int) (h0 : 0 ≤ k) (h1 : k < 16) : hexI (hexD k) = k := by unfold hexI hexD; split <;> split <;> (try split) <;> omega
theorem hexI_range (r : Int) : -1 ≤ hexI r ∧ hexI r < 16 := by unfold hexI; split <;> (try split) <;> omega
theorem hexI_none (r : Int) (h : ∀ k : Nat, k < 16 → hexD k ≠ r) : hexI r = -1 := by
  unfold hexI
  split
  · have h1 := h (r - 48).toNat (by omega); unfold hexD at h1; split at h1 <;> omega
  · split
    · have h1 := h (r - 87).toNat (by omega); unfold hexD at h1; split at h1 <;> omega
    · rfl
theorem hexI_high (r : Int) (h : 128 ≤ r) : hexI r = -1 := by unfold hexI; split <;> (try split) <;> omega
/-- Pairs of digits as bytes; a last one alone as it is. -/
def pack : List Int → List Int
  | [] => []
  | [a] => [a]
  | a :: b :: r => (16 * a + b) :: pack r
theorem pack_length : ∀ l : List Int, (pack l).length = (l.length + 1) / 2
  | [] => rfl
  | [_] => by simp [pack]
  | a :: b :: r => by simp only [pack, List.length_cons, pack_length r]; omega
theorem pack_pair : ∀ (l : List Int) (a b : Int), l.length % 2 = 0 → pack (l ++ [a, b]) = pack l ++ [16 * a + b]
  | [], _, _, _ => rfl
  | [_], _, _, h => by simp at h
  | x :: y :: r, a, b, h => by
    have := pack_pair r a b (by simp at h; omega)
    simp only [List.cons_append, pack, this]
/-- The array while the digits ds have been taken. -/
def packed (n : Nat) (ds : List Int) : List Int := pack ds ++ List.replicate (n - (ds.length + 1) / 2) 0
theorem packed_step : ∀ (ds : List Int) (n : Nat) (d : Int), (∀ x ∈ ds, 0 ≤ x ∧ x < 16) → ds.length / 2 < n →
    ∃ a : Int, 0 ≤ a ∧ a < 16 ∧ (packed n ds)[ds.length / 2]? = some a ∧ (packed n ds).set (ds.length / 2) (a * 16 + d) = packed n (ds ++ [d])
  | [], n, d, _, h => by
    obtain ⟨m, rfl⟩ : ∃ m, n = m + 1 := ⟨n - 1, by simp at h; omega⟩
    exact ⟨0, by omega, by omega, by simp [packed, pack], by simp [packed, pack, List.replicate_succ]⟩
  | [x], n, d, hx, h => by
    obtain ⟨m, rfl⟩ : ∃ m, n = m + 1 := ⟨n - 1, by simp at h; omega⟩
    have := hx x (by simp)
    exact ⟨x, this.1, this.2, by simp [packed, pack], by simp [packed, pack, Int.mul_comm]⟩
  | x :: y :: r, n, d, hx, h => by
    obtain ⟨m, rfl⟩ : ∃ m, n = m + 1 := ⟨n - 1, by simp at h; omega⟩
    obtain ⟨a, h0, h1, h2, h3⟩ := packed_step r m d (fun z hz => hx z (by simp [hz])) (by simp at h; omega)
    have e : ∀ l : List Int, packed (m + 1) (x :: y :: l) = (16 * x + y) :: packed m l := by
      intro l
      simp only [packed, pack, List.length_cons, List.cons_append]
      rw [show m + 1 - (l.length + 1 + 1 + 1) / 2 = m - (l.length + 1) / 2 by omega]
    have e2 : (x :: y :: r).length / 2 = r.length / 2 + 1 := by simp only [List.length_cons]; omega
    refine ⟨a, h0, h1, ?_, ?_⟩
    · rw [e, e2, List.getElem?_cons_succ]; exact h2
    · rw [e, e2, List.set_cons_succ, h3, List.cons_append, List.cons_append, e]
/-- The digits of a text. -/
def digs (l : List UInt8) : List Int := l.map fun b => hexI (b.toNat : Int)
/-- DecodeHex. -/
def decH (l : List UInt8) : List Int × Bool := if l.length % 2 = 0 ∧ ∀ x ∈ digs l, 0 ≤ x then (pack (digs l), true) else ([], false)
theorem decH_ok (l : List UInt8) (h : l.length % 2 = 0) (hx : ∀ x ∈ digs l, 0 ≤ x) : decH l = (pack (digs l), true) := by unfold decH; rw [if_pos ⟨h, hx⟩]
theorem decH_odd (l : List UInt8) (h : l.length % 2 ≠ 0) : decH l = ([], false) := by unfold decH; rw [if_neg (fun g => h g.1)]
theorem decH_bad (l : List UInt8) (b : UInt8) (hb : b ∈ l) (h : hexI (b.toNat : Int) < 0) : decH l = ([], false) := by
  unfold decH; rw [if_neg]
  intro g
  have := g.2 (hexI (b.toNat : Int)) (by unfold digs; exact List.mem_map.2 ⟨b, hb, rfl⟩)
  omega
theorem digs_snoc (l : List UInt8) (b : UInt8) : digs (l ++ [b]) = digs l ++ [hexI (b.toNat : Int)] := by simp [digs]
theorem digs_length (l : List UInt8) : (digs l).length = l.length := by simp [digs]
end Go.Proofs.Ytanpmjmlglkopaa
