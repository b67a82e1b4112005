/-
  Plain facts on decimal numerals: what ParseInt computes.
-/
import Derived.Test.YteelgogfpidcdaaDoorFmtMath
import Derived.Lib.Strings
namespace Go.Proofs.YteelgogfpidcdaaDoor
/-- Is the byte a decimal digit? -/
def dig (b : UInt8) : Bool := decide (48 ≤ b.toNat) && decide (b.toNat ≤ 57)
/-- The number that the digits among the bytes spell. -/
def dval (l : List UInt8) : Nat := l.foldl (fun n b => if dig b then n * 10 + (b.toNat - 48) else n) 0
/-- How many digits are among the bytes. -/
def dcnt (l : List UInt8) : Nat := (l.filter dig).length
theorem dval_snoc (l : List UInt8) (b : UInt8) : dval (l ++ [b]) = if dig b then dval l * 10 + (b.toNat - 48) else dval l := by simp [dval]
theorem dcnt_snoc (l : List UInt8) (b : UInt8) : dcnt (l ++ [b]) = if dig b then dcnt l + 1 else dcnt l := by
  simp only [dcnt, List.filter_append, List.length_append]
  cases h : dig b <;> simp [h]
theorem dig_iff (b : UInt8) : dig b = true ↔ 48 ≤ b.toNat ∧ b.toNat ≤ 57 := by simp [dig]
theorem dval_lt (l : List UInt8) : dval l < 10 ^ dcnt l := by
  have h : ∀ r : List UInt8, dval r.reverse < 10 ^ dcnt r.reverse := by
    intro r
    induction r with
    | nil => simp [dval, dcnt]
    | cons b r ih =>
      rw [List.reverse_cons, dval_snoc, dcnt_snoc]
      by_cases hb : dig b = true
      · rw [if_pos hb, if_pos hb, Nat.pow_succ]; have := (dig_iff b).1 hb; omega
      · rw [if_neg hb, if_neg hb]; exact ih
  have := h l.reverse
  simpa using this
theorem dcnt_le (l : List UInt8) : dcnt l ≤ l.length := List.length_filter_le _ _
theorem dval_lt9 (l : List UInt8) (h : dcnt l ≤ 9) : dval l ≤ 999999999 := by
  have h1 := dval_lt l
  have h2 : 10 ^ dcnt l ≤ 10 ^ 9 := Nat.pow_le_pow_right (by omega) h
  omega
theorem dval_lt11 (l : List UInt8) (h : l.length ≤ 11) : dval l ≤ 99999999999 := by
  have h1 := dval_lt l
  have h2 : 10 ^ dcnt l ≤ 10 ^ 11 := Nat.pow_le_pow_right (by omega) (by have := dcnt_le l; omega)
  omega
theorem digits_dec (u : Nat) : dval (Lib.decDigits u) = u ∧ (∀ b ∈ Lib.decDigits u, dig b = true) := by
  induction u using Nat.strongRecOn with
  | _ u ih =>
    by_cases h : u < 10
    · rw [Lib.decDigits_one h]
      have hb : dig (UInt8.ofNat (48 + u)) = true := by rw [dig_iff, UInt8.toNat_ofNat']; omega
      refine ⟨?_, by intro b hb'; rw [List.mem_singleton] at hb'; rw [hb']; exact hb⟩
      have := dval_snoc [] (UInt8.ofNat (48 + u))
      rw [if_pos hb] at this
      rw [List.nil_append] at this
      rw [this, UInt8.toNat_ofNat']
      simp [dval]; omega
    · obtain ⟨h1, h2⟩ := ih (u / 10) (by omega)
      have hb : dig (UInt8.ofNat (48 + u % 10)) = true := by rw [dig_iff, UInt8.toNat_ofNat']; omega
      rw [Lib.decDigits, dif_neg h]
      refine ⟨?_, ?_⟩
      · rw [dval_snoc, if_pos hb, h1, UInt8.toNat_ofNat']; omega
      · intro b hb'
        rcases List.mem_append.1 hb' with h3 | h3
        · exact h2 b h3
        · rw [List.mem_singleton] at h3; rw [h3]; exact hb
theorem dcnt_all (l : List UInt8) (h : ∀ b ∈ l, dig b = true) : dcnt l = l.length := by
  unfold dcnt; rw [List.filter_eq_self.2 h]
theorem dec_ne (u : Nat) : Lib.decDigits u ≠ [] := by
  rw [← decI_digits]
  intro h
  have h1 := congrArg List.length h
  by_cases h2 : u < 10
  · rw [decI_small u h2] at h1; simp at h1
  · rw [decI_big u (by omega)] at h1; simp at h1
/-- Does the text begin with a minus? -/
def neg (l : List UInt8) : Bool := l.head? == some 45
/-- The text behind a leading minus. -/
def trim (l : List UInt8) : List UInt8 := if neg l then l.tail else l
/-- The number that the text spells, if it spells one. -/
def sval (l : List UInt8) : Int := if neg l then -(dval l : Int) else dval l
theorem neg_cons {l : List UInt8} (h : neg l = true) : ∃ r, l = 45 :: r := by
  cases l with
  | nil => simp [neg] at h
  | cons a r => simp [neg] at h; exact ⟨r, by rw [h]⟩
theorem dval_minus (r : List UInt8) : dval (45 :: r) = dval r := rfl
theorem dcnt_minus (r : List UInt8) : dcnt (45 :: r) = dcnt r := rfl
theorem dval_trim (l : List UInt8) : dval (trim l) = dval l := by
  unfold trim; split
  · obtain ⟨r, rfl⟩ := neg_cons (by assumption); rfl
  · rfl
theorem dcnt_trim (l : List UInt8) : dcnt (trim l) = dcnt l := by
  unfold trim; split
  · obtain ⟨r, rfl⟩ := neg_cons (by assumption); rfl
  · rfl
/-- ParseInt. -/
def parI (l : List UInt8) : Int × Bool := if Lib.itoa (sval l) = l ∧ dcnt l ≤ 9 then (sval l, true) else (0, false)
theorem par_facts {l : List UInt8} (h : Lib.itoa (sval l) = l) (hc : dcnt l ≤ 9) : l.length ≤ 10 ∧ (trim l).length ≤ 9 ∧ ∀ b ∈ trim l, dig b = true := by
  have key : ∃ u, (trim l = Lib.decDigits u) ∧ l.length ≤ (trim l).length + 1 := by
    unfold Lib.itoa at h
    split at h
    · refine ⟨(sval l).natAbs, ?_, ?_⟩
      · generalize (sval l).natAbs = q at h ⊢; rw [← h]; rfl
      · generalize (sval l).natAbs = q at h ⊢; rw [← h]; simp [trim, neg]
    · refine ⟨(sval l).toNat, ?_, ?_⟩
      · have hn : neg l = false := by
          rw [← h]
          cases hd : Lib.decDigits (sval l).toNat with
          | nil => exact absurd hd (dec_ne _)
          | cons a r =>
            have := (digits_dec (sval l).toNat).2 a (by rw [hd]; simp)
            have h2 := (dig_iff a).1 this
            simp only [neg, List.head?_cons]
            have : a ≠ 45 := by intro e; rw [e] at h2; simp at h2
            simp [this]
        unfold trim; rw [hn]; simp [h]
      · unfold trim; split <;> simp; omega
  obtain ⟨u, hu, hl⟩ := key
  have hall : ∀ b ∈ trim l, dig b = true := by rw [hu]; exact (digits_dec u).2
  have h9 : (trim l).length ≤ 9 := by rw [← dcnt_all _ hall, dcnt_trim]; exact hc
  exact ⟨by omega, h9, hall⟩
theorem parI_ok {l : List UInt8} (h : Lib.itoa (sval l) = l) (hc : dcnt l ≤ 9) : parI l = (sval l, true) := by unfold parI; rw [if_pos ⟨h, hc⟩]
theorem parI_text {l : List UInt8} (h : Lib.itoa (sval l) ≠ l) : parI l = (0, false) := by unfold parI; rw [if_neg (fun g => h g.1)]
theorem parI_many {l : List UInt8} (h : 9 < dcnt l) : parI l = (0, false) := by unfold parI; rw [if_neg (fun g => by omega)]
theorem parI_long {l : List UInt8} (h : 10 < l.length) : parI l = (0, false) := by unfold parI; rw [if_neg (fun g => by have := (par_facts g.1 g.2).1; omega)]
theorem parI_long' {l : List UInt8} (h : 9 < (trim l).length) : parI l = (0, false) := by unfold parI; rw [if_neg (fun g => by have := (par_facts g.1 g.2).2.1; omega)]
theorem parI_digit {l : List UInt8} {b : UInt8} (hb : b ∈ trim l) (h : dig b = false) : parI l = (0, false) := by
  unfold parI; rw [if_neg (fun g => by have := (par_facts g.1 g.2).2.2 b hb; rw [h] at this; cases this)]
theorem trim_cut (l : List UInt8) : Lib.trimPrefix l [45] = trim l ∧ Lib.hasPrefix l [45] = neg l := by
  unfold Lib.trimPrefix trim Lib.hasPrefix neg
  cases l with
  | nil => simp
  | cons a r =>
    simp only [List.head?_cons, List.isPrefixOf]
    by_cases h : a = 45
    · subst h; simp
    · have h1 : (45 == a) = false := by rw [beq_eq_false_iff_ne]; exact Ne.symm h
      have h2 : (a == 45) = false := by rw [beq_eq_false_iff_ne]; exact h
      simp [h1, h2]
end Go.Proofs.YteelgogfpidcdaaDoor
