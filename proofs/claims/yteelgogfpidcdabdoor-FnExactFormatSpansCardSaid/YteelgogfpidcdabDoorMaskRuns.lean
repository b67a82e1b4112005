/-
  Plain facts: the first run of a mask, the mask that is left, and the text of all runs joined.
-/
import Derived.Test.YteelgogfpidcdabDoorMaskMath
import Derived.Test.YteelgogfpidcdabDoorRunMath
import Derived.Lib.TrailingZeros
import Derived.Lib.Join
namespace Go.Proofs.YteelgogfpidcdabDoor
set_option linter.unusedVariables false
theorem ctz_bits {x : Nat} (h0 : x ≠ 0) (h : x < 4294967296) : x.testBit (Lib.ctz 32 x) = true ∧ (∀ j, j < Lib.ctz 32 x → x.testBit j = false) ∧ Lib.ctz 32 x < 32 := by
  obtain ⟨q, e, hk⟩ := Lib.ctzFrom_spec 32 x (by omega) (by omega)
  have hc : Lib.ctz 32 x = Lib.ctzFrom 32 x := by unfold Lib.ctz; rw [if_neg h0]
  rw [hc]
  generalize Lib.ctzFrom 32 x = k at e hk
  refine ⟨?_, ?_, hk⟩
  · rw [e, Nat.testBit_two_pow_mul, Nat.sub_self, Nat.testBit_zero]
    simp
  · intro j hj
    rw [e, Nat.testBit_two_pow_mul]
    simp; omega
/-- The bits from f to f + n are the first run of m. -/
def FirstRun (m f n : Nat) : Prop := f + n ≤ 23 ∧ (∀ j, j < f → m.testBit j = false) ∧ (∀ j, j ≤ n → m.testBit (f + j) = true) ∧ m.testBit (f + n + 1) = false
theorem firstRun_of {m : Nat} (h0 : m ≠ 0) (h : m < 16777216) : Lib.ctz 32 (4294967295 - m / 2 ^ Lib.ctz 32 m) ≠ 0 ∧ Lib.ctz 32 (4294967295 - m / 2 ^ Lib.ctz 32 m) ≤ 32 ∧ FirstRun m (Lib.ctz 32 m) (Lib.ctz 32 (4294967295 - m / 2 ^ Lib.ctz 32 m) - 1) := by
  obtain ⟨h1, h2, h3⟩ := ctz_bits h0 (by omega)
  generalize Lib.ctz 32 m = f at *
  have hy : m / 2 ^ f < 16777216 := Nat.lt_of_le_of_lt (Nat.div_le_self _ _) h
  have hb : ∀ j, (m / 2 ^ f).testBit j = m.testBit (f + j) := fun j => by rw [Nat.testBit_div_two_pow, Nat.add_comm]
  generalize m / 2 ^ f = y at *
  have hn : ∀ j, (4294967295 - y).testBit j = (decide (j < 32) && !y.testBit j) := fun j => by
    have := Nat.testBit_two_pow_sub_succ (n := 32) (x := y) (by omega) j
    rw [show 2 ^ 32 - (y + 1) = 4294967295 - y by omega] at this
    exact this
  obtain ⟨g1, g2, g3⟩ := ctz_bits (x := 4294967295 - y) (by omega) (by omega)
  generalize Lib.ctz 32 (4294967295 - y) = n at *
  have hn0 : n ≠ 0 := by
    intro e; subst e
    rw [hn, hb, Nat.add_zero, h1] at g1
    simp at g1
  have hlow : ∀ j, j < n → m.testBit (f + j) = true := by
    intro j hj
    have := g2 j hj
    rw [hn, hb] at this
    have h32 : decide (j < 32) = true := decide_eq_true (by omega)
    rw [h32] at this
    simpa using this
  have hhi : m.testBit (f + n) = false := by
    rw [hn, hb] at g1
    simp at g1
    exact g1.2
  refine ⟨hn0, by omega, ?_, h2, fun j hj => hlow j (by omega), by rw [show f + (n - 1) + 1 = f + n by omega]; exact hhi⟩
  apply Nat.le_of_not_lt
  intro hgt
  have := hlow (n - 1) (by omega)
  rw [Nat.testBit_lt_two_pow (show m < 2 ^ (f + (n - 1)) from Nat.lt_of_lt_of_le (show m < 2 ^ 24 from h) (Nat.pow_le_pow_right (by omega) (by omega)))] at this
  cases this
/-- The mask of the numbers from f to t. -/
def rangeM (f t : Nat) : Nat := 2 ^ (t + 1) - 2 ^ f
theorem bit_rangeM {f t : Nat} (h : f ≤ t) (i : Nat) : (rangeM f t).testBit i = decide (f ≤ i ∧ i ≤ t) := by
  have e : rangeM f t = 2 ^ f * (2 ^ (t + 1 - f) - 1) := by
    unfold rangeM
    rw [Nat.mul_sub, ← Nat.pow_add, show f + (t + 1 - f) = t + 1 by omega, Nat.mul_one]
  rw [e, Nat.testBit_two_pow_mul, Nat.testBit_two_pow_sub_one, Bool.eq_iff_iff]
  simp
  omega
theorem rangeM_lt {f t : Nat} (h : t ≤ 23) : rangeM f t < 16777216 := by
  have : 2 ^ (t + 1) ≤ 2 ^ 24 := Nat.pow_le_pow_right (by omega) (by omega)
  have := Nat.two_pow_pos f
  have := Nat.two_pow_pos (t + 1)
  unfold rangeM; omega
/-- The mask without its first run. -/
def restM (m f n : Nat) : Nat := m &&& (4294967295 ^^^ rangeM f (f + n))
theorem restM_lt {m : Nat} (f n : Nat) (h : m < 16777216) : restM m f n < 16777216 := Nat.lt_of_le_of_lt Nat.and_le_left h
theorem bit_restM {m f n : Nat} (h : m < 16777216) (i : Nat) : (restM m f n).testBit i = (m.testBit i && !decide (f ≤ i ∧ i ≤ f + n)) := by
  unfold restM
  rw [Nat.testBit_and, Nat.testBit_xor, bit_rangeM (by omega)]
  by_cases hi : i < 32
  · have : (4294967295 : Nat).testBit i = true := by
      have := Nat.testBit_two_pow_sub_one 32 i
      rw [show (2 : Nat) ^ 32 - 1 = 4294967295 from rfl] at this
      rw [this]; exact decide_eq_true hi
    rw [this]; simp
  · rw [Nat.testBit_lt_two_pow (show m < 2 ^ i from Nat.lt_of_lt_of_le (show m < 2 ^ 32 by omega) (Nat.pow_le_pow_right (by omega) (by omega)))]
    simp
theorem restM_less {m f n : Nat} (h : m < 16777216) (hf : FirstRun m f n) : restM m f n < m := by
  have hle : restM m f n ≤ m := Nat.and_le_left
  have hne : restM m f n ≠ m := by
    intro e
    have := bit_restM (f := f) (n := n) h f
    rw [e] at this
    have h1 := hf.2.2.1 0 (Nat.zero_le _)
    rw [Nat.add_zero] at h1
    rw [h1] at this
    simp at this
  omega
theorem upN_cons (f : Int) (n : Nat) : upN f (n + 1) = f :: upN (f + 1) n := by
  unfold upN
  rw [List.range_succ_eq_map, List.map_cons, List.map_map]
  congr 1
  · simp
  · apply List.map_congr_left
    intro i _
    show f + ((i + 1 : Nat) : Int) = f + 1 + (i : Int)
    omega
theorem mem_upN {f : Int} {n : Nat} {x : Int} : x ∈ upN f n ↔ ∃ i : Nat, i < n ∧ x = f + (i : Int) := by
  unfold upN
  simp only [List.mem_map, List.mem_range]
  constructor
  · rintro ⟨i, hi, rfl⟩; exact ⟨i, hi, rfl⟩
  · rintro ⟨i, hi, rfl⟩; exact ⟨i, hi, rfl⟩
theorem upN_asc (f : Int) (n : Nat) : (upN f n).Pairwise (· < ·) := by
  exact range_asc f n
/-- The members are the first run and the members of what is left. -/
theorem memL_first {m f n : Nat} (h : m < 16777216) (hf : FirstRun m f n) : memL m = upN (f : Int) (n + 1) ++ memL (restM m f n) := by
  have hin : ∀ i : Nat, (restM m f n).testBit i = true → f + n + 1 < i := by
    intro i hi
    rw [bit_restM h, Bool.and_eq_true] at hi
    have h2 : ¬ (f ≤ i ∧ i ≤ f + n) := by have := hi.2; simp at this; omega
    apply Nat.lt_of_not_le
    intro hle
    by_cases hlt : i < f
    · have := hf.2.1 i hlt; rw [this] at hi; exact Bool.noConfusion hi.1
    · have e : i = f + n + 1 := by omega
      have := hf.2.2.2; rw [← e] at this; rw [this] at hi; exact Bool.noConfusion hi.1
  refine asc_eq (memTo_asc _ _) ?_ fun x => ?_
  · rw [List.pairwise_append]
    refine ⟨upN_asc _ _, memTo_asc _ _, ?_⟩
    intro x hx y hy
    obtain ⟨i, hi, rfl⟩ := mem_upN.1 hx
    obtain ⟨j, _, hj, rfl⟩ := mem_memTo.1 hy
    have := hin j hj
    omega
  · unfold memL
    rw [List.mem_append, mem_memTo, mem_memTo, mem_upN]
    constructor
    · rintro ⟨i, hi, hb, rfl⟩
      by_cases hc : f ≤ i ∧ i ≤ f + n
      · exact Or.inl ⟨i - f, by omega, by omega⟩
      · exact Or.inr ⟨i, hi, by rw [bit_restM h, hb, decide_eq_false hc]; rfl, rfl⟩
    · rintro (⟨i, hi, rfl⟩ | ⟨i, hi, hb, rfl⟩)
      · exact ⟨f + i, by have := hf.1; omega, hf.2.2.1 i (by omega), by omega⟩
      · rw [bit_restM h, Bool.and_eq_true] at hb
        exact ⟨i, hi, hb.1, rfl⟩
theorem runs_block : ∀ (n : Nat) (f : Int) (r : List Int), (∀ y r', r = y :: r' → f + (n : Int) + 1 < y) → runs (upN f (n + 1) ++ r) = (f, f + (n : Int)) :: runs r := by
  intro n
  induction n with
  | zero =>
    intro f r h
    have e : upN f 1 = [f] := by rw [upN_cons]; rfl
    rw [e]
    cases r with
    | nil => simp [runs]
    | cons y r' =>
      have := h y r' rfl
      rw [List.singleton_append, runs_part (by omega)]
      simp
  | succ n ih =>
    intro f r h
    have := ih (f + 1) r (fun y r' e => by have := h y r' e; omega)
    rw [upN_cons, upN_cons] at *
    rw [List.cons_append] at this
    rw [List.cons_append, List.cons_append, runs_join rfl this]
    rw [show f + 1 + (n : Int) = f + ((n + 1 : Nat) : Int) by omega]
/-- So the runs of a mask are its first run and those of what is left. -/
theorem runs_first {m f n : Nat} (h : m < 16777216) (hf : FirstRun m f n) : runs (memL m) = ((f : Int), ((f + n : Nat) : Int)) :: runs (memL (restM m f n)) := by
  rw [memL_first h hf, runs_block n f _ ?_]
  · rw [show (f : Int) + (n : Int) = ((f + n : Nat) : Int) by omega]
  · intro y r' e
    have hy : y ∈ memL (restM m f n) := by rw [e]; exact List.mem_cons_self ..
    obtain ⟨j, _, hj, rfl⟩ := mem_memTo.1 hy
    rw [bit_restM h, Bool.and_eq_true] at hj
    have h2 : ¬ (f ≤ j ∧ j ≤ f + n) := by have := hj.2; simp at this; omega
    have h3 : ¬ j < f := fun hlt => by have := hf.2.1 j hlt; rw [this] at hj; exact Bool.noConfusion hj.1
    have h4 : j ≠ f + n + 1 := fun e => by have := hf.2.2.2; rw [← e] at this; rw [this] at hj; exact Bool.noConfusion hj.1
    omega
theorem memL_ne {m : Nat} (h0 : m ≠ 0) (h : m < 16777216) : memL m ≠ [] := by
  rw [memL_first h (firstRun_of h0 h).2.2, upN_cons]; simp
/-- The texts of runs behind one another are the texts joined. -/
theorem glue_join : ∀ (t : List (Int × Int)) (s : List UInt8), s ≠ [] → glue s t = s ++ Lib.joinTail [32] (t.map runText) := by
  intro t
  induction t with
  | nil => intro s _; simp [glue, Lib.joinTail]
  | cons r t ih =>
    intro s hs
    show glue ((if s = [] then s else s ++ [32]) ++ runText r) t = _
    rw [if_neg hs, ih _ (by simp)]
    simp [Lib.joinTail]
theorem join_glue (t : List (Int × Int)) : Lib.join (t.map runText) [32] = glue [] t := by
  cases t with
  | nil => rfl
  | cons r t =>
    rw [List.map_cons, Lib.join_cons]
    show _ = glue ((if ([] : List UInt8) = [] then [] else _) ++ runText r) t
    rw [if_pos rfl, List.nil_append, glue_join t _ (runText_ne r)]
theorem runs_len : ∀ l : List Int, (runs l).length ≤ l.length := by
  intro l
  induction l with
  | nil => simp [runs]
  | cons x r ih =>
    cases r with
    | nil => simp [runs]
    | cons y r =>
      obtain ⟨b, t, e⟩ := runs_cons y r
      by_cases h : y = x + 1
      · rw [runs_join h e]; rw [e] at ih; simp at ih ⊢; omega
      · rw [runs_part h]; simp at ih ⊢; omega
theorem runs_mem : ∀ l : List Int, ∀ r ∈ runs l, r.1 ∈ l ∧ r.2 ∈ l := by
  intro l
  induction l with
  | nil => intro r hr; simp [runs] at hr
  | cons x l ih =>
    cases l with
    | nil => intro r hr; simp [runs] at hr; subst hr; simp
    | cons y l =>
      obtain ⟨b, t, e⟩ := runs_cons y l
      intro r hr
      by_cases h : y = x + 1
      · rw [runs_join h e] at hr
        rcases List.mem_cons.1 hr with rfl | hr
        · exact ⟨List.mem_cons_self .., List.mem_cons_of_mem _ (ih (y, b) (by rw [e]; exact List.mem_cons_self ..)).2⟩
        · have := ih r (by rw [e]; exact List.mem_cons_of_mem _ hr)
          exact ⟨List.mem_cons_of_mem _ this.1, List.mem_cons_of_mem _ this.2⟩
      · rw [runs_part h] at hr
        rcases List.mem_cons.1 hr with rfl | hr
        · exact ⟨List.mem_cons_self .., List.mem_cons_self ..⟩
        · have := ih r hr
          exact ⟨List.mem_cons_of_mem _ this.1, List.mem_cons_of_mem _ this.2⟩
theorem glue_len : ∀ (t : List (Int × Int)) (s : List UInt8), (∀ r ∈ t, (runText r).length ≤ 43) → (glue s t).length ≤ s.length + 44 * t.length := by
  intro t
  induction t with
  | nil => intro s _; simp [glue]
  | cons r t ih =>
    intro s h
    show (glue ((if s = [] then s else s ++ [32]) ++ runText r) t).length ≤ _
    have h1 := ih ((if s = [] then s else s ++ [32]) ++ runText r) (fun q hq => h q (List.mem_cons_of_mem _ hq))
    have h2 := h r (List.mem_cons_self ..)
    have h3 : (if s = [] then s else s ++ [32]).length ≤ s.length + 1 := by split <;> simp
    rw [List.length_append] at h1
    rw [List.length_cons]
    omega
theorem memL_len (m : Nat) : (memL m).length ≤ 24 := memTo_len m 24
theorem memL_text (m : Nat) : ∀ r ∈ runs (memL m), (runText r).length ≤ 43 := by
  intro r hr
  obtain ⟨h1, h2⟩ := runs_mem _ r hr
  have g1 := set_range (set_memL m) h1
  have g2 := set_range (set_memL m) h2
  exact runText_len r (by omega) (by omega)
theorem memL_glue (m : Nat) : (glue [] (runs (memL m))).length ≤ 1056 := by
  have h1 := glue_len (runs (memL m)) [] (memL_text m)
  have h2 := runs_len (memL m)
  have h3 := memL_len m
  simp at h1
  omega
end Go.Proofs.YteelgogfpidcdabDoor
