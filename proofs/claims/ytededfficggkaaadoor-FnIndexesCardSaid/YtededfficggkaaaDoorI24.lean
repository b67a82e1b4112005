/-
 Texts of the proof, merged: MaskMath, CountMath.
-/
import Derived.Test.YtededfficggkaaaDoorI2
import Derived.Lib.BitFns
namespace Go.Proofs.YtededfficggkaaaDoor
open Go.RowKit
set_option linter.unusedVariables false
set_option linter.unusedSimpArgs false
/-- The mask of the first k numbers. -/
def maskTo (l : List Int) (k : Nat) : Nat := (l.take k).foldl (fun m x => m ||| 2 ^ x.toNat) 0
theorem maskTo_zero (l : List Int) : maskTo l 0 = 0 := by simp [maskTo]
theorem maskTo_step {l : List Int} {k : Nat} (hk : k < l.length) : maskTo l (k + 1) = maskTo l k ||| 2 ^ (l.getD k 0).toNat := by
 unfold maskTo
 have e : l.getD k 0 = l[k] := by simp [List.getD, hk]
 rw [e, List.take_succ_eq_append_getElem hk, List.foldl_append]
 rfl
theorem setTo_pred {l : List Int} {k : Nat} (h : SetTo l (k + 1)) : SetTo l k := ⟨fun i hi => h.1 i (by omega), fun i hi => h.2 i (by omega)⟩
theorem bit_maskTo {l : List Int} : ∀ {k : Nat}, k ≤ l.length → SetTo l k → ∀ i : Nat, (maskTo l k).testBit i = true ↔ ∃ j, j < k ∧ l.getD j 0 = (i : Int) := by
 intro k
 induction k with
 | zero => intro _ _ i; simp [maskTo_zero]
 | succ k ih =>
  intro hk hs i
  rw [maskTo_step (by omega), Nat.testBit_or, Bool.or_eq_true, ih (by omega) (setTo_pred hs), Nat.testBit_two_pow]
  have h0 := hs.1 k (by omega)
  constructor
  ·
   rintro (⟨j, hj, e⟩ | h)
   ·
    exact ⟨j, by omega, e⟩
   ·
    have := of_decide_eq_true h
    exact ⟨k, by omega, by omega⟩
  ·
   rintro ⟨j, hj, e⟩
   by_cases ej : j = k
   ·
    subst ej; right; rw [decide_eq_true_eq]; omega
   ·
    exact Or.inl ⟨j, by omega, e⟩
theorem maskTo_lt {l : List Int} {k : Nat} (hk : k ≤ l.length) (hs : SetTo l k) (x : Nat) (h : ∀ j, j < k → l.getD j 0 < (x : Int)) : maskTo l k < 2 ^ x := by
 refine Nat.lt_pow_two_of_testBit _ fun i hi => ?_
 rw [Bool.eq_false_iff]
 intro g
 obtain ⟨j, hj, e⟩ := (bit_maskTo hk hs i).1 g
 have := h j hj
 omega
theorem maskTo_lt24 {l : List Int} {k : Nat} (hk : k ≤ l.length) (hs : SetTo l k) : maskTo l k < 16777216 :=
 maskTo_lt hk hs 24 (fun j hj => by have := (hs.1 j hj).2; omega)
theorem maskTo_ge {l : List Int} {k : Nat} (hk : k ≤ l.length) (hs : SetTo l k) {x : Nat} {j : Nat} (hj : j < k) (h : (x : Int) ≤ l.getD j 0) : 2 ^ x ≤ maskTo l k := by
 have h0 := (hs.1 j hj).1
 have := (bit_maskTo hk hs (l.getD j 0).toNat).2 ⟨j, hj, by omega⟩
 exact Nat.le_trans (Nat.pow_le_pow_right (by omega) (by omega)) (Nat.ge_two_pow_of_testBit this)
theorem setTo_mono {l : List Int} {k : Nat} (h : SetTo l k) : ∀ {i j : Nat}, i < j → j < k → l.getD i 0 < l.getD j 0 := by
 intro i j hij
 obtain ⟨d, rfl⟩ : ∃ d, j = i + d + 1 := ⟨j - i - 1, by omega⟩
 clear hij
 induction d with
 | zero => intro hj; exact h.2 i hj
 | succ d ih => intro hj; exact Int.lt_trans (ih (by omega)) (h.2 (i + d + 1) hj)
/-- The bit test of maskOf: no bit from x on, just where x goes on the ascent. -/
theorem maskTo_next {l : List Int} {k : Nat} (hk : k < l.length) (hs : SetTo l k) {x : Nat} (hx : l.getD k 0 = (x : Int)) (hx23 : x ≤ 23) : maskTo l k / 2 ^ x = 0 ↔ SetTo l (k + 1) := by
 rw [Nat.div_eq_zero_iff]
 constructor
 ·
  rintro (h | h)
  ·
   exact absurd h (Nat.ne_of_gt (Nat.two_pow_pos x))
  ·
   refine setTo_step hs (by omega) (by omega) fun h0 => ?_
   apply Int.not_le.1
   intro g
   rw [hx] at g
   have := maskTo_ge (Nat.le_of_lt hk) hs (j := k - 1) (by omega) g
   omega
 ·
  intro h
  right
  refine maskTo_lt (Nat.le_of_lt hk) hs x fun j hj => ?_
  rw [← hx]
  exact setTo_mono h hj (by omega)
/-- The mask of a set, 0 of any other list. -/
def maskL (l : List Int) : Nat := if setB l = true then maskTo l l.length else 0
theorem maskL_yes {l : List Int} (h : SetL l) : maskL l = maskTo l l.length := by unfold maskL; rw [if_pos ((setB_iff l).2 h)]
theorem maskL_no {l : List Int} (h : setB l = false) : maskL l = 0 := by unfold maskL; rw [h]; rfl
theorem maskL_lt (l : List Int) : maskL l < 16777216 := by
 by_cases h : SetL l
 ·
  rw [maskL_yes h]; exact maskTo_lt24 (Nat.le_refl _) ((setTo_all l).2 h)
 ·
  rw [maskL_no (setB_no h)]; omega
theorem bit_maskL {l : List Int} (h : SetL l) (i : Nat) : (maskL l).testBit i = decide ((i : Int) ∈ l) := by
 rw [maskL_yes h, Bool.eq_iff_iff, bit_maskTo (Nat.le_refl _) ((setTo_all l).2 h), decide_eq_true_eq, member_iff]
/-- The members of a mask. -/
def memTo (m : Nat) (k : Nat) : List Int := ((List.range k).filter fun i => m.testBit i).map fun i : Nat => (i : Int)
theorem memTo_yes {m k : Nat} (h : m.testBit k = true) : memTo m (k + 1) = memTo m k ++ [(k : Int)] := by
 unfold memTo
 rw [List.range_succ, List.filter_append, List.map_append]
 simp [h]
theorem memTo_no {m k : Nat} (h : m.testBit k = false) : memTo m (k + 1) = memTo m k := by
 unfold memTo
 rw [List.range_succ, List.filter_append, List.map_append]
 simp [h]
theorem memTo_len (m k : Nat) : (memTo m k).length ≤ k := by
 have := List.length_filter_le (fun i => m.testBit i) (List.range k)
 simpa [memTo] using this
def memL (m : Nat) : List Int := memTo m 24
/-- Two ascending lists with the same members are the same. -/
theorem asc_eq : ∀ {a b : List Int}, a.Pairwise (· < ·) → b.Pairwise (· < ·) → (∀ x, x ∈ a ↔ x ∈ b) → a = b := by
 intro a
 induction a with
 | nil =>
  intro b _ _ h
  cases b with
  | nil => rfl
  | cons y b => exact absurd ((h y).2 (List.mem_cons_self ..)) (by simp)
 | cons x a ih =>
  intro b ha hb h
  cases b with
  | nil => exact absurd ((h x).1 (List.mem_cons_self ..)) (by simp)
  | cons y b =>
   rw [List.pairwise_cons] at ha hb
   have hxy : x = y := by
    rcases List.mem_cons.1 ((h x).1 (List.mem_cons_self ..)) with e | e
    ·
     exact e
    ·
     rcases List.mem_cons.1 ((h y).2 (List.mem_cons_self ..)) with g | g
     ·
      exact g.symm
     ·
      have h1 := hb.1 x e; have h2 := ha.1 y g; omega
   subst hxy
   rw [ih ha.2 hb.2 ?_]
   intro z
   constructor
   ·
    intro hz
    rcases List.mem_cons.1 ((h z).1 (List.mem_cons_of_mem _ hz)) with e | e
    ·
     subst e; exact absurd (ha.1 z hz) (by omega)
    ·
     exact e
   ·
    intro hz
    rcases List.mem_cons.1 ((h z).2 (List.mem_cons_of_mem _ hz)) with e | e
    ·
     subst e; exact absurd (hb.1 z hz) (by omega)
    ·
     exact e
theorem range_asc (f : Int) (k : Nat) : ((List.range k).map fun i : Nat => f + (i : Int)).Pairwise (· < ·) := by
 rw [List.pairwise_iff_getElem]
 intro i j hi hj hij
 simp
 omega
theorem range_asc0 (k : Nat) : ((List.range k).map fun i : Nat => (i : Int)).Pairwise (· < ·) := by
 have := range_asc 0 k
 simpa using this
theorem memTo_asc (m : Nat) (k : Nat) : (memTo m k).Pairwise (· < ·) := by
 have h := range_asc0 k
 rw [List.pairwise_map] at h
 unfold memTo
 rw [List.pairwise_map]
 exact List.Pairwise.filter _ h
theorem set_asc {l : List Int} (h : SetL l) : l.Pairwise (· < ·) := by
 rw [List.pairwise_iff_getElem]
 intro i j hi hj hij
 have := setTo_mono ((setTo_all l).2 h) hij hj
 simpa [List.getD, hi, hj] using this
theorem mem_memTo {m k : Nat} {x : Int} : x ∈ memTo m k ↔ ∃ i : Nat, i < k ∧ m.testBit i = true ∧ x = (i : Int) := by
 unfold memTo
 simp only [List.mem_map, List.mem_filter, List.mem_range]
 constructor
 ·
  rintro ⟨i, ⟨h1, h2⟩, rfl⟩; exact ⟨i, h1, h2, rfl⟩
 ·
  rintro ⟨i, h1, h2, rfl⟩; exact ⟨i, ⟨h1, h2⟩, rfl⟩
theorem set_range {l : List Int} (h : SetL l) {x : Int} (hx : x ∈ l) : 0 ≤ x ∧ x ≤ 23 := by
 obtain ⟨i, hi, rfl⟩ := (member_iff l x).1 hx
 exact h.1 i hi
theorem memL_set {l : List Int} (h : SetL l) : memL (maskL l) = l := by
 refine asc_eq (memTo_asc _ _) (set_asc h) fun x => ?_
 unfold memL
 rw [mem_memTo]
 constructor
 ·
  rintro ⟨i, _, h2, rfl⟩
  rw [bit_maskL h] at h2
  exact of_decide_eq_true h2
 ·
  intro hx
  obtain ⟨h0, h1⟩ := set_range h hx
  exact ⟨x.toNat, by omega, by rw [bit_maskL h, show ((x.toNat : Nat) : Int) = x by omega]; exact decide_eq_true hx, by omega⟩
theorem asc_set {l : List Int} (h : l.Pairwise (· < ·)) (hr : ∀ x, x ∈ l → 0 ≤ x ∧ x ≤ 23) : SetL l := by
 rw [List.pairwise_iff_getElem] at h
 refine ⟨fun i hi => hr _ ((member_iff l _).2 ⟨i, hi, rfl⟩), fun i hi => ?_⟩
 have := h i (i + 1) (by omega) hi (by omega)
 have h2 : i < l.length := by omega
 simpa [List.getD, hi, h2] using this
theorem set_memL (m : Nat) : SetL (memL m) := by
 refine asc_set (memTo_asc _ _) fun x hx => ?_
 obtain ⟨i, hi, _, rfl⟩ := mem_memTo.1 hx
 omega
theorem maskL_memL {m : Nat} (h : m < 16777216) : maskL (memL m) = m := by
 apply Nat.eq_of_testBit_eq
 intro i
 rw [bit_maskL (set_memL m), Bool.eq_iff_iff, decide_eq_true_eq]
 unfold memL
 rw [mem_memTo]
 constructor
 ·
  rintro ⟨j, _, h2, e⟩
  obtain rfl : i = j := by omega
  exact h2
 ·
  intro g
  refine ⟨i, ?_, g, rfl⟩
  apply Nat.lt_of_not_le
  intro h24
  have := Nat.testBit_lt_two_pow (show m < 2 ^ i from Nat.lt_of_lt_of_le (show m < 2 ^ 24 from h) (Nat.pow_le_pow_right (by omega) h24))
  rw [this] at g; exact Bool.noConfusion g
theorem memL_zero : memL 0 = [] := by decide
/-- The masks of two lists, both 0 where one is no set. -/
def maskA (a b : List Int) : Nat := if (setB a && setB b) = true then maskL a else 0
def maskB (a b : List Int) : Nat := if (setB a && setB b) = true then maskL b else 0
theorem filter_set {l : List Int} (h : SetL l) (p : Int → Bool) : SetL (l.filter p) :=
 asc_set ((set_asc h).filter _) fun x hx => set_range h (List.mem_filter.1 hx).1
theorem meet_mask (a b : List Int) : memL (maskA a b &&& maskB a b) = meetL a b := by
 unfold maskA maskB meetL
 cases h : (setB a && setB b) with
 | false => simp only [Bool.false_eq_true, if_false]; decide
 | true =>
  rw [Bool.and_eq_true] at h
  have h1 := (setB_iff a).1 h.1
  have h2 := (setB_iff b).1 h.2
  simp only [if_true]
  refine asc_eq (memTo_asc _ _) ((set_asc h1).filter _) fun x => ?_
  unfold memL
  rw [mem_memTo]
  simp only [Nat.testBit_and, bit_maskL h1, bit_maskL h2, List.mem_filter, Bool.and_eq_true, decide_eq_true_eq]
  constructor
  ·
   rintro ⟨i, hi, g, rfl⟩; exact g
  ·
   intro g
   have := set_range h1 g.1
   refine ⟨x.toNat, by omega, ?_, by omega⟩
   rw [show ((x.toNat : Nat) : Int) = x by omega]
   exact g
theorem popAux_split : ∀ (a b x : Nat), Lib.popAux (a + b) x = Lib.popAux a x + Lib.popAux b (x / 2 ^ a)
 | 0, b, x => by simp [Lib.popAux]
 | a + 1, b, x => by
  rw [show a + 1 + b = (a + b) + 1 by omega]
  show x % 2 + Lib.popAux (a + b) (x / 2) = x % 2 + Lib.popAux a (x / 2) + Lib.popAux b (x / 2 ^ (a + 1))
  rw [popAux_split a b (x / 2), Nat.div_div_eq_div_mul, Nat.pow_succ, Nat.mul_comm (2 ^ a) 2, Nat.add_assoc]
theorem popAux_zero : ∀ a : Nat, Lib.popAux a 0 = 0
 | 0 => rfl
 | a + 1 => by
  show 0 % 2 + Lib.popAux a (0 / 2) = 0
  simp [popAux_zero a]
theorem popAux_mod : ∀ (a x : Nat), Lib.popAux a (x % 2 ^ a) = Lib.popAux a x
 | 0, x => rfl
 | a + 1, x => by
  show x % 2 ^ (a + 1) % 2 + Lib.popAux a (x % 2 ^ (a + 1) / 2) = x % 2 + Lib.popAux a (x / 2)
  have h1 : x % 2 ^ (a + 1) % 2 = x % 2 := Nat.mod_mod_of_dvd x ⟨2 ^ a, by rw [Nat.pow_succ, Nat.mul_comm]⟩
  have h2 : x % 2 ^ (a + 1) / 2 = x / 2 % 2 ^ a := by
   rw [Nat.pow_succ, Nat.mul_comm, Nat.mod_mul_right_div_self]
  rw [h1, h2, popAux_mod a (x / 2)]
theorem popAux_count : ∀ (f x : Nat), Lib.popAux f x = ((List.range f).filter fun i => x.testBit i).length
 | 0, x => rfl
 | f + 1, x => by
  show x % 2 + Lib.popAux f (x / 2) = _
  rw [List.range_succ_eq_map, List.filter_cons, List.filter_map, popAux_count f (x / 2)]
  have e : (List.filter ((fun i => x.testBit i) ∘ Nat.succ) (List.range f)) = List.filter (fun i => (x / 2).testBit i) (List.range f) := by
   apply List.filter_congr
   intro i _
   show x.testBit (i + 1) = (x / 2).testBit i
   rw [Nat.testBit_add_one]
  rw [e]
  rcases Nat.mod_two_eq_zero_or_one x with h | h
  ·
   have : x.testBit 0 = false := by simp [Nat.testBit_zero, h]
   rw [this]; simp [h]
  ·
   have : x.testBit 0 = true := by simp [Nat.testBit_zero, h]
   rw [this]; simp [h]; omega
theorem ones_byte {y : Nat} (h : y < 256) : Lib.onesCount y = Lib.popAux 8 y := by
 unfold Lib.onesCount
 rw [show (64 : Nat) = 8 + 56 from rfl, popAux_split, Nat.div_eq_of_lt h, popAux_zero, Nat.add_zero]
theorem memL_count (m : Nat) : (memL m).length = Lib.onesCount (m / 65536 % 256) + Lib.onesCount (m / 256 % 256) + Lib.onesCount (m % 256) := by
 rw [ones_byte (Nat.mod_lt _ (by omega)), ones_byte (Nat.mod_lt _ (by omega)), ones_byte (Nat.mod_lt _ (by omega))]
 have e : (memL m).length = Lib.popAux 24 m := by
  rw [popAux_count]; simp [memL, memTo]
 rw [e, show (24 : Nat) = 8 + (8 + 8) from rfl, popAux_split, popAux_split, Nat.div_div_eq_div_mul]
 rw [show (256 : Nat) = 2 ^ 8 from rfl, popAux_mod, popAux_mod, popAux_mod, show (2 : Nat) ^ 8 * 2 ^ 8 = 65536 from rfl]
 omega
/-- How many members. -/
def cntM (m : Nat) : Nat := (memL m).length
theorem memL_le (m : Nat) : (memL m).length ≤ 24 := memTo_len m 24
end Go.Proofs.YtededfficggkaaaDoor
