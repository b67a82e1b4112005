/-
  Texts of the proof, merged: SetMath, MaskMath, Ints, Strs, LawInts, SetSpec, Bytes, FmtMath, FmtWalks, RunMath, FmtSet, Cut, ParMath, NumMath, ParWalks, ParSetMath, ParPart, MaskRuns, ParMask, SetsMath, SetOps, MaskWalks, CountMath, MaskCount, MaskMem, SetImpl, Iter, ParImpl, TabZ, MaskFmt, ParRun, Split, ParMsk, ParSet.
-/
import Derived.Test.YtnfmhiephdhopaaDoorRows
import Derived.Test.YtnfmhiephdhopaaDoorShelf
import Derived.WalkKit
import Derived.Below
import Derived.Lib.Hide
import Derived.OwnWalk
import Derived.BigQuiet
import Derived.Deep.QuietTactic
import Derived.WalkSpells
import Derived.Deep.RegionHeld3
import Derived.IntWalk
import Derived.Laws.BytesArg
import Derived.Laws.IdiomStrings
import Derived.Laws.Concat
import Derived.Lib.ItoaMem
import Derived.Lib.ItoaLen
import Derived.Lib.AppendIntMem
import Derived.Lib.Strings
import Derived.Laws.BitsLemmas
import Derived.Maps.AppendAt
import Derived.Lib.TrailingZeros
import Derived.Lib.Join
import Derived.Lib.Bytealg
import Derived.Lib.BitFns
import Derived.Lib.Tables
import Derived.Laws.RangeAny
import Derived.Shelf.Spec.TrailingZeros
import Derived.RangeFuncNested
import Derived.RangeFuncBound
import Derived.RangeFuncCalls
import Derived.RangeFuncLeaves
import Derived.Shelf.Abstract
import Derived.Shelf.RegionOpen
import Derived.OwnWalkIn
import Derived.TacticsInMore
import Derived.LoopNIn
import Derived.LoopIn
namespace Go.Proofs.YtnfmhiephdhopaaDoor
/-- Is the list a set? -/
def SetL (l : List Int) : Prop := (∀ i, i < l.length → 0 ≤ l.getD i 0 ∧ l.getD i 0 ≤ 23) ∧ ∀ i, i + 1 < l.length → l.getD i 0 < l.getD (i + 1) 0
/-- The same as a test. -/
def setB (l : List Int) : Bool := (List.range l.length).all fun i => decide (0 ≤ l.getD i 0) && decide (l.getD i 0 ≤ 23) && (decide (i = 0) || decide (l.getD (i - 1) 0 < l.getD i 0))
theorem setB_iff (l : List Int) : setB l = true ↔ SetL l := by
  unfold setB SetL
  rw [List.all_eq_true]
  simp only [List.mem_range, Bool.and_eq_true, Bool.or_eq_true, decide_eq_true_eq]
  constructor
  · intro h
    refine ⟨fun i hi => (h i hi).1, fun i hi => ?_⟩
    rcases (h (i + 1) hi).2 with h1 | h1
    · omega
    · simpa using h1
  · rintro ⟨h1, h2⟩ i hi
    refine ⟨h1 i hi, ?_⟩
    by_cases e : i = 0
    · exact Or.inl e
    · right
      have := h2 (i - 1) (by omega)
      rwa [show i - 1 + 1 = i by omega] at this
theorem setB_no {l : List Int} (h : ¬ SetL l) : setB l = false := by
  cases e : setB l with
  | false => rfl
  | true => exact absurd ((setB_iff l).1 e) h
/-- As far as k the list is a set. -/
def SetTo (l : List Int) (k : Nat) : Prop := (∀ i, i < k → 0 ≤ l.getD i 0 ∧ l.getD i 0 ≤ 23) ∧ ∀ i, i + 1 < k → l.getD i 0 < l.getD (i + 1) 0
theorem setTo_all (l : List Int) : SetTo l l.length ↔ SetL l := Iff.rfl
theorem setTo_step {l : List Int} {k : Nat} (h : SetTo l k) (h0 : 0 ≤ l.getD k 0) (h1 : l.getD k 0 ≤ 23) (h2 : 0 < k → l.getD (k - 1) 0 < l.getD k 0) : SetTo l (k + 1) := by
  refine ⟨fun i hi => ?_, fun i hi => ?_⟩
  · by_cases e : i = k
    · subst e; exact ⟨h0, h1⟩
    · exact h.1 i (by omega)
  · by_cases e : i + 1 = k
    · subst e; have := h2 (by omega); simpa using this
    · exact h.2 i (by omega)
theorem not_set_range {l : List Int} {k : Nat} (hk : k < l.length) (h : ¬ (0 ≤ l.getD k 0 ∧ l.getD k 0 ≤ 23)) : ¬ SetL l := fun g => h (g.1 k hk)
theorem not_set_order {l : List Int} {k : Nat} (hk : k < l.length) (h0 : 0 < k) (h : ¬ l.getD (k - 1) 0 < l.getD k 0) : ¬ SetL l := fun g => by
  have := g.2 (k - 1) (by omega)
  rw [show k - 1 + 1 = k by omega] at this
  exact h this
theorem member_iff (l : List Int) (x : Int) : x ∈ l ↔ ∃ i, i < l.length ∧ l.getD i 0 = x := by
  constructor
  · intro h
    obtain ⟨i, hi, e⟩ := List.getElem_of_mem h
    exact ⟨i, hi, by simp [List.getD, hi, e]⟩
  · rintro ⟨i, hi, e⟩
    have : l[i] = x := by simpa [List.getD, hi] using e
    rw [← this]; exact List.getElem_mem hi
/-- The union. -/
def uniteL (a b : List Int) : List Int := if setB a && setB b then ((List.range 24).map fun i : Nat => (i : Int)).filter fun x => decide (x ∈ a) || decide (x ∈ b) else []
/-- What both have. -/
def meetL (a b : List Int) : List Int := if setB a && setB b then a.filter fun x => decide (x ∈ b) else []
/-- What the first alone has. -/
def subL (a b : List Int) : List Int := if setB a && setB b then a.filter fun x => !decide (x ∈ b) else []
end Go.Proofs.YtnfmhiephdhopaaDoor
namespace Go.Proofs.YtnfmhiephdhopaaDoor
set_option linter.unusedVariables false
/-- The mask of the first k numbers. -/
def maskTo (l : List Int) (k : Nat) : Nat := (l.take k).foldl (fun m x => m ||| 2 ^ x.toNat) 0
theorem maskTo_zero (l : List Int) : maskTo l 0 = 0 := by simp [maskTo]
theorem maskTo_step {l : List Int} {k : Nat} (hk : k < l.length) : maskTo l (k + 1) = maskTo l k ||| 2 ^ (l.getD k 0).toNat := by
  unfold maskTo
  have e : l.getD k 0 = l[k] := by simp [List.getD, hk]
  rw [e, List.take_succ_eq_append_getElem hk, List.foldl_append]
  rfl
theorem setTo_pred {l : List Int} {k : Nat} (h : SetTo l (k + 1)) : SetTo l k := ⟨fun i hi => h.1 i (by omega), fun i hi => h.2 i (by omega)⟩
theorem bit_maskTo {l : List Int} : ∀ {k : Nat}, k ≤ l.length → SetTo l k → ∀ i : Nat, (maskTo l k).testBit i = true ↔ ∃ j, j < k ∧ l.getD j 0 = (i : Int) := by
  intro k
  induction k with
  | zero => intro _ _ i; simp [maskTo_zero]
  | succ k ih =>
    intro hk hs i
    rw [maskTo_step (by omega), Nat.testBit_or, Bool.or_eq_true, ih (by omega) (setTo_pred hs), Nat.testBit_two_pow]
    have h0 := hs.1 k (by omega)
    constructor
    · rintro (⟨j, hj, e⟩ | h)
      · exact ⟨j, by omega, e⟩
      · have := of_decide_eq_true h
        exact ⟨k, by omega, by omega⟩
    · rintro ⟨j, hj, e⟩
      by_cases ej : j = k
      · subst ej; right; rw [decide_eq_true_eq]; omega
      · exact Or.inl ⟨j, by omega, e⟩
theorem maskTo_lt {l : List Int} {k : Nat} (hk : k ≤ l.length) (hs : SetTo l k) (x : Nat) (h : ∀ j, j < k → l.getD j 0 < (x : Int)) : maskTo l k < 2 ^ x := by
  refine Nat.lt_pow_two_of_testBit _ fun i hi => ?_
  rw [Bool.eq_false_iff]
  intro g
  obtain ⟨j, hj, e⟩ := (bit_maskTo hk hs i).1 g
  have := h j hj
  omega
theorem maskTo_lt24 {l : List Int} {k : Nat} (hk : k ≤ l.length) (hs : SetTo l k) : maskTo l k < 16777216 :=
  maskTo_lt hk hs 24 (fun j hj => by have := (hs.1 j hj).2; omega)
theorem maskTo_ge {l : List Int} {k : Nat} (hk : k ≤ l.length) (hs : SetTo l k) {x : Nat} {j : Nat} (hj : j < k) (h : (x : Int) ≤ l.getD j 0) : 2 ^ x ≤ maskTo l k := by
  have h0 := (hs.1 j hj).1
  have := (bit_maskTo hk hs (l.getD j 0).toNat).2 ⟨j, hj, by omega⟩
  exact Nat.le_trans (Nat.pow_le_pow_right (by omega) (by omega)) (Nat.ge_two_pow_of_testBit this)
theorem setTo_mono {l : List Int} {k : Nat} (h : SetTo l k) : ∀ {i j : Nat}, i < j → j < k → l.getD i 0 < l.getD j 0 := by
  intro i j hij
  obtain ⟨d, rfl⟩ : ∃ d, j = i + d + 1 := ⟨j - i - 1, by omega⟩
  clear hij
  induction d with
  | zero => intro hj; exact h.2 i hj
  | succ d ih => intro hj; exact Int.lt_trans (ih (by omega)) (h.2 (i + d + 1) hj)
/-- The bit test of maskOf: no bit from x on, just where x goes on the ascent. -/
theorem maskTo_next {l : List Int} {k : Nat} (hk : k < l.length) (hs : SetTo l k) {x : Nat} (hx : l.getD k 0 = (x : Int)) (hx23 : x ≤ 23) : maskTo l k / 2 ^ x = 0 ↔ SetTo l (k + 1) := by
  rw [Nat.div_eq_zero_iff]
  constructor
  · rintro (h | h)
    · exact absurd h (Nat.ne_of_gt (Nat.two_pow_pos x))
    · refine setTo_step hs (by omega) (by omega) fun h0 => ?_
      apply Int.not_le.1
      intro g
      rw [hx] at g
      have := maskTo_ge (Nat.le_of_lt hk) hs (j := k - 1) (by omega) g
      omega
  · intro h
    right
    refine maskTo_lt (Nat.le_of_lt hk) hs x fun j hj => ?_
    rw [← hx]
    exact setTo_mono h hj (by omega)
/-- The mask of a set, 0 of any other list. -/
def maskL (l : List Int) : Nat := if setB l = true then maskTo l l.length else 0
theorem maskL_yes {l : List Int} (h : SetL l) : maskL l = maskTo l l.length := by unfold maskL; rw [if_pos ((setB_iff l).2 h)]
theorem maskL_no {l : List Int} (h : setB l = false) : maskL l = 0 := by unfold maskL; rw [h]; rfl
theorem maskL_lt (l : List Int) : maskL l < 16777216 := by
  by_cases h : SetL l
  · rw [maskL_yes h]; exact maskTo_lt24 (Nat.le_refl _) ((setTo_all l).2 h)
  · rw [maskL_no (setB_no h)]; omega
theorem bit_maskL {l : List Int} (h : SetL l) (i : Nat) : (maskL l).testBit i = decide ((i : Int) ∈ l) := by
  rw [maskL_yes h, Bool.eq_iff_iff, bit_maskTo (Nat.le_refl _) ((setTo_all l).2 h), decide_eq_true_eq, member_iff]
/-- The members of a mask. -/
def memTo (m : Nat) (k : Nat) : List Int := ((List.range k).filter fun i => m.testBit i).map fun i : Nat => (i : Int)
theorem memTo_yes {m k : Nat} (h : m.testBit k = true) : memTo m (k + 1) = memTo m k ++ [(k : Int)] := by
  unfold memTo
  rw [List.range_succ, List.filter_append, List.map_append]
  simp [h]
theorem memTo_no {m k : Nat} (h : m.testBit k = false) : memTo m (k + 1) = memTo m k := by
  unfold memTo
  rw [List.range_succ, List.filter_append, List.map_append]
  simp [h]
theorem memTo_len (m k : Nat) : (memTo m k).length ≤ k := by
  have := List.length_filter_le (fun i => m.testBit i) (List.range k)
  simpa [memTo] using this
def memL (m : Nat) : List Int := memTo m 24
/-- Two ascending lists with the same members are the same. -/
theorem asc_eq : ∀ {a b : List Int}, a.Pairwise (· < ·) → b.Pairwise (· < ·) → (∀ x, x ∈ a ↔ x ∈ b) → a = b := by
  intro a
  induction a with
  | nil =>
    intro b _ _ h
    cases b with
    | nil => rfl
    | cons y b => exact absurd ((h y).2 (List.mem_cons_self ..)) (by simp)
  | cons x a ih =>
    intro b ha hb h
    cases b with
    | nil => exact absurd ((h x).1 (List.mem_cons_self ..)) (by simp)
    | cons y b =>
      rw [List.pairwise_cons] at ha hb
      have hxy : x = y := by
        rcases List.mem_cons.1 ((h x).1 (List.mem_cons_self ..)) with e | e
        · exact e
        · rcases List.mem_cons.1 ((h y).2 (List.mem_cons_self ..)) with g | g
          · exact g.symm
          · have h1 := hb.1 x e; have h2 := ha.1 y g; omega
      subst hxy
      rw [ih ha.2 hb.2 ?_]
      intro z
      constructor
      · intro hz
        rcases List.mem_cons.1 ((h z).1 (List.mem_cons_of_mem _ hz)) with e | e
        · subst e; exact absurd (ha.1 z hz) (by omega)
        · exact e
      · intro hz
        rcases List.mem_cons.1 ((h z).2 (List.mem_cons_of_mem _ hz)) with e | e
        · subst e; exact absurd (hb.1 z hz) (by omega)
        · exact e
theorem range_asc (f : Int) (k : Nat) : ((List.range k).map fun i : Nat => f + (i : Int)).Pairwise (· < ·) := by
  rw [List.pairwise_iff_getElem]
  intro i j hi hj hij
  simp
  omega
theorem range_asc0 (k : Nat) : ((List.range k).map fun i : Nat => (i : Int)).Pairwise (· < ·) := by
  have := range_asc 0 k
  simpa using this
theorem memTo_asc (m : Nat) (k : Nat) : (memTo m k).Pairwise (· < ·) := by
  have h := range_asc0 k
  rw [List.pairwise_map] at h
  unfold memTo
  rw [List.pairwise_map]
  exact List.Pairwise.filter _ h
theorem set_asc {l : List Int} (h : SetL l) : l.Pairwise (· < ·) := by
  rw [List.pairwise_iff_getElem]
  intro i j hi hj hij
  have := setTo_mono ((setTo_all l).2 h) hij hj
  simpa [List.getD, hi, hj] using this
theorem mem_memTo {m k : Nat} {x : Int} : x ∈ memTo m k ↔ ∃ i : Nat, i < k ∧ m.testBit i = true ∧ x = (i : Int) := by
  unfold memTo
  simp only [List.mem_map, List.mem_filter, List.mem_range]
  constructor
  · rintro ⟨i, ⟨h1, h2⟩, rfl⟩; exact ⟨i, h1, h2, rfl⟩
  · rintro ⟨i, h1, h2, rfl⟩; exact ⟨i, ⟨h1, h2⟩, rfl⟩
theorem set_range {l : List Int} (h : SetL l) {x : Int} (hx : x ∈ l) : 0 ≤ x ∧ x ≤ 23 := by
  obtain ⟨i, hi, rfl⟩ := (member_iff l x).1 hx
  exact h.1 i hi
theorem memL_set {l : List Int} (h : SetL l) : memL (maskL l) = l := by
  refine asc_eq (memTo_asc _ _) (set_asc h) fun x => ?_
  unfold memL
  rw [mem_memTo]
  constructor
  · rintro ⟨i, _, h2, rfl⟩
    rw [bit_maskL h] at h2
    exact of_decide_eq_true h2
  · intro hx
    obtain ⟨h0, h1⟩ := set_range h hx
    exact ⟨x.toNat, by omega, by rw [bit_maskL h, show ((x.toNat : Nat) : Int) = x by omega]; exact decide_eq_true hx, by omega⟩
theorem asc_set {l : List Int} (h : l.Pairwise (· < ·)) (hr : ∀ x, x ∈ l → 0 ≤ x ∧ x ≤ 23) : SetL l := by
  rw [List.pairwise_iff_getElem] at h
  refine ⟨fun i hi => hr _ ((member_iff l _).2 ⟨i, hi, rfl⟩), fun i hi => ?_⟩
  have := h i (i + 1) (by omega) hi (by omega)
  have h2 : i < l.length := by omega
  simpa [List.getD, hi, h2] using this
theorem set_memL (m : Nat) : SetL (memL m) := by
  refine asc_set (memTo_asc _ _) fun x hx => ?_
  obtain ⟨i, hi, _, rfl⟩ := mem_memTo.1 hx
  omega
theorem memL_zero : memL 0 = [] := by decide
/-- The masks of two lists, both 0 where one is no set. -/
def maskA (a b : List Int) : Nat := if (setB a && setB b) = true then maskL a else 0
def maskB (a b : List Int) : Nat := if (setB a && setB b) = true then maskL b else 0
theorem maskA_lt (a b : List Int) : maskA a b < 16777216 := by
  unfold maskA; split
  · exact maskL_lt a
  · omega
theorem maskB_lt (a b : List Int) : maskB a b < 16777216 := by
  unfold maskB; split
  · exact maskL_lt b
  · omega
theorem unite_mask (a b : List Int) : memL (maskA a b ||| maskB a b) = uniteL a b := by
  unfold maskA maskB uniteL
  cases h : (setB a && setB b) with
  | false => simp only [Bool.false_eq_true, if_false]; decide
  | true =>
    rw [Bool.and_eq_true] at h
    have h1 := (setB_iff a).1 h.1
    have h2 := (setB_iff b).1 h.2
    simp only [if_true]
    refine asc_eq (memTo_asc _ _) ?_ fun x => ?_
    · exact List.Pairwise.filter _ (range_asc0 24)
    · unfold memL
      rw [mem_memTo]
      simp only [Nat.testBit_or, bit_maskL h1, bit_maskL h2, List.mem_filter, List.mem_map, List.mem_range]
      constructor
      · rintro ⟨i, hi, g, rfl⟩; exact ⟨⟨i, hi, rfl⟩, g⟩
      · rintro ⟨⟨i, hi, rfl⟩, g⟩; exact ⟨i, hi, g, rfl⟩
theorem meet_mask (a b : List Int) : memL (maskA a b &&& maskB a b) = meetL a b := by
  unfold maskA maskB meetL
  cases h : (setB a && setB b) with
  | false => simp only [Bool.false_eq_true, if_false]; decide
  | true =>
    rw [Bool.and_eq_true] at h
    have h1 := (setB_iff a).1 h.1
    have h2 := (setB_iff b).1 h.2
    simp only [if_true]
    refine asc_eq (memTo_asc _ _) ((set_asc h1).filter _) fun x => ?_
    unfold memL
    rw [mem_memTo]
    simp only [Nat.testBit_and, bit_maskL h1, bit_maskL h2, List.mem_filter, Bool.and_eq_true, decide_eq_true_eq]
    constructor
    · rintro ⟨i, hi, g, rfl⟩; exact g
    · intro g
      have := set_range h1 g.1
      refine ⟨x.toNat, by omega, ?_, by omega⟩
      rw [show ((x.toNat : Nat) : Int) = x by omega]
      exact g
theorem sub_mask (a b : List Int) : memL (maskA a b &&& (4294967295 ^^^ maskB a b)) = subL a b := by
  unfold maskA maskB subL
  cases h : (setB a && setB b) with
  | false => simp only [Bool.false_eq_true, if_false]; decide
  | true =>
    rw [Bool.and_eq_true] at h
    have h1 := (setB_iff a).1 h.1
    have h2 := (setB_iff b).1 h.2
    simp only [if_true]
    refine asc_eq (memTo_asc _ _) ((set_asc h1).filter _) fun x => ?_
    unfold memL
    have hall : ∀ i : Nat, i < 24 → (4294967295 : Nat).testBit i = true := by decide
    rw [mem_memTo]
    simp only [Nat.testBit_and, Nat.testBit_xor, bit_maskL h1, bit_maskL h2, List.mem_filter, Bool.and_eq_true, decide_eq_true_eq]
    constructor
    · rintro ⟨i, hi, g, rfl⟩
      rw [hall i hi] at g
      exact ⟨g.1, by simpa using g.2⟩
    · intro g
      have := set_range h1 g.1
      refine ⟨x.toNat, by omega, ?_, by omega⟩
      rw [hall x.toNat (by omega), show ((x.toNat : Nat) : Int) = x by omega]
      exact ⟨g.1, by simpa using g.2⟩
/-- The bits of x that y has not, among the lowest 24. -/
theorem andNot_lt {x : Nat} (y : Nat) (hx : x < 16777216) : x &&& (4294967295 ^^^ y) < 16777216 := Nat.lt_of_le_of_lt Nat.and_le_left hx
end Go.Proofs.YtnfmhiephdhopaaDoor
namespace Go.Proofs.YtnfmhiephdhopaaDoor
open Go.RowKit
set_option linter.unusedVariables false
theorem Tryd.infoI64 : (Tryd.prog.info? 3).map (fun i => (i.zero, i.size, i.bytes)) = some (some (.int .i64 0), 1, 8) := by kernel_rfl
/-- The slice v reads as the numbers xs. -/
def Ints (w : World) (v : Value) (xs : List Int) : Prop :=
  (xs = [] ∧ ∃ a cap, v = .slice a 0 cap) ∨ ∃ b off cap, v = .slice (some ⟨b, off, none⟩) xs.length cap ∧ xs.length ≤ cap ∧ b < w.heap.size ∧ ∀ j, j < xs.length → w.cell? ⟨b, off + j, none⟩ = some (.int .i64 (xs.getD j 0))
/-- The slice v owns the numbers xs, in a block from B on. -/
def OwnsN (w : World) (B : Nat) (v : Value) (xs : List Int) : Prop := w.ownsRow B 3 1 v xs.length (xs.map (Value.int .i64))
theorem below_same {B : Nat} {a w w' : World} (h : Below B a w) (h1 : w'.heap = w.heap) (h2 : w'.os = w.os) (h3 : w'.tape = w.tape) (h4 : w'.output = w.output) : Below B a w' :=
  ⟨h2.trans h.os, h3.trans h.tape, h4.trans h.output, by rw [h1]; exact h.size, fun k hk => by rw [h1]; exact h.block k hk⟩
theorem ints_len {w : World} {v : Value} {xs : List Int} (h : Ints w v xs) : ∃ a cap, v = .slice a xs.length cap := by
  rcases h with ⟨rfl, a, cap, rfl⟩ | ⟨b, off, cap, rfl, _⟩
  · exact ⟨a, cap, rfl⟩
  · exact ⟨_, cap, rfl⟩
theorem ints_below {W w : World} {v : Value} {xs : List Int} (h : Ints W v xs) (hb : Below W.heap.size W w) : Ints w v xs := by
  rcases h with h | ⟨b, off, cap, h1, h2, h3, h4⟩
  · exact Or.inl h
  · exact Or.inr ⟨b, off, cap, h1, h2, Nat.lt_of_lt_of_le h3 hb.size, fun j hj => (hb.cell (p := ⟨b, off + j, none⟩) h3).trans (h4 j hj)⟩
theorem ownsN_nil (w : World) (B : Nat) : OwnsN w B (.slice none 0 0) [] := World.ownsRow_nil w B _ _
theorem ownsN_lit (w : World) (B : Nat) (hb : B ≤ w.heap.size) (C : Array Value) (n : Nat) (xs : List Int) (hC : C.toList = xs.map (Value.int .i64)) (hn : n = xs.length) (hm : n ≤ maxLen) :
    OwnsN (w.alloc (.cells C 3)) B (.slice (some ⟨w.heap.size, 0, none⟩) n n) xs := by
  subst hn
  have := World.ownsRow_lit (e := 3) (size := 1) w C xs.length hb hm (by have := congrArg List.length hC; simpa using this)
  rw [hC] at this
  exact this
theorem cell_lit (w : World) (C : Array Value) (t : TypeId) (j : Nat) : (w.alloc (.cells C t)).cell? ⟨w.heap.size, j, none⟩ = C[j]? := by
  rw [cell_of_row _ w.heap.size j C t (0, 0) (heap_alloc_new w _)]
/-- 'append(out, x..)' where the numbers lie in a block that was just laid. -/
theorem append_ints {w : World} {ops : Array Oper} {rest : List Oper} {o : Oper} {a : Act} {Q : Exit → Act → World → Prop} (hgd : o.guard = none) (s x : Operand)
    (ho : o.op = .call { callee := .builtin .append, args := #[s, x], argTypes := #[24, 24] })
    (B : Nat) (v : Value) (xs : List Int) (hs : a.eval s = v) (hown : OwnsN w B v xs) (hB : B ≤ w.heap.size)
    (C : Array Value) (ys : List Int) (m c : Nat) (hx : a.eval x = .slice (some ⟨w.heap.size, 0, none⟩) m c) (hC : C.toList = ys.map (Value.int .i64)) (hm : m = ys.length)
    (h63 : xs.length + ys.length ≤ 17592186044416)
    (h : ∀ v' w', OwnsN w' B v' (xs ++ ys) → Below B w w' → wpList Tryd.prog ops Q rest (a.put o.dst v') w') : wpList Tryd.prog ops Q (o :: rest) a (w.alloc (.cells C 3)) := by
  obtain ⟨i0, hi, hz0, hz1, hz2⟩ := info_parts Tryd.infoI64
  subst hm
  refine wpList_append_own _ hgd s x 24 ho B 3 i0 (.int .i64 0) 1 8 Tryd.underlying24 hi hz0 hz1 hz2 rfl (by decide) v xs.length _ hs (hown.alloc _) ⟨w.heap.size, 0, none⟩ ys.length c (ys.map (Value.int .i64)) hx (by simp) ?_ (by intro u hu; simp at hu; obtain ⟨y, _, rfl⟩ := hu; rfl) (by unfold maxLen; omega) (by omega) (by simp; omega) ?_
  · intro j u hj
    have e : (⟨w.heap.size, 0, none⟩ : Addr).add j = ⟨w.heap.size, j, none⟩ := by unfold Addr.add; split <;> simp_all
    rw [e, cell_lit]
    rw [← hC] at hj
    simpa using hj
  · intro v' w' h1 h2 _
    refine h v' w' ?_ ?_
    · unfold OwnsN
      simpa using h1
    · exact ((Below.refl B w).alloc hB _).grown h2 (by simp; omega) (fun k hk => (hown.lt k hk).1)
/-- What is owned reads so. -/
theorem ownsN_ints {w : World} {B : Nat} {v : Value} {xs : List Int} (h : OwnsN w B v xs) : Ints w v xs := by
  rcases h.2 with ⟨rfl, h0⟩ | ⟨g, cap, cur, rfl, hb, hg, hn, hm, hcs, htake⟩
  · have : xs = [] := List.eq_nil_of_length_eq_zero h0
    subst this
    exact Or.inl ⟨rfl, none, 0, rfl⟩
  · refine Or.inr ⟨g, 0, cap, rfl, hn, (Array.getElem?_eq_some_iff.1 hg).1, ?_⟩
    intro j hj
    have := World.ownsRow.cells h (g := g) rfl j (.int .i64 (xs.getD j 0)) (by simp [List.getElem?_eq_getElem hj])
    have e : (⟨g, 0, none⟩ : Addr).add j = ⟨g, 0 + j, none⟩ := by unfold Addr.add; split <;> simp_all
    rwa [e] at this
/-- What is owned stays owned while only blocks beyond it, or none of its own, are written. -/
theorem ownsN_below {w w' : World} {B : Nat} {v : Value} {xs : List Int} (h : OwnsN w B v xs) (hb : Below w.heap.size w w') : OwnsN w' B v xs := by
  refine ⟨h.1, ?_⟩
  rcases h.2 with hn | ⟨g, cap, cur, rfl, hb', hg, rest⟩
  · exact .inl hn
  · refine .inr ⟨g, cap, cur, rfl, hb', ?_, rest⟩
    rw [hb.block g (Array.getElem?_eq_some_iff.1 hg).1]
    exact hg
end Go.Proofs.YtnfmhiephdhopaaDoor
namespace Go.Proofs.YtnfmhiephdhopaaDoor
open Go.RowKit
set_option linter.unusedVariables false
theorem Tryd.infoStr : (Tryd.prog.info? 9).map (fun i => (i.zero, i.size, i.bytes)) = some (some (.string ⟨#[]⟩), 1, 16) := by kernel_rfl
/-- The slice v reads as the texts xs. -/
def Strs (w : World) (v : Value) (xs : List ByteArray) : Prop :=
  (xs = [] ∧ ∃ a cap, v = .slice a 0 cap) ∨ ∃ b off cap, v = .slice (some ⟨b, off, none⟩) xs.length cap ∧ xs.length ≤ cap ∧ b < w.heap.size ∧ ∀ j, j < xs.length → w.cell? ⟨b, off + j, none⟩ = some (.string (xs.getD j ⟨#[]⟩))
/-- The slice v owns the texts xs, in a block from B on. -/
def OwnsS (w : World) (B : Nat) (v : Value) (xs : List ByteArray) : Prop := w.ownsRow B 9 1 v xs.length (xs.map (Value.string))
theorem ownsS_nil (w : World) (B : Nat) : OwnsS w B (.slice none 0 0) [] := World.ownsRow_nil w B _ _
/-- 'append(out, x..)' where the texts lie in a block that was just laid. -/
theorem append_strs {w : World} {ops : Array Oper} {rest : List Oper} {o : Oper} {a : Act} {Q : Exit → Act → World → Prop} (hgd : o.guard = none) (s x : Operand)
    (ho : o.op = .call { callee := .builtin .append, args := #[s, x], argTypes := #[47, 47] })
    (B : Nat) (v : Value) (xs : List ByteArray) (hs : a.eval s = v) (hown : OwnsS w B v xs) (hB : B ≤ w.heap.size)
    (C : Array Value) (ys : List ByteArray) (m c : Nat) (hx : a.eval x = .slice (some ⟨w.heap.size, 0, none⟩) m c) (hC : C.toList = ys.map (Value.string)) (hm : m = ys.length)
    (h63 : xs.length + ys.length ≤ 8796093022208)
    (h : ∀ v' w', OwnsS w' B v' (xs ++ ys) → Below B w w' → wpList Tryd.prog ops Q rest (a.put o.dst v') w') : wpList Tryd.prog ops Q (o :: rest) a (w.alloc (.cells C 9)) := by
  obtain ⟨i0, hi, hz0, hz1, hz2⟩ := info_parts Tryd.infoStr
  subst hm
  refine wpList_append_own _ hgd s x 47 ho B 9 i0 (.string ⟨#[]⟩) 1 16 Tryd.underlying47 hi hz0 hz1 hz2 rfl (by decide) v xs.length _ hs (hown.alloc _) ⟨w.heap.size, 0, none⟩ ys.length c (ys.map (Value.string)) hx (by simp) ?_ (by intro u hu; simp at hu; obtain ⟨y, _, rfl⟩ := hu; rfl) (by unfold maxLen; omega) (by omega) (by simp; omega) ?_
  · intro j u hj
    have e : (⟨w.heap.size, 0, none⟩ : Addr).add j = ⟨w.heap.size, j, none⟩ := by unfold Addr.add; split <;> simp_all
    rw [e, cell_lit]
    rw [← hC] at hj
    simpa using hj
  · intro v' w' h1 h2 _
    refine h v' w' ?_ ?_
    · unfold OwnsS
      simpa using h1
    · exact ((Below.refl B w).alloc hB _).grown h2 (by simp; omega) (fun k hk => (hown.lt k hk).1)
/-- What is owned reads so. -/
theorem ownsS_strs {w : World} {B : Nat} {v : Value} {xs : List ByteArray} (h : OwnsS w B v xs) : Strs w v xs := by
  rcases h.2 with ⟨rfl, h0⟩ | ⟨g, cap, cur, rfl, hb, hg, hn, hm, hcs, htake⟩
  · have : xs = [] := List.eq_nil_of_length_eq_zero h0
    subst this
    exact Or.inl ⟨rfl, none, 0, rfl⟩
  · refine Or.inr ⟨g, 0, cap, rfl, hn, (Array.getElem?_eq_some_iff.1 hg).1, ?_⟩
    intro j hj
    have := World.ownsRow.cells h (g := g) rfl j (.string (xs.getD j ⟨#[]⟩)) (by simp [List.getElem?_eq_getElem hj])
    have e : (⟨g, 0, none⟩ : Addr).add j = ⟨g, 0 + j, none⟩ := by unfold Addr.add; split <;> simp_all
    rwa [e] at this
/-- What is owned stays owned while only blocks beyond it, or none of its own, are written. -/
theorem ownsS_below {w w' : World} {B : Nat} {v : Value} {xs : List ByteArray} (h : OwnsS w B v xs) (hb : Below w.heap.size w w') : OwnsS w' B v xs := by
  refine ⟨h.1, ?_⟩
  rcases h.2 with hn | ⟨g, cap, cur, rfl, hb', hg, rest⟩
  · exact .inl hn
  · refine .inr ⟨g, cap, cur, rfl, hb', ?_, rest⟩
    rw [hb.block g (Array.getElem?_eq_some_iff.1 hg).1]
    exact hg
end Go.Proofs.YtnfmhiephdhopaaDoor
namespace Go.Proofs.YtnfmhiephdhopaaDoor
open Go.RowKit
set_option linter.unusedVariables false
/-- A slice in new memory that holds the numbers xs. -/
def Fresh (w : World) (xs : List Int) (e : Ending) (w' : World) : Prop := ∃ v', e = .returned v' ∧ OwnsN w' w.heap.size v' xs ∧ Below w.heap.size w w'
theorem ints_cell {w : World} {v : Value} {xs : List Int} (h : Ints w v xs) (hp : 0 < xs.length) : ∃ b off cap, v = .slice (some ⟨b, off, none⟩) xs.length cap ∧ b < w.heap.size ∧ ∀ j, j < xs.length → w.cell? ⟨b, off + j, none⟩ = some (.int .i64 (xs.getD j 0)) := by
  rcases h with ⟨rfl, _⟩ | ⟨b, off, cap, h1, h2, h3, h4⟩
  · simp at hp
  · exact ⟨b, off, cap, h1, h3, h4⟩
/-- The numbers k, k + 1, ... -/
def marks (k : Int) (n : Nat) : List Int := (List.range n).map fun i : Nat => k + (i : Int)
end Go.Proofs.YtnfmhiephdhopaaDoor
namespace Go.Proofs.YtnfmhiephdhopaaDoor
open Go.RowKit
set_option linter.unusedVariables false
theorem ret_b {b c : Bool} (h : b = c) : Ending.returned (.bool b) = .returned (.bool c) := by rw [h]
theorem in_yes (a l h : Int) (w : World) (h1 : l ≤ a) (h2 : a ≤ h) : Calls Tryd.prog 30 #[.int .i64 a, .int .i64 l, .int .i64 h] w fun e w' => e = .returned (.bool true) ∧ w' = w := by
  go_enter Tryd.func30, Tryd.ntmps30
  go_wp2
  go_ret
  exact ⟨rfl, rfl⟩
theorem in_no (a l h : Int) (w : World) (hh : ¬ (l ≤ a ∧ a ≤ h)) : Calls Tryd.prog 30 #[.int .i64 a, .int .i64 l, .int .i64 h] w fun e w' => e = .returned (.bool false) ∧ w' = w := by
  by_cases h1 : l ≤ a
  · have h2 : ¬ a ≤ h := by omega
    clear hh
    go_enter Tryd.func30, Tryd.ntmps30
    go_wp2
    go_ret
    exact ⟨rfl, rfl⟩
  · clear hh
    go_enter Tryd.func30, Tryd.ntmps30
    go_wp2
    go_ret
    exact ⟨rfl, rfl⟩
/-! ### HasMember -/
set_option maxRecDepth 100000 in
theorem specHas (v : Value) (xs : List Int) (x : Int) (w : World) (h : Ints w v xs) (hn : xs.length ≤ 1048576) :
    Calls Tryd.prog 28 #[v, .int .i64 x] w fun e w' => e = .returned (.bool (decide (x ∈ xs))) ∧ w = w' := by
  have H := Lib.hid h
  obtain ⟨a, cap, rfl⟩ := ints_len h
  clear h
  go_enter Tryd.func28, Tryd.ntmps28
  go_wp2
  go_loop [5] (fun i => ∃ k : Nat, k ≤ xs.length ∧ i = .int .i64 k ∧ Hid (∀ j, j < k → xs.getD j 0 ≠ x)) (fun i => xs.length - (intOf i).toNat)
  case atStart => exact ⟨0, Nat.zero_le _, rfl, Lib.hid (fun j hj => by omega)⟩
  case round =>
    obtain ⟨k, hk, rfl, hne⟩ := hrel
    by_cases hlt : k < xs.length
    · obtain ⟨b, off, cap', hv, hbl, hc⟩ := ints_cell H.out (by omega)
      simp only [Value.slice.injEq] at hv
      obtain ⟨rfl, _, rfl⟩ := hv
      have hcell := hc k hlt
      have i1 : (0 : Int) ≤ (k : Int) := by omega
      have i2 : (k : Int) < (xs.length : Int) := by omega
      clear hc
      by_cases he : xs.getD k 0 = x
      · have HY := Lib.hid (show decide (x ∈ xs) = true from decide_eq_true ((member_iff xs x).2 ⟨k, hlt, he⟩))
        rw [he] at hcell
        have heq : (x == x) = true := by simp
        clear he
        go_wp2
        go_ret
        exact ⟨ret_b HY.out.symm, rfl⟩
      · have HN : Hid (∀ j, j < k + 1 → xs.getD j 0 ≠ x) := Lib.hid (fun j hj => by
          by_cases e : j = k
          · exact e ▸ he
          · exact hne.out j (by omega))
        have heq : (xs.getD k 0 == x) = false := by rw [beq_eq_false_iff_ne]; exact he
        clear he
        generalize xs.getD k 0 = y at hcell heq
        go_wp2
        go_round
        case rel => exact ⟨k + 1, by omega, by go_num, HN⟩
        case measure => simp [intOf]; omega
    · have HN := Lib.hid (show decide (x ∈ xs) = false from decide_eq_false (fun g => by
        obtain ⟨j, hj, e⟩ := (member_iff xs x).1 g
        exact hne.out j (by omega) e))
      go_wp2
      go_ret
      exact ⟨ret_b HN.out.symm, rfl⟩
/-! ### IsSet -/
set_option maxHeartbeats 1000000 in
set_option maxRecDepth 100000 in
theorem specIsSetBig (v : Value) (xs : List Int) (w : World) (h : Ints w v xs) (hn : xs.length ≤ 1073741824) :
    Calls Tryd.prog 15 #[v] w fun e w' => e = .returned (.bool (setB xs)) ∧ Below w.heap.size w w' := by
  have H := Lib.hid h
  obtain ⟨a, cap, rfl⟩ := ints_len h
  clear h
  go_enter Tryd.func15, Tryd.ntmps15
  go_wp2
  go_loopw [3] (fun i wr => ∃ k : Nat, k ≤ xs.length ∧ i = .int .i64 k ∧ Hid (SetTo xs k) ∧ Below w.heap.size w wr) (fun i _ => xs.length - (intOf i).toNat)
  case atStart => exact ⟨0, Nat.zero_le _, rfl, Lib.hid ⟨fun i hi => by omega, fun i hi => by omega⟩, Below.refl _ _⟩
  case round =>
    obtain ⟨k, hk, rfl, hset, hbel⟩ := hrel
    by_cases hlt : k < xs.length
    · obtain ⟨b, off, cap', hv, hbl, hc⟩ := ints_cell H.out (by omega)
      simp only [Value.slice.injEq] at hv
      obtain ⟨rfl, _, rfl⟩ := hv
      have hcell := (hbel.cell (p := ⟨b, off + k, none⟩) hbl).trans (hc k hlt)
      have i1 : (0 : Int) ≤ (k : Int) := by omega
      have i2 : (k : Int) < (xs.length : Int) := by omega
      by_cases hin : 0 ≤ xs.getD k 0 ∧ xs.getD k 0 ≤ 23
      · by_cases hz : k = 0
        · have HS : Hid (SetTo xs (k + 1)) := Lib.hid (setTo_step hset.out hin.1 hin.2 (fun g => by omega))
          obtain ⟨g0, g1⟩ := hin
          have hd : decide (0 < k) = false := by simp [hz]
          have hd2 : decide ((0 : Int) < (k : Int)) = false := by simp [hz]
          clear hc hz
          generalize xs.getD k 0 = y at hcell g0 g1
          go_wp2
          go_quiet ((go_at_call 30; exact Calls.quiet_of_same (in_yes _ _ _ _ (by omega) (by omega))))
          go_wp2
          go_roundw
          case rel => exact ⟨k + 1, by omega, by go_num, HS, below_same hbel rfl rfl rfl rfl⟩
          case measure => simp [intOf]; omega
        · have hcellp := (hbel.cell (p := ⟨b, off + (k - 1), none⟩) hbl).trans (hc (k - 1) (by omega))
          obtain ⟨g0, g1⟩ := hin
          have hd : 0 < k := by omega
          have i3 : (0 : Int) ≤ (k : Int) - 1 := by omega
          have i4 : (k : Int) - 1 < (xs.length : Int) := by omega
          have i5 : ((k : Int) - 1).toNat = k - 1 := by omega
          have e1 : IntKind.i64.wrap ((k : Int) - 1) = (k : Int) - 1 := IntWalk.i64_in _ (by omega)
          by_cases hle : xs.getD k 0 ≤ xs.getD (k - 1) 0
          · have HNO := Lib.hid (setB_no (not_set_order hlt hd (by omega)))
            clear hc hz
            generalize xs.getD (k - 1) 0 = z at hcellp hle
            generalize xs.getD k 0 = y at hcell g0 g1 hle
            have hdl : decide (y ≤ z) = true := decide_eq_true hle
            go_wp2
            go_quiet ((go_at_call 30; exact Calls.quiet_of_same (in_yes _ _ _ _ (by omega) (by omega))))
            go_wp2
            go_ret
            exact ⟨ret_b HNO.out.symm, below_same hbel rfl rfl rfl rfl⟩
          · have HS : Hid (SetTo xs (k + 1)) := Lib.hid (setTo_step hset.out g0 g1 (fun _ => by omega))
            clear hc hz
            generalize xs.getD (k - 1) 0 = z at hcellp hle
            generalize xs.getD k 0 = y at hcell g0 g1 hle
            have hdl : decide (y ≤ z) = false := decide_eq_false hle
            go_wp2
            go_quiet ((go_at_call 30; exact Calls.quiet_of_same (in_yes _ _ _ _ (by omega) (by omega))))
            go_wp2
            go_roundw
            case rel => exact ⟨k + 1, by omega, by go_num, HS, below_same hbel rfl rfl rfl rfl⟩
            case measure => simp [intOf]; omega
      · have HNO := Lib.hid (setB_no (not_set_range hlt hin))
        clear hc
        generalize xs.getD k 0 = y at hcell hin
        have HI := Lib.hid hin
        clear hin
        go_wp2
        go_quiet ((go_at_call 30; exact Calls.quiet_of_same (in_no _ _ _ _ HI.out)))
        go_wp2
        go_ret
        exact ⟨ret_b HNO.out.symm, below_same hbel rfl rfl rfl rfl⟩
    · obtain rfl : k = xs.length := by omega
      have HY := Lib.hid ((setB_iff xs).2 hset.out)
      go_wp2
      go_ret
      exact ⟨ret_b HY.out.symm, hbel⟩
theorem specIsSet (v : Value) (xs : List Int) (w : World) (h : Ints w v xs) (hn : xs.length ≤ 1048576) :
    Calls Tryd.prog 15 #[v] w fun e w' => e = .returned (.bool (setB xs)) ∧ Below w.heap.size w w' := specIsSetBig v xs w h (by omega)
end Go.Proofs.YtnfmhiephdhopaaDoor
namespace Go.Proofs.YtnfmhiephdhopaaDoor
open Go.RowKit
theorem ret_strI {xs ys : List Int} (h : xs = ys) : Ending.returned (.string (strOfNums xs)) = .returned (.string (strOfNums ys)) := by rw [h]
/-- The slice v owns the bytes xs. -/
def OwnsB (w : World) (B : Nat) (v : Value) (xs : List Int) : Prop := w.ownsRow B 5 1 v xs.length (xs.map (Value.int .u8))
theorem ownsB_lit (w : World) (B : Nat) (hb : B ≤ w.heap.size) (C : Array Value) (n : Nat) (xs : List Int) (hC : C.toList = xs.map (Value.int .u8)) (hn : n = xs.length) (hm : n ≤ maxLen) :
    OwnsB (w.alloc (.cells C 5)) B (.slice (some ⟨w.heap.size, 0, none⟩) n n) xs := by
  subst hn
  have := World.ownsRow_lit (e := 5) (size := 1) w C xs.length hb hm (by have := congrArg List.length hC; simpa using this)
  rw [hC] at this
  exact this
/-- 'string(out)'. -/
theorem string_owned {w : World} {B : Nat} {v : Value} {xs : List Int} (hown : OwnsB w B v xs) : (convert 22 9 v).run Tryd.prog w = .ok (.string (strOfNums xs)) w := by
  rcases hown.2 with ⟨rfl, h0⟩ | ⟨g, cap, cur, rfl, hb, hg, _⟩
  · have : xs = [] := List.eq_nil_of_length_eq_zero h0
    subst this
    rw [run_convert_bytes_nil w 22 5 Tryd.underlying22 Tryd.underlying5 0 0 9 Tryd.underlying9]
    rfl
  · refine run_convert_bytes_arg w 22 5 Tryd.underlying22 Tryd.underlying5 g 0 xs.length cap xs rfl ?_ 9 Tryd.underlying9
    intro i hi
    have := World.ownsRow.cells hown (g := g) rfl i (.int .u8 (xs.getD i 0)) (by simp [List.getElem?_eq_getElem hi])
    have e : (⟨g, 0, none⟩ : Addr).add i = ⟨g, 0 + i, none⟩ := by unfold Addr.add; split <;> simp_all
    rwa [e] at this
/-- 'string([]byte{x})'. -/
theorem string_lit1 (w : World) (x : Int) : (convert 22 9 (.slice (some ⟨w.heap.size, 0, none⟩) 1 1)).run Tryd.prog (w.alloc (.cells #[.int .u8 x] 5)) = .ok (.string (strOfNums [x])) (w.alloc (.cells #[.int .u8 x] 5)) :=
  string_owned (B := 0) (ownsB_lit w 0 (Nat.zero_le _) #[.int .u8 x] 1 [x] rfl rfl (by decide))
theorem strOfNums_append (xs ys : List Int) : strOfNums xs ++ strOfNums ys = strOfNums (xs ++ ys) := by
  apply ByteArray.ext
  simp [strOfNums]
theorem concat_cons (x : Int) (ys : List Int) (h : ys.length ≤ 1048576) (w : World) : (Op.stringOp .add (strOfNums [x]) (strOfNums ys)).run Tryd.prog w = .ok (.string (strOfNums (x :: ys))) w := by
  rw [run_string_add_sum w _ _ (by rw [strOfNums_size, strOfNums_size]; simp; omega), strOfNums_append]
  rfl
end Go.Proofs.YtnfmhiephdhopaaDoor
namespace Go.Proofs.YtnfmhiephdhopaaDoor
/-- The decimal digits of u. -/
def decI (u : Nat) : List Int := if u < 10 then [48 + (u : Int)] else decI (u / 10) ++ [48 + ((u % 10 : Nat) : Int)]
  termination_by u
  decreasing_by omega
theorem decI_small (u : Nat) (h : u < 10) : decI u = [48 + (u : Int)] := by rw [decI, if_pos h]
theorem decI_big (u : Nat) (h : 10 ≤ u) : decI u = decI (u / 10) ++ [48 + ((u % 10 : Nat) : Int)] := by rw [decI, if_neg (by omega)]
theorem decI_digits (u : Nat) : (decI u).map (fun n => UInt8.ofNat n.toNat) = Lib.decDigits u := by
  induction u using Nat.strongRecOn with
  | _ u ih =>
    by_cases h : u < 10
    · rw [decI_small u h, Lib.decDigits_one h]
      simp only [List.map_cons, List.map_nil]
      rw [show (48 + (u : Int)).toNat = 48 + u by omega]
    · rw [decI_big u (by omega), Lib.decDigits, dif_neg h, List.map_append, ih _ (by omega)]
      simp only [List.map_cons, List.map_nil]
      rw [show (48 + ((u % 10 : Nat) : Int)).toNat = 48 + u % 10 by omega]
theorem str_decI (u : Nat) : strOfNums (decI u) = ⟨(Lib.itoa (u : Int)).toArray⟩ := by
  unfold strOfNums; rw [decI_digits, Lib.itoa_nonneg]
theorem str_decI_neg (u : Nat) (h : 1 ≤ u) : strOfNums (45 :: decI u) = ⟨(Lib.itoa (-(u : Int))).toArray⟩ := by
  unfold strOfNums; rw [List.map_cons, decI_digits, Lib.itoa_neg u h]; rfl
theorem decI_length (u : Nat) (h : u ≤ 9223372036854775808) (h1 : 1 ≤ u) : (decI u).length ≤ 21 := by
  have h2 := Lib.itoa_length_le (-(u : Int)) (by omega) (by omega)
  rw [Lib.itoa_neg u h1, ← decI_digits] at h2
  simp at h2
  omega
/-- What the loop has made of u: xs, and m is left. -/
def DecInv (u m : Nat) (xs : List Int) : Prop := if m = 0 then xs = decI u else decI m ++ xs = decI u
theorem decInv_start (u : Nat) (h : 1 ≤ u) : DecInv u u [] := by unfold DecInv; rw [if_neg (by omega)]; simp
theorem decInv_step {u m : Nat} {xs : List Int} (h : DecInv u m xs) (hm : 1 ≤ m) : DecInv u (m / 10) ((48 + ((m % 10 : Nat) : Int)) :: xs) := by
  unfold DecInv at *
  rw [if_neg (by omega)] at h
  by_cases h10 : m < 10
  · rw [if_pos (by omega), ← h, decI_small m h10, show m % 10 = m by omega]; rfl
  · rw [if_neg (by omega), ← h, decI_big m (by omega)]; simp
theorem decInv_end {u : Nat} {xs : List Int} (h : DecInv u 0 xs) : xs = decI u := by unfold DecInv at h; rwa [if_pos rfl] at h
theorem decInv_len {u m : Nat} {xs : List Int} (h : DecInv u m xs) (hu : u ≤ 9223372036854775808) (h1 : 1 ≤ u) : xs.length ≤ 21 := by
  have h2 := decI_length u hu h1
  unfold DecInv at h
  split at h
  · rw [h]; exact h2
  · rw [← h] at h2; simp at h2; omega
end Go.Proofs.YtnfmhiephdhopaaDoor
namespace Go.Proofs.YtnfmhiephdhopaaDoor
open Go.RowKit
set_option linter.unusedVariables false
theorem specFmt_zero (w : World) : Calls Tryd.prog 33 #[.int .i64 0] w fun e w' => e = .returned (.string ⟨#[48]⟩) ∧ Below w.heap.size w w' := by
  go_enter Tryd.func33, Tryd.ntmps33
  go_wp2
  go_ret
  exact ⟨rfl, Below.refl _ _⟩
set_option maxRecDepth 100000 in
theorem specFmt_pos (u : Nat) (w : World) (h1 : 1 ≤ u) (h2 : u ≤ 9223372036854775807) : Calls Tryd.prog 33 #[.int .i64 u] w fun e w' => e = .returned (.string (strOfNums (decI u))) ∧ Below w.heap.size w w' := by
  have hcv := string_lit1
  have hz : ((u : Int) == 0) = false := by rw [beq_eq_false_iff_ne]; omega
  have hneg : decide ((u : Int) < 0) = false := by simp
  go_enter Tryd.func33, Tryd.ntmps33
  go_wp2
  go_loopw [0, 3] (fun n s wr => ∃ (m : Nat) (xs : List Int), m ≤ u ∧ n = .int .i64 m ∧ s = .string (strOfNums xs) ∧ Below w.heap.size w wr ∧ Hid (DecInv u m xs)) (fun n _ _ => (intOf n).toNat)
  case atStart => exact ⟨u, [], Nat.le_refl _, rfl, rfl, Below.refl _ _, Lib.hid (decInv_start u h1)⟩
  case round =>
    obtain ⟨m, xs, hm, rfl, rfl, hbel, hinv⟩ := hrel
    have hB := hbel.size
    by_cases hlt : 1 ≤ m
    · have hz : ((m : Int) != 0) = true := by rw [bne_iff_ne]; omega
      have HS := Lib.hid (decInv_step hinv.out hlt)
      have hl := decInv_len hinv.out (by omega) h1
      have hb2 := hbel.alloc hB (.cells #[.int .u8 (48 + (m : Int) % 10)] 5)
      have hadd := concat_cons (48 + (m : Int) % 10) xs (by omega)
      have hml : m / 10 < m := by omega
      go_wp2
      go_roundw
      case rel => exact ⟨m / 10, _, by omega, by go_num, by rfl, hb2, by have := HS.out; simpa using Lib.hid this⟩
      case measure => simp [intOf]; omega
    · obtain rfl : m = 0 := by omega
      have HE := Lib.hid (decInv_end hinv.out)
      go_wp2
      go_ret
      exact ⟨ret_strI HE.out, hbel⟩
set_option maxRecDepth 100000 in
theorem specFmt_neg (u : Nat) (w : World) (h1 : 1 ≤ u) (h2 : u ≤ 9223372036854775808) : Calls Tryd.prog 33 #[.int .i64 (-(u : Int))] w fun e w' => e = .returned (.string (strOfNums (45 :: decI u))) ∧ Below w.heap.size w w' := by
  have hcv := string_lit1
  have hz : ((-(u : Int)) == 0) = false := by rw [beq_eq_false_iff_ne]; omega
  have hneg : decide (0 < u) = true := by simp; omega
  have H2 := Lib.hid h2; clear h2
  go_enter Tryd.func33, Tryd.ntmps33
  go_wp2
  go_loopw [0, 3] (fun n s wr => ∃ (m : Nat) (xs : List Int), m ≤ u ∧ n = .int .i64 (-(m : Int)) ∧ s = .string (strOfNums xs) ∧ Below w.heap.size w wr ∧ Hid (DecInv u m xs)) (fun n _ _ => (-(intOf n)).toNat)
  case atStart => exact ⟨u, [], Nat.le_refl _, rfl, rfl, Below.refl _ _, Lib.hid (decInv_start u h1)⟩
  case round =>
    obtain ⟨m, xs, hm, rfl, rfl, hbel, hinv⟩ := hrel
    have hB := hbel.size
    by_cases hlt : 1 ≤ m
    · have hz : ((-(m : Int)) != 0) = true := by rw [bne_iff_ne]; omega
      have HS := Lib.hid (decInv_step hinv.out hlt)
      have hl := decInv_len hinv.out H2.out h1
      have hml : m / 10 < m := by omega
      have e1 : (-(m : Int)).tmod 10 = -((m : Int) % 10) := by rw [Int.neg_tmod, Int.tmod_eq_emod_of_nonneg (by omega)]
      have e2 : (-(m : Int)).tdiv 10 = -((m : Int) / 10) := by rw [Int.neg_tdiv, Int.tdiv_eq_ediv_of_nonneg (by omega)]
      have hbd : (m : Int) / 10 ≤ 922337203685477580 := by have := H2.out; omega
      by_cases hr : m % 10 = 0
      · have hr' : (m : Int) % 10 = 0 := by omega
        have HX : Hid (DecInv u (m / 10) (48 :: xs)) := Lib.hid (by have := HS.out; rwa [show ((m % 10 : Nat) : Int) = 0 by omega] at this)
        have hadd := concat_cons 48 xs (by omega)
        have hb2 := hbel.alloc hB (.cells #[.int .u8 48] 5)
        rw [hr'] at e1
        clear hr hr' HS
        go_wp2
        go_roundw
        case rel => exact ⟨m / 10, _, by omega, by go_num, by rfl, hb2, HX⟩
        case measure => simp [intOf]; omega
      · have hr' : 0 < (m : Int) % 10 := by omega
        have hadd := concat_cons (48 + (m : Int) % 10) xs (by omega)
        have hb2 := hbel.alloc hB (.cells #[.int .u8 (48 + (m : Int) % 10)] 5)
        clear hr
        go_wp2
        go_roundw
        case rel => exact ⟨m / 10, _, by omega, by go_num, by rfl, hb2, by have := HS.out; simpa using Lib.hid this⟩
        case measure => simp [intOf]; omega
    · obtain rfl : m = 0 := by omega
      have HE := Lib.hid (decInv_end hinv.out)
      have hl := decInv_len hinv.out H2.out h1
      have hadd := concat_cons 45 xs (by omega)
      have hadd' : ∀ w, (Op.stringOp .add ⟨#[45]⟩ (strOfNums xs)).run Tryd.prog w = .ok (.string (strOfNums (45 :: xs))) w := hadd
      go_wp2
      go_ret
      exact ⟨ret_strI (by rw [HE.out]), hbel⟩
theorem specFmt (n : Int) (w : World) (h0 : -9223372036854775808 ≤ n) (h1 : n ≤ 9223372036854775807) : Calls Tryd.prog 33 #[.int .i64 n] w fun e w' => e = .returned (.string ⟨(Lib.itoa n).toArray⟩) ∧ Below w.heap.size w w' := by
  by_cases hz : n = 0
  · subst hz; rw [show Lib.itoa 0 = [48] by unfold Lib.itoa; rw [if_neg (by decide)]; exact Lib.decDigits_one (by decide)]; exact specFmt_zero w
  · by_cases hp : 0 < n
    · obtain ⟨u, rfl⟩ := Int.eq_ofNat_of_zero_le (show 0 ≤ n by omega)
      rw [← str_decI]; exact specFmt_pos u w (by omega) (by omega)
    · obtain ⟨u, hu⟩ := Int.eq_ofNat_of_zero_le (show 0 ≤ -n by omega)
      obtain rfl : n = -(u : Int) := by omega
      rw [← str_decI_neg u (by omega)]; exact specFmt_neg u w (by omega) (by omega)
/-- The library's table reads as its text lays it. -/
def Tab (w : World) : Prop := Lib.TabIs Tryd.prog w "internal/strconv.uint64pow10" .u64 Lib.pow10Tab
theorem Tab.on {w w' : World} (h : Tab w) (hb : Below w.heap.size w w') : Tab w' := Lib.tabBelow_of_tabIs h w' hb
theorem implFmt (n : Int) (w : World) (h0 : -9223372036854775808 ≤ n) (h1 : n ≤ 9223372036854775807) (htab : Tab w) : Calls Tryd.prog 54 #[.int .i64 n] w fun e w' => e = .returned (.string ⟨(Lib.itoa n).toArray⟩) ∧ Below w.heap.size w w' := by
  have H := Lib.hid htab; clear htab
  go_enter Tryd.func54, Tryd.ntmps54
  go_wp2_with (go_at_call 62; refine (Tryd.strconv_Itoa n h0 h1 _ H.out).mono ?_; rintro e w' ⟨rfl, k, os, rfl⟩)
  go_ret
  exact ⟨rfl, Lib.below_grow _ _ (Nat.le_refl _) k os⟩
end Go.Proofs.YtnfmhiephdhopaaDoor
namespace Go.Proofs.YtnfmhiephdhopaaDoor
/-- The runs of adjacent numbers. -/
def runs : List Int → List (Int × Int)
  | [] => []
  | x :: r => match runs r with
    | [] => [(x, x)]
    | (a, b) :: t => if a = x + 1 then (x, b) :: t else (x, x) :: (a, b) :: t
theorem runs_cons (x : Int) (r : List Int) : ∃ b t, runs (x :: r) = (x, b) :: t := by
  simp only [runs]
  split
  · exact ⟨x, [], rfl⟩
  · split
    · exact ⟨_, _, rfl⟩
    · exact ⟨_, _, rfl⟩
theorem runs_join {x y : Int} {r : List Int} {b : Int} {t : List (Int × Int)} (h : y = x + 1) (e : runs (y :: r) = (y, b) :: t) : runs (x :: y :: r) = (x, b) :: t := by
  rw [runs, e]; simp only [if_pos h]
theorem runs_part {x y : Int} {r : List Int} (h : y ≠ x + 1) : runs (x :: y :: r) = (x, x) :: runs (y :: r) := by
  obtain ⟨b, t, e⟩ := runs_cons y r
  rw [runs, e]; simp only [if_neg h]
/-- The greatest run that begins at i ends at i + n. -/
theorem run_max (l : List Int) : ∀ (n i : Nat), i + n < l.length → (∀ j, j < n → l.getD (i + j + 1) 0 = l.getD (i + j) 0 + 1) → (i + n + 1 < l.length → l.getD (i + n + 1) 0 ≠ l.getD (i + n) 0 + 1) →
    runs (l.drop i) = (l.getD i 0, l.getD (i + n) 0) :: runs (l.drop (i + n + 1)) := by
  have hd : ∀ i, i < l.length → l.drop i = l.getD i 0 :: l.drop (i + 1) := by
    intro i hi
    rw [List.drop_eq_getElem_cons hi]; simp [List.getD, hi]
  intro n
  induction n with
  | zero =>
    intro i hi _ hm
    rw [hd i (by omega)]
    by_cases h1 : i + 1 < l.length
    · rw [show i + 0 + 1 = i + 1 from rfl, hd (i + 1) h1]
      rw [runs_part (by simpa using hm (by omega))]
      rfl
    · rw [List.drop_eq_nil_of_le (show l.length ≤ i + 1 by omega)]
      rfl
  | succ n ih =>
    intro i hi hc hm
    have h1 := ih (i + 1) (by omega) (fun j hj => by have := hc (j + 1) (by omega); rw [show i + 1 + j + 1 = i + (j + 1) + 1 by omega, show i + 1 + j = i + (j + 1) by omega]; exact this)
      (fun hl => by rw [show i + 1 + n + 1 = i + (n + 1) + 1 by omega, show i + 1 + n = i + (n + 1) by omega]; exact hm (by omega))
    have h0 := hc 0 (by omega)
    rw [hd i (by omega), hd (i + 1) (by omega)]
    rw [hd (i + 1) (by omega)] at h1
    rw [runs_join (by simpa using h0) h1, show i + 1 + n = i + (n + 1) by omega]
/-- The text of a run. -/
def runText (r : Int × Int) : List UInt8 := if r.1 = r.2 then Lib.itoa r.1 else Lib.itoa r.1 ++ 45 :: Lib.itoa r.2
/-- The texts of runs behind the text s. -/
def glue (s : List UInt8) : List (Int × Int) → List UInt8
  | [] => s
  | r :: t => glue ((if s = [] then s else s ++ [32]) ++ runText r) t
/-- FormatSet of a set. -/
def fmtRuns (l : List Int) : List UInt8 := if l = [] then [110, 111, 110, 101] else glue [] (runs l)
theorem itoa_ne (n : Int) : Lib.itoa n ≠ [] := by
  unfold Lib.itoa
  split
  · simp
  · unfold Lib.decDigits; split <;> simp
theorem runText_ne (r : Int × Int) : runText r ≠ [] := by
  unfold runText; split
  · exact itoa_ne _
  · simp
theorem runText_len (r : Int × Int) (h1 : -9223372036854775808 ≤ r.1 ∧ r.1 ≤ 9223372036854775807) (h2 : -9223372036854775808 ≤ r.2 ∧ r.2 ≤ 9223372036854775807) : (runText r).length ≤ 43 := by
  have a := Lib.itoa_length_le r.1 h1.1 h1.2
  have b := Lib.itoa_length_le r.2 h2.1 h2.2
  unfold runText; split
  · omega
  · simp; omega
/-- n numbers from f on. -/
def upN (f : Int) (n : Nat) : List Int := (List.range n).map (fun (i : Nat) => f + (i : Int))
end Go.Proofs.YtnfmhiephdhopaaDoor
namespace Go.Proofs.YtnfmhiephdhopaaDoor
open Go.RowKit
set_option linter.unusedVariables false
/-- A text as a string. -/
def strB (l : List UInt8) : ByteArray := ⟨l.toArray⟩
theorem strB_size (l : List UInt8) : (strB l).size = l.length := by simp [strB, ByteArray.size]
theorem strB_add (a b : List UInt8) (h : a.length + b.length ≤ 1073741824) (w : World) : (Op.stringOp .add (strB a) (strB b)).run Tryd.prog w = .ok (.string (strB (a ++ b))) w := by
  rw [run_string_add_sum w _ _ (by rw [strB_size, strB_size]; omega)]
  congr 2
theorem strB_toList (l : List UInt8) : (strB l).toList = l := by rw [ByteArray.toList_eq]; rfl
theorem strB_none {l : List UInt8} (h : l = []) : (strB l).toList = [] ∧ (strB l).toList.isEmpty = true := by rw [strB_toList, h]; exact ⟨rfl, rfl⟩
theorem strB_some {l : List UInt8} (h : l ≠ []) : ¬ (strB l).toList = [] ∧ (strB l).toList.isEmpty = false := by
  rw [strB_toList]
  cases l with
  | nil => exact absurd rfl h
  | cons a r => exact ⟨by simp, rfl⟩
theorem fmtB (n : Int) (w : World) (h0 : 0 ≤ n) (h1 : n ≤ 23) : Calls Tryd.prog 33 #[.int .i64 n] w fun e w' => e = .returned (.string (strB (Lib.itoa n))) ∧ Below w.heap.size w w' := specFmt n w (by omega) (by omega)
theorem set_ge {l : List Int} (h : SetL l) : ∀ i, i < l.length → (i : Int) ≤ l.getD i 0 := by
  intro i
  induction i with
  | zero => intro hi; have := h.1 0 hi; omega
  | succ i ih => intro hi; have h1 := ih (by omega); have h2 := h.2 i hi; omega
theorem set_len {l : List Int} (h : SetL l) : l.length ≤ 24 := by
  by_cases h0 : l.length = 0
  · omega
  · have h1 := set_ge h (l.length - 1) (by omega)
    have h2 := h.1 (l.length - 1) (by omega)
    omega
/-- FormatSet. -/
def fmtSet (l : List Int) : List UInt8 := if setB l then fmtRuns l else []
theorem fmtSet_no {l : List Int} (h : setB l = false) : fmtSet l = [] := by unfold fmtSet; rw [h]; rfl
theorem fmtSet_nil : fmtSet [] = [110, 111, 110, 101] := rfl
theorem fmtSet_yes {l : List Int} (h : setB l = true) (h0 : l ≠ []) : fmtSet l = glue [] (runs l) := by unfold fmtSet fmtRuns; rw [h, if_neg h0]; rfl
theorem glue_one (s : List UInt8) (r : Int × Int) (t : List (Int × Int)) : glue s (r :: t) = glue ((if s = [] then s else s ++ [32]) ++ runText r) t := rfl
theorem text_one {x y : Int} (h : x = y) : runText (x, y) = Lib.itoa x := by unfold runText; rw [if_pos h]
theorem text_two {x y : Int} (h : x ≠ y) : runText (x, y) = Lib.itoa x ++ 45 :: Lib.itoa y := by unfold runText; rw [if_neg h]
theorem ret_s {a b : List UInt8} (h : a = b) : Ending.returned (.string (strB a)) = .returned (.string (strB b)) := by rw [h]
theorem run_up (l : List Int) (i n : Nat) (h : ∀ j, j < n → l.getD (i + j + 1) 0 = l.getD (i + j) 0 + 1) : l.getD (i + n) 0 = l.getD i 0 + n := by
  induction n with
  | zero => simp
  | succ n ih => have h1 := ih (fun j hj => h j (by omega)); have h2 := h n (by omega); rw [show i + (n + 1) = i + n + 1 by omega, h2, h1]; omega
theorem below_step {q : Nat} {w wr w5 : World} (h : Below w.heap.size w wr) (h5 : Below (wr.drewN q).heap.size (wr.drewN q) w5) : Below w.heap.size w w5 := by
  have h2 : Below w.heap.size w (wr.drewN q) := below_same h rfl rfl rfl rfl
  exact h2.trans (h5.mono h2.size)
theorem specFmtSet_no (v : Value) (xs : List Int) (w : World) (h : Ints w v xs) (hn : xs.length ≤ 1073741824) (hs : setB xs = false) :
    Calls Tryd.prog 18 #[v] w fun e w' => e = .returned (.string (strB (fmtSet xs))) ∧ Below w.heap.size w w' := by
  have H := Lib.hid h
  have HS := Lib.hid hs
  have HE := Lib.hid (fmtSet_no hs)
  clear h hs
  go_enter Tryd.func18, Tryd.ntmps18
  go_wp2_with fail
  refine (specIsSetBig v xs _ H.out hn).mono ?_
  rintro e w1 ⟨rfl, b1⟩
  rw [HS.out]
  go_wp2
  go_ret
  exact ⟨ret_s HE.out.symm, b1⟩
set_option maxHeartbeats 16000000 in
set_option maxRecDepth 100000 in
theorem specFmtSet_yes (v : Value) (xs : List Int) (w : World) (h : Ints w v xs) (hn : xs.length ≤ 1073741824) (hs : setB xs = true) :
    Calls Tryd.prog 18 #[v] w fun e w' => e = .returned (.string (strB (fmtSet xs))) ∧ Below w.heap.size w w' := by
  have hset := (setB_iff xs).1 hs
  have hl24 := set_len hset
  have H := Lib.hid h
  have HS := Lib.hid hs
  have HR := Lib.hid hset.1
  obtain ⟨a, cap, rfl⟩ := ints_len h
  clear h hs hset
  go_enter Tryd.func18, Tryd.ntmps18
  go_wp2_with fail
  refine (specIsSetBig _ xs _ H.out hn).mono ?_
  rintro e w1 ⟨rfl, b1⟩
  rw [HS.out]
  go_wp2
  go_loopw [3, 4] (fun s i wr => ∃ (k : Nat) (t : List UInt8), k ≤ xs.length ∧ i = .int .i64 k ∧ s = .string (strB t) ∧ t.length ≤ 45 * k ∧ Below w.heap.size w wr ∧ Hid (glue t (runs (xs.drop k)) = glue [] (runs xs)) ∧ Hid (t = [] ↔ k = 0)) (fun _ i _ => xs.length - (intOf i).toNat)
  case atStart => exact ⟨0, [], Nat.zero_le _, rfl, rfl, by simp, b1, Lib.hid rfl, Lib.hid ⟨fun _ => rfl, fun _ => rfl⟩⟩
  case round =>
    obtain ⟨k, t, hk, rfl, rfl, htl, hbel, hgl, hte⟩ := hrel
    clear b1
    by_cases hlt : k < xs.length
    · obtain ⟨b, off, cap', hv, hbl, hc⟩ := ints_cell H.out (by omega)
      simp only [Value.slice.injEq] at hv
      obtain ⟨rfl, _, rfl⟩ := hv
      have HC := Lib.hid hc
      clear hc
      obtain ⟨wo, hwo⟩ : ∃ wo : World, wo = wr := ⟨_, rfl⟩
      subst hwo
      have i1 : (0 : Int) ≤ (k : Int) := by omega
      have i2 : (k : Int) < (xs.length : Int) := by omega
      go_wp2
      go_loopw [5] (fun j wr => ∃ n : Nat, k + n < xs.length ∧ j = .int .i64 ((k + n : Nat) : Int) ∧ Below w.heap.size w wr ∧ Hid (∀ j, j < n → xs.getD (k + j + 1) 0 = xs.getD (k + j) 0 + 1)) (fun j _ => xs.length - (intOf j).toNat)
      case atStart => exact ⟨0, by omega, rfl, hbel, Lib.hid (fun j hj => by omega)⟩
      case round =>
        obtain ⟨n, hkn, rfl, hbel2, hcon⟩ := hrel
        clear hbel
        have hcell := (hbel2.cell (p := ⟨b, off + (k + n), none⟩) hbl).trans (HC.out (k + n) hkn)
        have hcellk := (hbel2.cell (p := ⟨b, off + k, none⟩) hbl).trans (HC.out k hlt)
        have hrk := HR.out k hlt
        have hrm := HR.out (k + n) hkn
        have HUP := Lib.hid (run_up xs k n hcon.out)
        generalize hm : k + n = m at *
        by_cases hn1 : m + 1 < xs.length
        · have hcell1 := (hbel2.cell (p := ⟨b, off + (m + 1), none⟩) hbl).trans (HC.out (m + 1) hn1)
          have i3 : (0 : Int) ≤ (m : Int) + 1 := by omega
          have i4 : (m : Int) + 1 < (xs.length : Int) := by omega
          have i5 : (0 : Int) ≤ (m : Int) := by omega
          have i6 : (m : Int) < (xs.length : Int) := by omega
          have e1 : IntKind.i64.wrap ((m : Int) + 1) = (m : Int) + 1 := IntWalk.i64_in _ (by omega)
          have e2 : IntKind.i64.wrap (xs.getD m 0 + 1) = xs.getD m 0 + 1 := IntWalk.i64_in _ (by omega)
          have i7 : ((m : Int) + 1).toNat = m + 1 := by omega
          by_cases hne : xs.getD (m + 1) 0 = xs.getD m 0 + 1
          · have HN : Hid (∀ j, j < n + 1 → xs.getD (k + j + 1) 0 = xs.getD (k + j) 0 + 1) := Lib.hid (fun j hj => by
              by_cases e : j = n
              · rw [e, hm]; exact hne
              · exact hcon.out j (by omega))
            have heq : (xs.getD (m + 1) 0 == xs.getD m 0 + 1) = true := by rw [beq_iff_eq]; exact hne
            have HMK := Lib.hid hm
            clear hne hm hcellk HUP
            generalize xs.getD (m + 1) 0 = z at *
            generalize xs.getD m 0 = y at *
            clear hcon
            go_wp2_with fail
            go_quiet (fail)
            go_wp2
            go_roundw
            case rel => exact ⟨n + 1, by have := HMK.out; omega, by have := HMK.out; go_num, below_same hbel2 rfl rfl rfl rfl, HN⟩
            case measure => simp [intOf]; omega
          · have heq : (xs.getD (m + 1) 0 == xs.getD m 0 + 1) = false := by rw [beq_eq_false_iff_ne]; exact hne
            have HNE := Lib.hid hne
            clear hne
            generalize hz : xs.getD (m + 1) 0 = z at hcell1 heq
            clear hz
            have HM : Hid (runs (xs.drop k) = (xs.getD k 0, xs.getD m 0) :: runs (xs.drop (m + 1))) := Lib.hid (by rw [← hm]; exact run_max xs n k (by omega) hcon.out (by rw [hm]; exact fun _ => HNE.out))
            have HG : Hid (glue ((if t = [] then t else t ++ [32]) ++ runText (xs.getD k 0, xs.getD m 0)) (runs (xs.drop (m + 1))) = glue [] (runs xs)) := Lib.hid (by rw [← glue_one, ← HM.out]; exact hgl.out)
            clear HM hgl hcon
            generalize hx : xs.getD k 0 = x at *
            obtain ⟨x0, x1⟩ := hrk
            generalize hy : xs.getD m 0 = y at *
            obtain ⟨y0, y1⟩ := hrm
            have hlx := Lib.hid (Lib.itoa_length_le x (by omega) (by omega))
            have hly := Lib.hid (Lib.itoa_length_le y (by omega) (by omega))
            have HXY : Hid (y = x + (n : Int)) := Lib.hid HUP.out
            clear HUP hx hy
            have HKM : Hid (m = k + n) := Lib.hid hm.symm
            have hkm : k ≤ m := by omega
            clear hm
            by_cases ht : t = []
            · have f := strB_none ht
              obtain ⟨f1, f2⟩ := f
              have HG2 : Hid (glue (t ++ runText (x, y)) (runs (xs.drop (m + 1))) = glue [] (runs xs)) := Lib.hid (by have := HG.out; rwa [if_pos ht] at this)
              have d2 := strB_add t (Lib.itoa x) (by have := hlx.out; omega)
              clear HG ht
              by_cases hn0 : n = 0
              · have hxy : x = y := by have := HXY.out; omega
                have hmk : m = k := by have := HKM.out; omega
                have HF : Hid (glue (t ++ Lib.itoa x) (runs (xs.drop (m + 1))) = glue [] (runs xs)) := Lib.hid (by have := HG2.out; rwa [text_one hxy] at this)
                have HT : Hid (t ++ Lib.itoa x = [] ↔ m + 1 = 0) := Lib.hid ⟨fun g => absurd (List.append_eq_nil_iff.1 g).2 (itoa_ne _), fun g => by omega⟩
                have HLEN : Hid ((t ++ Lib.itoa x).length ≤ 45 * (m + 1)) := Lib.hid (by have := hlx.out; simp; omega)
                have hgt : decide (k < m) = false := by rw [decide_eq_false_iff_not]; omega
                have HMK := Lib.hid hmk
                clear hxy hn0 hmk HG2
                go_wp2_with fail
                go_quiet (fail)
                go_wp2_with (go_at_call 33; refine (fmtB x _ x0 x1).mono ?_; rintro e w5 ⟨rfl, hb5⟩)
                go_roundw
                case rel => exact ⟨m + 1, t ++ Lib.itoa x, by omega, by go_num, by simp, HLEN.out, below_step hbel2 hb5, HF, HT⟩
                case measure => simp [intOf]; omega
              · have hxy : x ≠ y := by have := HXY.out; omega
                have HF : Hid (glue (t ++ Lib.itoa x ++ [45] ++ Lib.itoa y) (runs (xs.drop (m + 1))) = glue [] (runs xs)) := Lib.hid (by have := HG2.out; rw [text_two hxy] at this; simpa using this)
                have HT : Hid (t ++ Lib.itoa x ++ [45] ++ Lib.itoa y = [] ↔ m + 1 = 0) := Lib.hid ⟨fun g => absurd (List.append_eq_nil_iff.1 g).2 (itoa_ne _), fun g => by omega⟩
                have HLEN : Hid ((t ++ Lib.itoa x ++ [45] ++ Lib.itoa y).length ≤ 45 * (m + 1)) := Lib.hid (by have := hlx.out; have := hly.out; have := HKM.out; simp; omega)
                have hgt : k < m := by have := HKM.out; omega
                have d3 : ∀ w, (Op.stringOp .add (strB (t ++ Lib.itoa x)) ⟨#[45]⟩).run Tryd.prog w = .ok (.string (strB (t ++ Lib.itoa x ++ [45]))) w := strB_add (t ++ Lib.itoa x) [45] (by have := hlx.out; simp; omega)
                have d4 := strB_add (t ++ Lib.itoa x ++ [45]) (Lib.itoa y) (by have := hlx.out; have := hly.out; simp; omega)
                simp only [List.append_assoc, List.cons_append, List.nil_append] at d4
                clear hxy hn0 HG2
                go_wp2_with fail
                go_quiet (fail)
                go_wp2_with fail
                refine (fmtB x _ x0 x1).mono ?_
                rintro e w5 ⟨rfl, hb5⟩
                have hb6 := below_step hbel2 hb5
                have hcell6 := (hb6.cell (p := ⟨b, off + m, none⟩) hbl).trans ((hbel2.cell (p := ⟨b, off + m, none⟩) hbl).symm.trans hcell)
                clear hb5 hcellk hcell
                go_wp2_with fail
                refine (fmtB y _ y0 y1).mono ?_
                rintro e w6 ⟨rfl, hb7⟩
                go_wp2
                go_roundw
                case rel => exact ⟨m + 1, t ++ Lib.itoa x ++ [45] ++ Lib.itoa y, by omega, by go_num, by simp, HLEN.out, hb6.trans (hb7.mono hb6.size), HF, HT⟩
                case measure => simp [intOf]; omega
            · have f := strB_some ht
              obtain ⟨f1, f2⟩ := f
              have HG2 : Hid (glue ((t ++ [32]) ++ runText (x, y)) (runs (xs.drop (m + 1))) = glue [] (runs xs)) := Lib.hid (by have := HG.out; rwa [if_neg ht] at this)
              have d1 : ∀ w, (Op.stringOp .add (strB t) ⟨#[32]⟩).run Tryd.prog w = .ok (.string (strB (t ++ [32]))) w := strB_add t [32] (by simp; omega)
              have d2 := strB_add (t ++ [32]) (Lib.itoa x) (by have := hlx.out; simp; omega)
              clear HG ht
              by_cases hn0 : n = 0
              · have hxy : x = y := by have := HXY.out; omega
                have hmk : m = k := by have := HKM.out; omega
                have HF : Hid (glue ((t ++ [32]) ++ Lib.itoa x) (runs (xs.drop (m + 1))) = glue [] (runs xs)) := Lib.hid (by have := HG2.out; rwa [text_one hxy] at this)
                have HT : Hid ((t ++ [32]) ++ Lib.itoa x = [] ↔ m + 1 = 0) := Lib.hid ⟨fun g => absurd (List.append_eq_nil_iff.1 g).2 (itoa_ne _), fun g => by omega⟩
                have HLEN : Hid (((t ++ [32]) ++ Lib.itoa x).length ≤ 45 * (m + 1)) := Lib.hid (by have := hlx.out; simp; omega)
                have hgt : decide (k < m) = false := by rw [decide_eq_false_iff_not]; omega
                have HMK := Lib.hid hmk
                clear hxy hn0 hmk HG2
                go_wp2_with fail
                go_quiet (fail)
                go_wp2_with (go_at_call 33; refine (fmtB x _ x0 x1).mono ?_; rintro e w5 ⟨rfl, hb5⟩)
                go_roundw
                case rel => exact ⟨m + 1, (t ++ [32]) ++ Lib.itoa x, by omega, by go_num, by simp, HLEN.out, below_step hbel2 hb5, HF, HT⟩
                case measure => simp [intOf]; omega
              · have hxy : x ≠ y := by have := HXY.out; omega
                have HF : Hid (glue ((t ++ [32]) ++ Lib.itoa x ++ [45] ++ Lib.itoa y) (runs (xs.drop (m + 1))) = glue [] (runs xs)) := Lib.hid (by have := HG2.out; rw [text_two hxy] at this; simpa using this)
                have HT : Hid ((t ++ [32]) ++ Lib.itoa x ++ [45] ++ Lib.itoa y = [] ↔ m + 1 = 0) := Lib.hid ⟨fun g => absurd (List.append_eq_nil_iff.1 g).2 (itoa_ne _), fun g => by omega⟩
                have HLEN : Hid (((t ++ [32]) ++ Lib.itoa x ++ [45] ++ Lib.itoa y).length ≤ 45 * (m + 1)) := Lib.hid (by have := hlx.out; have := hly.out; have := HKM.out; simp; omega)
                have hgt : k < m := by have := HKM.out; omega
                have d3 : ∀ w, (Op.stringOp .add (strB ((t ++ [32]) ++ Lib.itoa x)) ⟨#[45]⟩).run Tryd.prog w = .ok (.string (strB ((t ++ [32]) ++ Lib.itoa x ++ [45]))) w := strB_add ((t ++ [32]) ++ Lib.itoa x) [45] (by have := hlx.out; simp; omega)
                have d4 := strB_add ((t ++ [32]) ++ Lib.itoa x ++ [45]) (Lib.itoa y) (by have := hlx.out; have := hly.out; simp; omega)
                simp only [List.append_assoc, List.cons_append, List.nil_append] at d4
                simp only [List.append_assoc, List.cons_append, List.nil_append] at d3
                clear hxy hn0 HG2
                go_wp2_with fail
                go_quiet (fail)
                go_wp2_with fail
                refine (fmtB x _ x0 x1).mono ?_
                rintro e w5 ⟨rfl, hb5⟩
                have hb6 := below_step hbel2 hb5
                have hcell6 := (hb6.cell (p := ⟨b, off + m, none⟩) hbl).trans ((hbel2.cell (p := ⟨b, off + m, none⟩) hbl).symm.trans hcell)
                clear hb5 hcellk hcell
                go_wp2_with fail
                refine (fmtB y _ y0 y1).mono ?_
                rintro e w6 ⟨rfl, hb7⟩
                go_wp2
                go_roundw
                case rel => exact ⟨m + 1, (t ++ [32]) ++ Lib.itoa x ++ [45] ++ Lib.itoa y, by omega, by go_num, by simp, HLEN.out, hb6.trans (hb7.mono hb6.size), HF, HT⟩
                case measure => simp [intOf]; omega
        · have i3 : ¬ ((m : Int) + 1 < (xs.length : Int)) := by omega
          have i4 : decide ((m : Int) + 1 < (xs.length : Int)) = false := decide_eq_false i3
          have i5 : (0 : Int) ≤ (m : Int) := by omega
          have i6 : (m : Int) < (xs.length : Int) := by omega
          have e1 : IntKind.i64.wrap ((m : Int) + 1) = (m : Int) + 1 := IntWalk.i64_in _ (by omega)
          have HM : Hid (runs (xs.drop k) = (xs.getD k 0, xs.getD m 0) :: runs (xs.drop (m + 1))) := Lib.hid (by rw [← hm]; exact run_max xs n k (by omega) hcon.out (by rw [hm]; exact fun g => absurd g hn1))
          have HG : Hid (glue ((if t = [] then t else t ++ [32]) ++ runText (xs.getD k 0, xs.getD m 0)) (runs (xs.drop (m + 1))) = glue [] (runs xs)) := Lib.hid (by rw [← glue_one, ← HM.out]; exact hgl.out)
          clear HM hgl hcon
          generalize hx : xs.getD k 0 = x at *
          obtain ⟨x0, x1⟩ := hrk
          generalize hy : xs.getD m 0 = y at *
          obtain ⟨y0, y1⟩ := hrm
          have hlx := Lib.hid (Lib.itoa_length_le x (by omega) (by omega))
          have hly := Lib.hid (Lib.itoa_length_le y (by omega) (by omega))
          have HXY : Hid (y = x + (n : Int)) := Lib.hid HUP.out
          clear HUP hx hy
          have HKM : Hid (m = k + n) := Lib.hid hm.symm
          have hkm : k ≤ m := by omega
          clear hm
          by_cases ht : t = []
          · have f := strB_none ht
            obtain ⟨f1, f2⟩ := f
            have HG2 : Hid (glue (t ++ runText (x, y)) (runs (xs.drop (m + 1))) = glue [] (runs xs)) := Lib.hid (by have := HG.out; rwa [if_pos ht] at this)
            have d2 := strB_add t (Lib.itoa x) (by have := hlx.out; omega)
            clear HG ht
            by_cases hn0 : n = 0
            · have hxy : x = y := by have := HXY.out; omega
              have hmk : m = k := by have := HKM.out; omega
              have HF : Hid (glue (t ++ Lib.itoa x) (runs (xs.drop (m + 1))) = glue [] (runs xs)) := Lib.hid (by have := HG2.out; rwa [text_one hxy] at this)
              have HT : Hid (t ++ Lib.itoa x = [] ↔ m + 1 = 0) := Lib.hid ⟨fun g => absurd (List.append_eq_nil_iff.1 g).2 (itoa_ne _), fun g => by omega⟩
              have HLEN : Hid ((t ++ Lib.itoa x).length ≤ 45 * (m + 1)) := Lib.hid (by have := hlx.out; simp; omega)
              have hgt : decide (k < m) = false := by rw [decide_eq_false_iff_not]; omega
              have HMK := Lib.hid hmk
              clear hxy hn0 hmk HG2
              go_wp2_with fail
              go_quiet (fail)
              go_wp2_with (go_at_call 33; refine (fmtB x _ x0 x1).mono ?_; rintro e w5 ⟨rfl, hb5⟩)
              go_roundw
              case rel => exact ⟨m + 1, t ++ Lib.itoa x, by omega, by go_num, by simp, HLEN.out, below_step hbel2 hb5, HF, HT⟩
              case measure => simp [intOf]; omega
            · have hxy : x ≠ y := by have := HXY.out; omega
              have HF : Hid (glue (t ++ Lib.itoa x ++ [45] ++ Lib.itoa y) (runs (xs.drop (m + 1))) = glue [] (runs xs)) := Lib.hid (by have := HG2.out; rw [text_two hxy] at this; simpa using this)
              have HT : Hid (t ++ Lib.itoa x ++ [45] ++ Lib.itoa y = [] ↔ m + 1 = 0) := Lib.hid ⟨fun g => absurd (List.append_eq_nil_iff.1 g).2 (itoa_ne _), fun g => by omega⟩
              have HLEN : Hid ((t ++ Lib.itoa x ++ [45] ++ Lib.itoa y).length ≤ 45 * (m + 1)) := Lib.hid (by have := hlx.out; have := hly.out; have := HKM.out; simp; omega)
              have hgt : k < m := by have := HKM.out; omega
              have d3 : ∀ w, (Op.stringOp .add (strB (t ++ Lib.itoa x)) ⟨#[45]⟩).run Tryd.prog w = .ok (.string (strB (t ++ Lib.itoa x ++ [45]))) w := strB_add (t ++ Lib.itoa x) [45] (by have := hlx.out; simp; omega)
              have d4 := strB_add (t ++ Lib.itoa x ++ [45]) (Lib.itoa y) (by have := hlx.out; have := hly.out; simp; omega)
              simp only [List.append_assoc, List.cons_append, List.nil_append] at d4
              clear hxy hn0 HG2
              go_wp2_with fail
              go_quiet (fail)
              go_wp2_with fail
              refine (fmtB x _ x0 x1).mono ?_
              rintro e w5 ⟨rfl, hb5⟩
              have hb6 := below_step hbel2 hb5
              have hcell6 := (hb6.cell (p := ⟨b, off + m, none⟩) hbl).trans ((hbel2.cell (p := ⟨b, off + m, none⟩) hbl).symm.trans hcell)
              clear hb5 hcellk hcell
              go_wp2_with fail
              refine (fmtB y _ y0 y1).mono ?_
              rintro e w6 ⟨rfl, hb7⟩
              go_wp2
              go_roundw
              case rel => exact ⟨m + 1, t ++ Lib.itoa x ++ [45] ++ Lib.itoa y, by omega, by go_num, by simp, HLEN.out, hb6.trans (hb7.mono hb6.size), HF, HT⟩
              case measure => simp [intOf]; omega
          · have f := strB_some ht
            obtain ⟨f1, f2⟩ := f
            have HG2 : Hid (glue ((t ++ [32]) ++ runText (x, y)) (runs (xs.drop (m + 1))) = glue [] (runs xs)) := Lib.hid (by have := HG.out; rwa [if_neg ht] at this)
            have d1 : ∀ w, (Op.stringOp .add (strB t) ⟨#[32]⟩).run Tryd.prog w = .ok (.string (strB (t ++ [32]))) w := strB_add t [32] (by simp; omega)
            have d2 := strB_add (t ++ [32]) (Lib.itoa x) (by have := hlx.out; simp; omega)
            clear HG ht
            by_cases hn0 : n = 0
            · have hxy : x = y := by have := HXY.out; omega
              have hmk : m = k := by have := HKM.out; omega
              have HF : Hid (glue ((t ++ [32]) ++ Lib.itoa x) (runs (xs.drop (m + 1))) = glue [] (runs xs)) := Lib.hid (by have := HG2.out; rwa [text_one hxy] at this)
              have HT : Hid ((t ++ [32]) ++ Lib.itoa x = [] ↔ m + 1 = 0) := Lib.hid ⟨fun g => absurd (List.append_eq_nil_iff.1 g).2 (itoa_ne _), fun g => by omega⟩
              have HLEN : Hid (((t ++ [32]) ++ Lib.itoa x).length ≤ 45 * (m + 1)) := Lib.hid (by have := hlx.out; simp; omega)
              have hgt : decide (k < m) = false := by rw [decide_eq_false_iff_not]; omega
              have HMK := Lib.hid hmk
              clear hxy hn0 hmk HG2
              go_wp2_with fail
              go_quiet (fail)
              go_wp2_with (go_at_call 33; refine (fmtB x _ x0 x1).mono ?_; rintro e w5 ⟨rfl, hb5⟩)
              go_roundw
              case rel => exact ⟨m + 1, (t ++ [32]) ++ Lib.itoa x, by omega, by go_num, by simp, HLEN.out, below_step hbel2 hb5, HF, HT⟩
              case measure => simp [intOf]; omega
            · have hxy : x ≠ y := by have := HXY.out; omega
              have HF : Hid (glue ((t ++ [32]) ++ Lib.itoa x ++ [45] ++ Lib.itoa y) (runs (xs.drop (m + 1))) = glue [] (runs xs)) := Lib.hid (by have := HG2.out; rw [text_two hxy] at this; simpa using this)
              have HT : Hid ((t ++ [32]) ++ Lib.itoa x ++ [45] ++ Lib.itoa y = [] ↔ m + 1 = 0) := Lib.hid ⟨fun g => absurd (List.append_eq_nil_iff.1 g).2 (itoa_ne _), fun g => by omega⟩
              have HLEN : Hid (((t ++ [32]) ++ Lib.itoa x ++ [45] ++ Lib.itoa y).length ≤ 45 * (m + 1)) := Lib.hid (by have := hlx.out; have := hly.out; have := HKM.out; simp; omega)
              have hgt : k < m := by have := HKM.out; omega
              have d3 : ∀ w, (Op.stringOp .add (strB ((t ++ [32]) ++ Lib.itoa x)) ⟨#[45]⟩).run Tryd.prog w = .ok (.string (strB ((t ++ [32]) ++ Lib.itoa x ++ [45]))) w := strB_add ((t ++ [32]) ++ Lib.itoa x) [45] (by have := hlx.out; simp; omega)
              have d4 := strB_add ((t ++ [32]) ++ Lib.itoa x ++ [45]) (Lib.itoa y) (by have := hlx.out; have := hly.out; simp; omega)
              simp only [List.append_assoc, List.cons_append, List.nil_append] at d4
              simp only [List.append_assoc, List.cons_append, List.nil_append] at d3
              clear hxy hn0 HG2
              go_wp2_with fail
              go_quiet (fail)
              go_wp2_with fail
              refine (fmtB x _ x0 x1).mono ?_
              rintro e w5 ⟨rfl, hb5⟩
              have hb6 := below_step hbel2 hb5
              have hcell6 := (hb6.cell (p := ⟨b, off + m, none⟩) hbl).trans ((hbel2.cell (p := ⟨b, off + m, none⟩) hbl).symm.trans hcell)
              clear hb5 hcellk hcell
              go_wp2_with fail
              refine (fmtB y _ y0 y1).mono ?_
              rintro e w6 ⟨rfl, hb7⟩
              go_wp2
              go_roundw
              case rel => exact ⟨m + 1, (t ++ [32]) ++ Lib.itoa x ++ [45] ++ Lib.itoa y, by omega, by go_num, by simp, HLEN.out, hb6.trans (hb7.mono hb6.size), HF, HT⟩
              case measure => simp [intOf]; omega
    · obtain rfl : k = xs.length := by omega
      have hg := hgl.out
      rw [List.drop_eq_nil_of_le (Nat.le_refl _)] at hg
      have hg2 : t = glue [] (runs xs) := hg
      by_cases h0 : xs = []
      · have ht : t = [] := hte.out.2 (by rw [h0]; rfl)
        obtain ⟨f1, f2⟩ := strB_none ht
        have HE : Hid (fmtSet xs = [110, 111, 110, 101]) := Lib.hid (by rw [h0]; exact fmtSet_nil)
        clear hg hg2 h0 ht
        go_wp2_with fail
        go_ret
        exact ⟨ret_s HE.out.symm, hbel⟩
      · have ht : t ≠ [] := fun g => h0 (List.eq_nil_of_length_eq_zero (hte.out.1 g))
        obtain ⟨f1, f2⟩ := strB_some ht
        have HE : Hid (fmtSet xs = t) := Lib.hid (by rw [fmtSet_yes HS.out h0]; exact hg2.symm)
        clear hg hg2 h0 ht
        go_wp2_with fail
        go_ret
        exact ⟨ret_s HE.out.symm, hbel⟩
/-- FormatSet returns the text 'fmtSet'. -/
theorem specFmtSetBig (v : Value) (xs : List Int) (w : World) (h : Ints w v xs) (hn : xs.length ≤ 1073741824) :
    Calls Tryd.prog 18 #[v] w fun e w' => e = .returned (.string (strB (fmtSet xs))) ∧ Below w.heap.size w w' := by
  cases hs : setB xs
  · exact specFmtSet_no v xs w h hn hs
  · exact specFmtSet_yes v xs w h hn hs
theorem specFmtSet (v : Value) (xs : List Int) (w : World) (h : Ints w v xs) (hn : xs.length ≤ 1048576) :
    Calls Tryd.prog 18 #[v] w fun e w' => e = .returned (.string (strB (fmtSet xs))) ∧ Below w.heap.size w w' := specFmtSetBig v xs w h (by omega)
end Go.Proofs.YtnfmhiephdhopaaDoor
namespace Go.Proofs.YtnfmhiephdhopaaDoor
open Go.RowKit
set_option linter.unusedVariables false
/-- The pieces of a text, cut at each b; p is the piece under way. -/
def cutGo (b : UInt8) : List UInt8 → List UInt8 → List (List UInt8)
  | p, [] => [p]
  | p, c :: r => if c = b then p :: cutGo b [] r else cutGo b (p ++ [c]) r
def cutL (b : UInt8) (l : List UInt8) : List (List UInt8) := cutGo b [] l
theorem cutGo_len (b : UInt8) : ∀ (l p : List UInt8), (cutGo b p l).length ≤ l.length + 1 := by
  intro l
  induction l with
  | nil => intro p; simp [cutGo]
  | cons c r ih =>
    intro p
    unfold cutGo
    split
    · have := ih []; simp; omega
    · have := ih (p ++ [c]); simp; omega
end Go.Proofs.YtnfmhiephdhopaaDoor
namespace Go.Proofs.YtnfmhiephdhopaaDoor
/-- Is the byte a decimal digit? -/
def dig (b : UInt8) : Bool := decide (48 ≤ b.toNat) && decide (b.toNat ≤ 57)
/-- The number that the digits among the bytes spell. -/
def dval (l : List UInt8) : Nat := l.foldl (fun n b => if dig b then n * 10 + (b.toNat - 48) else n) 0
/-- How many digits are among the bytes. -/
def dcnt (l : List UInt8) : Nat := (l.filter dig).length
theorem dval_snoc (l : List UInt8) (b : UInt8) : dval (l ++ [b]) = if dig b then dval l * 10 + (b.toNat - 48) else dval l := by simp [dval]
theorem dcnt_snoc (l : List UInt8) (b : UInt8) : dcnt (l ++ [b]) = if dig b then dcnt l + 1 else dcnt l := by
  simp only [dcnt, List.filter_append, List.length_append]
  cases h : dig b <;> simp [h]
theorem dig_iff (b : UInt8) : dig b = true ↔ 48 ≤ b.toNat ∧ b.toNat ≤ 57 := by simp [dig]
theorem dval_lt (l : List UInt8) : dval l < 10 ^ dcnt l := by
  have h : ∀ r : List UInt8, dval r.reverse < 10 ^ dcnt r.reverse := by
    intro r
    induction r with
    | nil => simp [dval, dcnt]
    | cons b r ih =>
      rw [List.reverse_cons, dval_snoc, dcnt_snoc]
      by_cases hb : dig b = true
      · rw [if_pos hb, if_pos hb, Nat.pow_succ]; have := (dig_iff b).1 hb; omega
      · rw [if_neg hb, if_neg hb]; exact ih
  have := h l.reverse
  simpa using this
theorem dcnt_le (l : List UInt8) : dcnt l ≤ l.length := List.length_filter_le _ _
theorem dval_lt9 (l : List UInt8) (h : dcnt l ≤ 9) : dval l ≤ 999999999 := by
  have h1 := dval_lt l
  have h2 : 10 ^ dcnt l ≤ 10 ^ 9 := Nat.pow_le_pow_right (by omega) h
  omega
theorem digits_dec (u : Nat) : dval (Lib.decDigits u) = u ∧ (∀ b ∈ Lib.decDigits u, dig b = true) := by
  induction u using Nat.strongRecOn with
  | _ u ih =>
    by_cases h : u < 10
    · rw [Lib.decDigits_one h]
      have hb : dig (UInt8.ofNat (48 + u)) = true := by rw [dig_iff, UInt8.toNat_ofNat']; omega
      refine ⟨?_, by intro b hb'; rw [List.mem_singleton] at hb'; rw [hb']; exact hb⟩
      have := dval_snoc [] (UInt8.ofNat (48 + u))
      rw [if_pos hb] at this
      rw [List.nil_append] at this
      rw [this, UInt8.toNat_ofNat']
      simp [dval]; omega
    · obtain ⟨h1, h2⟩ := ih (u / 10) (by omega)
      have hb : dig (UInt8.ofNat (48 + u % 10)) = true := by rw [dig_iff, UInt8.toNat_ofNat']; omega
      rw [Lib.decDigits, dif_neg h]
      refine ⟨?_, ?_⟩
      · rw [dval_snoc, if_pos hb, h1, UInt8.toNat_ofNat']; omega
      · intro b hb'
        rcases List.mem_append.1 hb' with h3 | h3
        · exact h2 b h3
        · rw [List.mem_singleton] at h3; rw [h3]; exact hb
theorem dcnt_all (l : List UInt8) (h : ∀ b ∈ l, dig b = true) : dcnt l = l.length := by
  unfold dcnt; rw [List.filter_eq_self.2 h]
theorem dec_ne (u : Nat) : Lib.decDigits u ≠ [] := by
  rw [← decI_digits]
  intro h
  have h1 := congrArg List.length h
  by_cases h2 : u < 10
  · rw [decI_small u h2] at h1; simp at h1
  · rw [decI_big u (by omega)] at h1; simp at h1
/-- Does the text begin with a minus? -/
def neg (l : List UInt8) : Bool := l.head? == some 45
/-- The text behind a leading minus. -/
def trim (l : List UInt8) : List UInt8 := if neg l then l.tail else l
/-- The number that the text spells, if it spells one. -/
def sval (l : List UInt8) : Int := if neg l then -(dval l : Int) else dval l
theorem neg_cons {l : List UInt8} (h : neg l = true) : ∃ r, l = 45 :: r := by
  cases l with
  | nil => simp [neg] at h
  | cons a r => simp [neg] at h; exact ⟨r, by rw [h]⟩
theorem dval_trim (l : List UInt8) : dval (trim l) = dval l := by
  unfold trim; split
  · obtain ⟨r, rfl⟩ := neg_cons (by assumption); rfl
  · rfl
theorem dcnt_trim (l : List UInt8) : dcnt (trim l) = dcnt l := by
  unfold trim; split
  · obtain ⟨r, rfl⟩ := neg_cons (by assumption); rfl
  · rfl
/-- ParseInt. -/
def parI (l : List UInt8) : Int × Bool := if Lib.itoa (sval l) = l ∧ dcnt l ≤ 9 then (sval l, true) else (0, false)
theorem par_facts {l : List UInt8} (h : Lib.itoa (sval l) = l) (hc : dcnt l ≤ 9) : l.length ≤ 10 ∧ (trim l).length ≤ 9 ∧ ∀ b ∈ trim l, dig b = true := by
  have key : ∃ u, (trim l = Lib.decDigits u) ∧ l.length ≤ (trim l).length + 1 := by
    unfold Lib.itoa at h
    split at h
    · refine ⟨(sval l).natAbs, ?_, ?_⟩
      · generalize (sval l).natAbs = q at h ⊢; rw [← h]; rfl
      · generalize (sval l).natAbs = q at h ⊢; rw [← h]; simp [trim, neg]
    · refine ⟨(sval l).toNat, ?_, ?_⟩
      · have hn : neg l = false := by
          rw [← h]
          cases hd : Lib.decDigits (sval l).toNat with
          | nil => exact absurd hd (dec_ne _)
          | cons a r =>
            have := (digits_dec (sval l).toNat).2 a (by rw [hd]; simp)
            have h2 := (dig_iff a).1 this
            simp only [neg, List.head?_cons]
            have : a ≠ 45 := by intro e; rw [e] at h2; simp at h2
            simp [this]
        unfold trim; rw [hn]; simp [h]
      · unfold trim; split <;> simp; omega
  obtain ⟨u, hu, hl⟩ := key
  have hall : ∀ b ∈ trim l, dig b = true := by rw [hu]; exact (digits_dec u).2
  have h9 : (trim l).length ≤ 9 := by rw [← dcnt_all _ hall, dcnt_trim]; exact hc
  exact ⟨by omega, h9, hall⟩
theorem parI_ok {l : List UInt8} (h : Lib.itoa (sval l) = l) (hc : dcnt l ≤ 9) : parI l = (sval l, true) := by unfold parI; rw [if_pos ⟨h, hc⟩]
theorem parI_text {l : List UInt8} (h : Lib.itoa (sval l) ≠ l) : parI l = (0, false) := by unfold parI; rw [if_neg (fun g => h g.1)]
theorem parI_long' {l : List UInt8} (h : 9 < (trim l).length) : parI l = (0, false) := by unfold parI; rw [if_neg (fun g => by have := (par_facts g.1 g.2).2.1; omega)]
theorem parI_digit {l : List UInt8} {b : UInt8} (hb : b ∈ trim l) (h : dig b = false) : parI l = (0, false) := by
  unfold parI; rw [if_neg (fun g => by have := (par_facts g.1 g.2).2.2 b hb; rw [h] at this; cases this)]
theorem trim_cut (l : List UInt8) : Lib.trimPrefix l [45] = trim l ∧ Lib.hasPrefix l [45] = neg l := by
  unfold Lib.trimPrefix trim Lib.hasPrefix neg
  cases l with
  | nil => simp
  | cons a r =>
    simp only [List.head?_cons, List.isPrefixOf]
    by_cases h : a = 45
    · subst h; simp
    · have h1 : (45 == a) = false := by rw [beq_eq_false_iff_ne]; exact Ne.symm h
      have h2 : (a == 45) = false := by rw [beq_eq_false_iff_ne]; exact h
      simp [h1, h2]
end Go.Proofs.YtnfmhiephdhopaaDoor
namespace Go.Proofs.YtnfmhiephdhopaaDoor
theorem take_snoc (s : ByteArray) (k : Nat) (h : k < s.size) : s.data.toList.take (k + 1) = s.data.toList.take k ++ [s[k]] := by
  rw [List.take_succ_eq_append_getElem (by simpa using h)]; rfl
end Go.Proofs.YtnfmhiephdhopaaDoor
namespace Go.Proofs.YtnfmhiephdhopaaDoor
open Go.RowKit
set_option linter.unusedVariables false
theorem ret_par {l : List UInt8} {n : Int} {b : Bool} (h : parI l = (n, b)) {a : Int} (ha : a = n) : Ending.returned (.tuple #[.int .i64 a, .bool b]) = .returned (.tuple #[.int .i64 (parI l).1, .bool (parI l).2]) := by rw [h, ha]
theorem text_eq (x : List UInt8) (s : ByteArray) : (⟨x.toArray⟩ : ByteArray).toList = s.toList ↔ x = s.data.toList := by
  rw [ByteArray.toList_eq, ByteArray.toList_eq]
theorem sval_pos {l : List UInt8} (h : neg l = false) : sval l = (dval l : Int) := by unfold sval; rw [h]; rfl
theorem sval_neg {l : List UInt8} (h : neg l = true) : sval l = -(dval l : Int) := by unfold sval; rw [h]; rfl
theorem dval_step (s : ByteArray) (m : Nat) (h : m < s.size) : dval (s.data.toList.take (m + 1)) = if dig s[m] then dval (s.data.toList.take m) * 10 + (s[m].toNat - 48) else dval (s.data.toList.take m) := by
  rw [take_snoc s m h, dval_snoc]
theorem cast_dig (v b : Nat) (h : 48 ≤ b) : ((v * 10 + (b - 48) : Nat) : Int) = (v : Int) * 10 + ((b : Int) - 48) := by omega
end Go.Proofs.YtnfmhiephdhopaaDoor
namespace Go.Proofs.YtnfmhiephdhopaaDoor
open Go.RowKit
set_option linter.unusedVariables false
def numL (q : List UInt8) : Int := if (parI q).2 then (parI q).1 else -100000
def partTo (ps : List (List UInt8)) : Int := if ps.length = 2 then numL (ps.getD 1 []) else numL (ps.getD 0 [])
def partOk (ps : List (List UInt8)) : Bool := decide (ps.length ≤ 2 ∧ (0 ≤ numL (ps.getD 0 []) ∧ numL (ps.getD 0 []) ≤ 23) ∧ (numL (ps.getD 0 []) ≤ partTo ps ∧ partTo ps ≤ 23))
def partNums (ps : List (List UInt8)) : List Int := upN (numL (ps.getD 0 [])) (partTo ps - numL (ps.getD 0 []) + 1).toNat
def parGo : List Int → List (List UInt8) → Option (List Int)
  | out, [] => some out
  | out, q :: r => if partOk (cutL 45 q) then parGo (out ++ partNums (cutL 45 q)) r else none
def parSet (l : List UInt8) : List Int × Bool :=
  if l = [110, 111, 110, 101] then ([], true)
  else match parGo [] (cutL 32 l) with
    | none => ([], false)
    | some out => if fmtSet out = l then (out, true) else ([], false)
theorem parSet_none {l : List UInt8} (h : l = [110, 111, 110, 101]) : parSet l = ([], true) := by unfold parSet; rw [if_pos h]
theorem parSet_bad {l : List UInt8} (h : ¬ l = [110, 111, 110, 101]) (hg : parGo [] (cutL 32 l) = none) : parSet l = ([], false) := by unfold parSet; rw [if_neg h, hg]
theorem parSet_yes {l : List UInt8} {out : List Int} (h : ¬ l = [110, 111, 110, 101]) (hg : parGo [] (cutL 32 l) = some out) (hf : fmtSet out = l) : parSet l = (out, true) := by unfold parSet; rw [if_neg h, hg]; exact if_pos hf
theorem parSet_no {l : List UInt8} {out : List Int} (h : ¬ l = [110, 111, 110, 101]) (hg : parGo [] (cutL 32 l) = some out) (hf : ¬ fmtSet out = l) : parSet l = ([], false) := by unfold parSet; rw [if_neg h, hg]; exact if_neg hf
theorem cutGo_piece (b : UInt8) : ∀ (l p : List UInt8), ∀ q ∈ cutGo b p l, q.length ≤ p.length + l.length := by
  intro l
  induction l with
  | nil => intro p q hq; simp [cutGo] at hq; subst hq; simp
  | cons c r ih =>
    intro p q hq
    unfold cutGo at hq
    split at hq
    · rcases List.mem_cons.1 hq with e | e
      · subst e; simp
      · have := ih [] q e; simp at this ⊢; omega
    · have := ih (p ++ [c]) q hq; simp at this ⊢; omega
theorem cut_piece (b : UInt8) (l : List UInt8) (k : Nat) : ((cutL b l).getD k []).length ≤ l.length := by
  by_cases hk : k < (cutL b l).length
  · have e : (cutL b l).getD k [] = (cutL b l)[k] := by simp [List.getD, hk]
    have := cutGo_piece b l [] _ (List.getElem_mem hk)
    rw [e]
    simpa using this
  · have e : (cutL b l).getD k [] = [] := by rw [List.getD, List.getElem?_eq_none (Nat.le_of_not_lt hk)]; rfl
    rw [e]; simp
theorem cut_len (b : UInt8) (l : List UInt8) : (cutL b l).length ≤ l.length + 1 := cutGo_len b l []
theorem cutGo_pos (b : UInt8) : ∀ (l p : List UInt8), 0 < (cutGo b p l).length := by
  intro l
  induction l with
  | nil => intro p; simp [cutGo]
  | cons c r ih => intro p; unfold cutGo; split; · simp
                   · exact ih _
theorem cut_pos (b : UInt8) (l : List UInt8) : 0 < (cutL b l).length := cutGo_pos b l []
end Go.Proofs.YtnfmhiephdhopaaDoor
namespace Go.Proofs.YtnfmhiephdhopaaDoor
open Go.RowKit
set_option linter.unusedVariables false
theorem cutGo_no {b : UInt8} : ∀ (l p : List UInt8), b ∉ l → cutGo b p l = [p ++ l] := by
  intro l
  induction l with
  | nil => intro p _; simp [cutGo]
  | cons c r ih =>
    intro p h
    rw [List.mem_cons, not_or] at h
    unfold cutGo
    rw [if_neg (fun e => h.1 e.symm), ih _ h.2]
    simp
theorem cutGo_app {b : UInt8} : ∀ (a p l : List UInt8), b ∉ a → cutGo b p (a ++ b :: l) = (p ++ a) :: cutGo b [] l := by
  intro a
  induction a with
  | nil => intro p l _; simp [cutGo]
  | cons c r ih =>
    intro p l h
    rw [List.mem_cons, not_or] at h
    rw [List.cons_append]
    show (if c = b then _ else cutGo b (p ++ [c]) (r ++ b :: l)) = _
    rw [if_neg (fun e => h.1 e.symm), ih _ _ h.2]
    simp
theorem cutL_no {b : UInt8} {l : List UInt8} (h : b ∉ l) : cutL b l = [l] := by unfold cutL; rw [cutGo_no l [] h]; rfl
theorem cutL_app {b : UInt8} {a : List UInt8} (l : List UInt8) (h : b ∉ a) : cutL b (a ++ b :: l) = a :: cutL b l := by unfold cutL; rw [cutGo_app a [] l h]; rfl
theorem index_cases (l : List UInt8) (c : UInt8) : (c ∉ l ∧ Lib.indexByte l c = -1) ∨ ∃ a r, l = a ++ c :: r ∧ c ∉ a ∧ Lib.indexByte l c = (a.length : Int) := by
  induction l with
  | nil => left; exact ⟨by simp, rfl⟩
  | cons b l ih =>
    by_cases h : b = c
    · right; exact ⟨[], l, by rw [h]; rfl, by simp, by unfold Lib.indexByte; rw [if_pos (by simpa using h)]; rfl⟩
    · have hb : (b == c) = false := by rw [beq_eq_false_iff_ne]; exact h
      rcases ih with ⟨h1, h2⟩ | ⟨a, r, h1, h2, h3⟩
      · left
        refine ⟨by rw [List.mem_cons, not_or]; exact ⟨fun e => h e.symm, h1⟩, ?_⟩
        unfold Lib.indexByte; rw [hb, h2]; rfl
      · right
        refine ⟨b :: a, r, by rw [h1]; rfl, by rw [List.mem_cons, not_or]; exact ⟨fun e => h e.symm, h2⟩, ?_⟩
        unfold Lib.indexByte
        rw [hb, h3]
        have : ((a.length : Int) == -1) = false := by rw [beq_eq_false_iff_ne]; omega
        rw [this]
        simp
/-! ### Numerals -/
theorem parI_is {l : List UInt8} (h : (parI l).2 = true) : Lib.itoa (parI l).1 = l := by
  unfold parI at h ⊢
  by_cases hc : Lib.itoa (sval l) = l ∧ dcnt l ≤ 9
  · rw [if_pos hc]; exact hc.1
  · rw [if_neg hc] at h; cases h
theorem itoa_dig {n : Int} (h : 0 ≤ n) : ∀ b ∈ Lib.itoa n, dig b = true := by
  unfold Lib.itoa
  rw [if_neg (by omega)]
  exact (digits_dec n.toNat).2
theorem dig_no45 : dig 45 = false := by decide
theorem dig_no32 : dig 32 = false := by decide
theorem itoa_no {n : Int} (h : 0 ≤ n) {c : UInt8} (hc : dig c = false) : c ∉ Lib.itoa n := fun g => by
  have := itoa_dig h c g; rw [hc] at this; cases this
theorem parI_minus {l : List UInt8} (hm : (45 : UInt8) ∈ l) (h : (parI l).2 = true) : (parI l).1 < 0 := by
  apply Int.not_le.1
  intro g
  have e := parI_is h
  rw [← e] at hm
  exact itoa_no g dig_no45 hm
theorem parI_itoa {n : Int} (h0 : 0 ≤ n) (h1 : n ≤ 23) : parI (Lib.itoa n) = (n, true) := by
  obtain ⟨u, rfl⟩ := Int.eq_ofNat_of_zero_le h0
  have hi : Lib.itoa (u : Int) = Lib.decDigits u := by unfold Lib.itoa; rw [if_neg (by omega), Int.toNat_natCast]
  have hneg : neg (Lib.itoa (u : Int)) = false := by
    cases hn : neg (Lib.itoa (u : Int)) with
    | false => rfl
    | true =>
      obtain ⟨r, hr⟩ := neg_cons hn
      exact absurd (by rw [hr]; exact List.mem_cons_self ..) (itoa_no (n := (u : Int)) (by omega) dig_no45)
  have hs : sval (Lib.itoa (u : Int)) = (u : Int) := by
    unfold sval
    rw [hneg, hi, (digits_dec u).1]
    rfl
  have hlen : (Lib.decDigits u).length ≤ 9 := by
    by_cases h : u < 10
    · rw [Lib.decDigits_one h]; simp
    · rw [Lib.decDigits, dif_neg h, List.length_append, Lib.decDigits_one (by omega)]; simp
  have hd : dcnt (Lib.itoa (u : Int)) ≤ 9 := by rw [hi]; exact Nat.le_trans (dcnt_le _) hlen
  exact (parI_ok (by rw [hs]) hd).trans (by rw [hs])
theorem numL_itoa {n : Int} (h0 : 0 ≤ n) (h1 : n ≤ 23) : numL (Lib.itoa n) = n := by unfold numL; rw [parI_itoa h0 h1]; rfl
theorem numL_yes {q : List UInt8} (h : (parI q).2 = true) : numL q = (parI q).1 := by unfold numL; rw [h]; rfl
theorem numL_no {q : List UInt8} (h : ¬ (parI q).2 = true) : numL q = -100000 := by unfold numL; rw [if_neg h]
theorem strB_take (a b : List UInt8) : (strB (a ++ b)).extract 0 a.length = strB a := by
  apply ByteArray.ext
  apply Array.ext'
  simp only [ByteArray.data_extract, Array.toList_extract, strB]
  rw [List.extract_eq_take_drop]
  simp
theorem strB_drop (a : List UInt8) (c : UInt8) (b : List UInt8) : (strB (a ++ c :: b)).extract (a.length + 1) (a ++ c :: b).length = strB b := by
  apply ByteArray.ext
  apply Array.ext'
  simp only [ByteArray.data_extract, Array.toList_extract, strB]
  rw [List.extract_eq_take_drop, show a ++ c :: b = (a ++ [c]) ++ b by simp]
  rw [List.drop_left' (by simp), List.take_of_length_le (by simp; omega)]
theorem triple' {u v : ByteArray} {c d : List UInt8} {x : Bool} (h1 : u = strB c) (h2 : v = strB d) : Ending.returned (.tuple #[.string u, .string v, .bool x]) = .returned (.tuple #[.string (strB c), .string (strB d), .bool x]) := by rw [h1, h2]
end Go.Proofs.YtnfmhiephdhopaaDoor
namespace Go.Proofs.YtnfmhiephdhopaaDoor
set_option linter.unusedVariables false
theorem ctz_bits {x : Nat} (h0 : x ≠ 0) (h : x < 4294967296) : x.testBit (Lib.ctz 32 x) = true ∧ (∀ j, j < Lib.ctz 32 x → x.testBit j = false) ∧ Lib.ctz 32 x < 32 := by
  obtain ⟨q, e, hk⟩ := Lib.ctzFrom_spec 32 x (by omega) (by omega)
  have hc : Lib.ctz 32 x = Lib.ctzFrom 32 x := by unfold Lib.ctz; rw [if_neg h0]
  rw [hc]
  generalize Lib.ctzFrom 32 x = k at e hk
  refine ⟨?_, ?_, hk⟩
  · rw [e, Nat.testBit_two_pow_mul, Nat.sub_self, Nat.testBit_zero]
    simp
  · intro j hj
    rw [e, Nat.testBit_two_pow_mul]
    simp; omega
/-- The bits from f to f + n are the first run of m. -/
def FirstRun (m f n : Nat) : Prop := f + n ≤ 23 ∧ (∀ j, j < f → m.testBit j = false) ∧ (∀ j, j ≤ n → m.testBit (f + j) = true) ∧ m.testBit (f + n + 1) = false
theorem firstRun_of {m : Nat} (h0 : m ≠ 0) (h : m < 16777216) : Lib.ctz 32 (4294967295 - m / 2 ^ Lib.ctz 32 m) ≠ 0 ∧ Lib.ctz 32 (4294967295 - m / 2 ^ Lib.ctz 32 m) ≤ 32 ∧ FirstRun m (Lib.ctz 32 m) (Lib.ctz 32 (4294967295 - m / 2 ^ Lib.ctz 32 m) - 1) := by
  obtain ⟨h1, h2, h3⟩ := ctz_bits h0 (by omega)
  generalize Lib.ctz 32 m = f at *
  have hy : m / 2 ^ f < 16777216 := Nat.lt_of_le_of_lt (Nat.div_le_self _ _) h
  have hb : ∀ j, (m / 2 ^ f).testBit j = m.testBit (f + j) := fun j => by rw [Nat.testBit_div_two_pow, Nat.add_comm]
  generalize m / 2 ^ f = y at *
  have hn : ∀ j, (4294967295 - y).testBit j = (decide (j < 32) && !y.testBit j) := fun j => by
    have := Nat.testBit_two_pow_sub_succ (n := 32) (x := y) (by omega) j
    rw [show 2 ^ 32 - (y + 1) = 4294967295 - y by omega] at this
    exact this
  obtain ⟨g1, g2, g3⟩ := ctz_bits (x := 4294967295 - y) (by omega) (by omega)
  generalize Lib.ctz 32 (4294967295 - y) = n at *
  have hn0 : n ≠ 0 := by
    intro e; subst e
    rw [hn, hb, Nat.add_zero, h1] at g1
    simp at g1
  have hlow : ∀ j, j < n → m.testBit (f + j) = true := by
    intro j hj
    have := g2 j hj
    rw [hn, hb] at this
    have h32 : decide (j < 32) = true := decide_eq_true (by omega)
    rw [h32] at this
    simpa using this
  have hhi : m.testBit (f + n) = false := by
    rw [hn, hb] at g1
    simp at g1
    exact g1.2
  refine ⟨hn0, by omega, ?_, h2, fun j hj => hlow j (by omega), by rw [show f + (n - 1) + 1 = f + n by omega]; exact hhi⟩
  apply Nat.le_of_not_lt
  intro hgt
  have := hlow (n - 1) (by omega)
  rw [Nat.testBit_lt_two_pow (show m < 2 ^ (f + (n - 1)) from Nat.lt_of_lt_of_le (show m < 2 ^ 24 from h) (Nat.pow_le_pow_right (by omega) (by omega)))] at this
  cases this
/-- The mask of the numbers from f to t. -/
def rangeM (f t : Nat) : Nat := 2 ^ (t + 1) - 2 ^ f
theorem bit_rangeM {f t : Nat} (h : f ≤ t) (i : Nat) : (rangeM f t).testBit i = decide (f ≤ i ∧ i ≤ t) := by
  have e : rangeM f t = 2 ^ f * (2 ^ (t + 1 - f) - 1) := by
    unfold rangeM
    rw [Nat.mul_sub, ← Nat.pow_add, show f + (t + 1 - f) = t + 1 by omega, Nat.mul_one]
  rw [e, Nat.testBit_two_pow_mul, Nat.testBit_two_pow_sub_one, Bool.eq_iff_iff]
  simp
  omega
theorem rangeM_lt {f t : Nat} (h : t ≤ 23) : rangeM f t < 16777216 := by
  have : 2 ^ (t + 1) ≤ 2 ^ 24 := Nat.pow_le_pow_right (by omega) (by omega)
  have := Nat.two_pow_pos f
  have := Nat.two_pow_pos (t + 1)
  unfold rangeM; omega
/-- The mask without its first run. -/
def restM (m f n : Nat) : Nat := m &&& (4294967295 ^^^ rangeM f (f + n))
theorem restM_lt {m : Nat} (f n : Nat) (h : m < 16777216) : restM m f n < 16777216 := Nat.lt_of_le_of_lt Nat.and_le_left h
theorem bit_restM {m f n : Nat} (h : m < 16777216) (i : Nat) : (restM m f n).testBit i = (m.testBit i && !decide (f ≤ i ∧ i ≤ f + n)) := by
  unfold restM
  rw [Nat.testBit_and, Nat.testBit_xor, bit_rangeM (by omega)]
  by_cases hi : i < 32
  · have : (4294967295 : Nat).testBit i = true := by
      have := Nat.testBit_two_pow_sub_one 32 i
      rw [show (2 : Nat) ^ 32 - 1 = 4294967295 from rfl] at this
      rw [this]; exact decide_eq_true hi
    rw [this]; simp
  · rw [Nat.testBit_lt_two_pow (show m < 2 ^ i from Nat.lt_of_lt_of_le (show m < 2 ^ 32 by omega) (Nat.pow_le_pow_right (by omega) (by omega)))]
    simp
theorem restM_less {m f n : Nat} (h : m < 16777216) (hf : FirstRun m f n) : restM m f n < m := by
  have hle : restM m f n ≤ m := Nat.and_le_left
  have hne : restM m f n ≠ m := by
    intro e
    have := bit_restM (f := f) (n := n) h f
    rw [e] at this
    have h1 := hf.2.2.1 0 (Nat.zero_le _)
    rw [Nat.add_zero] at h1
    rw [h1] at this
    simp at this
  omega
theorem upN_cons (f : Int) (n : Nat) : upN f (n + 1) = f :: upN (f + 1) n := by
  unfold upN
  rw [List.range_succ_eq_map, List.map_cons, List.map_map]
  congr 1
  · simp
  · apply List.map_congr_left
    intro i _
    show f + ((i + 1 : Nat) : Int) = f + 1 + (i : Int)
    omega
theorem mem_upN {f : Int} {n : Nat} {x : Int} : x ∈ upN f n ↔ ∃ i : Nat, i < n ∧ x = f + (i : Int) := by
  unfold upN
  simp only [List.mem_map, List.mem_range]
  constructor
  · rintro ⟨i, hi, rfl⟩; exact ⟨i, hi, rfl⟩
  · rintro ⟨i, hi, rfl⟩; exact ⟨i, hi, rfl⟩
theorem upN_asc (f : Int) (n : Nat) : (upN f n).Pairwise (· < ·) := by
  exact range_asc f n
/-- The members are the first run and the members of what is left. -/
theorem memL_first {m f n : Nat} (h : m < 16777216) (hf : FirstRun m f n) : memL m = upN (f : Int) (n + 1) ++ memL (restM m f n) := by
  have hin : ∀ i : Nat, (restM m f n).testBit i = true → f + n + 1 < i := by
    intro i hi
    rw [bit_restM h, Bool.and_eq_true] at hi
    have h2 : ¬ (f ≤ i ∧ i ≤ f + n) := by have := hi.2; simp at this; omega
    apply Nat.lt_of_not_le
    intro hle
    by_cases hlt : i < f
    · have := hf.2.1 i hlt; rw [this] at hi; exact Bool.noConfusion hi.1
    · have e : i = f + n + 1 := by omega
      have := hf.2.2.2; rw [← e] at this; rw [this] at hi; exact Bool.noConfusion hi.1
  refine asc_eq (memTo_asc _ _) ?_ fun x => ?_
  · rw [List.pairwise_append]
    refine ⟨upN_asc _ _, memTo_asc _ _, ?_⟩
    intro x hx y hy
    obtain ⟨i, hi, rfl⟩ := mem_upN.1 hx
    obtain ⟨j, _, hj, rfl⟩ := mem_memTo.1 hy
    have := hin j hj
    omega
  · unfold memL
    rw [List.mem_append, mem_memTo, mem_memTo, mem_upN]
    constructor
    · rintro ⟨i, hi, hb, rfl⟩
      by_cases hc : f ≤ i ∧ i ≤ f + n
      · exact Or.inl ⟨i - f, by omega, by omega⟩
      · exact Or.inr ⟨i, hi, by rw [bit_restM h, hb, decide_eq_false hc]; rfl, rfl⟩
    · rintro (⟨i, hi, rfl⟩ | ⟨i, hi, hb, rfl⟩)
      · exact ⟨f + i, by have := hf.1; omega, hf.2.2.1 i (by omega), by omega⟩
      · rw [bit_restM h, Bool.and_eq_true] at hb
        exact ⟨i, hi, hb.1, rfl⟩
theorem runs_block : ∀ (n : Nat) (f : Int) (r : List Int), (∀ y r', r = y :: r' → f + (n : Int) + 1 < y) → runs (upN f (n + 1) ++ r) = (f, f + (n : Int)) :: runs r := by
  intro n
  induction n with
  | zero =>
    intro f r h
    have e : upN f 1 = [f] := by rw [upN_cons]; rfl
    rw [e]
    cases r with
    | nil => simp [runs]
    | cons y r' =>
      have := h y r' rfl
      rw [List.singleton_append, runs_part (by omega)]
      simp
  | succ n ih =>
    intro f r h
    have := ih (f + 1) r (fun y r' e => by have := h y r' e; omega)
    rw [upN_cons, upN_cons] at *
    rw [List.cons_append] at this
    rw [List.cons_append, List.cons_append, runs_join rfl this]
    rw [show f + 1 + (n : Int) = f + ((n + 1 : Nat) : Int) by omega]
/-- So the runs of a mask are its first run and those of what is left. -/
theorem runs_first {m f n : Nat} (h : m < 16777216) (hf : FirstRun m f n) : runs (memL m) = ((f : Int), ((f + n : Nat) : Int)) :: runs (memL (restM m f n)) := by
  rw [memL_first h hf, runs_block n f _ ?_]
  · rw [show (f : Int) + (n : Int) = ((f + n : Nat) : Int) by omega]
  · intro y r' e
    have hy : y ∈ memL (restM m f n) := by rw [e]; exact List.mem_cons_self ..
    obtain ⟨j, _, hj, rfl⟩ := mem_memTo.1 hy
    rw [bit_restM h, Bool.and_eq_true] at hj
    have h2 : ¬ (f ≤ j ∧ j ≤ f + n) := by have := hj.2; simp at this; omega
    have h3 : ¬ j < f := fun hlt => by have := hf.2.1 j hlt; rw [this] at hj; exact Bool.noConfusion hj.1
    have h4 : j ≠ f + n + 1 := fun e => by have := hf.2.2.2; rw [← e] at this; rw [this] at hj; exact Bool.noConfusion hj.1
    omega
theorem memL_ne {m : Nat} (h0 : m ≠ 0) (h : m < 16777216) : memL m ≠ [] := by
  rw [memL_first h (firstRun_of h0 h).2.2, upN_cons]; simp
/-- The texts of runs behind one another are the texts joined. -/
theorem glue_join : ∀ (t : List (Int × Int)) (s : List UInt8), s ≠ [] → glue s t = s ++ Lib.joinTail [32] (t.map runText) := by
  intro t
  induction t with
  | nil => intro s _; simp [glue, Lib.joinTail]
  | cons r t ih =>
    intro s hs
    show glue ((if s = [] then s else s ++ [32]) ++ runText r) t = _
    rw [if_neg hs, ih _ (by simp)]
    simp [Lib.joinTail]
theorem join_glue (t : List (Int × Int)) : Lib.join (t.map runText) [32] = glue [] t := by
  cases t with
  | nil => rfl
  | cons r t =>
    rw [List.map_cons, Lib.join_cons]
    show _ = glue ((if ([] : List UInt8) = [] then [] else _) ++ runText r) t
    rw [if_pos rfl, List.nil_append, glue_join t _ (runText_ne r)]
theorem runs_len : ∀ l : List Int, (runs l).length ≤ l.length := by
  intro l
  induction l with
  | nil => simp [runs]
  | cons x r ih =>
    cases r with
    | nil => simp [runs]
    | cons y r =>
      obtain ⟨b, t, e⟩ := runs_cons y r
      by_cases h : y = x + 1
      · rw [runs_join h e]; rw [e] at ih; simp at ih ⊢; omega
      · rw [runs_part h]; simp at ih ⊢; omega
theorem runs_mem : ∀ l : List Int, ∀ r ∈ runs l, r.1 ∈ l ∧ r.2 ∈ l := by
  intro l
  induction l with
  | nil => intro r hr; simp [runs] at hr
  | cons x l ih =>
    cases l with
    | nil => intro r hr; simp [runs] at hr; subst hr; simp
    | cons y l =>
      obtain ⟨b, t, e⟩ := runs_cons y l
      intro r hr
      by_cases h : y = x + 1
      · rw [runs_join h e] at hr
        rcases List.mem_cons.1 hr with rfl | hr
        · exact ⟨List.mem_cons_self .., List.mem_cons_of_mem _ (ih (y, b) (by rw [e]; exact List.mem_cons_self ..)).2⟩
        · have := ih r (by rw [e]; exact List.mem_cons_of_mem _ hr)
          exact ⟨List.mem_cons_of_mem _ this.1, List.mem_cons_of_mem _ this.2⟩
      · rw [runs_part h] at hr
        rcases List.mem_cons.1 hr with rfl | hr
        · exact ⟨List.mem_cons_self .., List.mem_cons_self ..⟩
        · have := ih r hr
          exact ⟨List.mem_cons_of_mem _ this.1, List.mem_cons_of_mem _ this.2⟩
theorem glue_len : ∀ (t : List (Int × Int)) (s : List UInt8), (∀ r ∈ t, (runText r).length ≤ 43) → (glue s t).length ≤ s.length + 44 * t.length := by
  intro t
  induction t with
  | nil => intro s _; simp [glue]
  | cons r t ih =>
    intro s h
    show (glue ((if s = [] then s else s ++ [32]) ++ runText r) t).length ≤ _
    have h1 := ih ((if s = [] then s else s ++ [32]) ++ runText r) (fun q hq => h q (List.mem_cons_of_mem _ hq))
    have h2 := h r (List.mem_cons_self ..)
    have h3 : (if s = [] then s else s ++ [32]).length ≤ s.length + 1 := by split <;> simp
    rw [List.length_append] at h1
    rw [List.length_cons]
    omega
theorem memL_len (m : Nat) : (memL m).length ≤ 24 := memTo_len m 24
theorem memL_text (m : Nat) : ∀ r ∈ runs (memL m), (runText r).length ≤ 43 := by
  intro r hr
  obtain ⟨h1, h2⟩ := runs_mem _ r hr
  have g1 := set_range (set_memL m) h1
  have g2 := set_range (set_memL m) h2
  exact runText_len r (by omega) (by omega)
theorem memL_glue (m : Nat) : (glue [] (runs (memL m))).length ≤ 1056 := by
  have h1 := glue_len (runs (memL m)) [] (memL_text m)
  have h2 := runs_len (memL m)
  have h3 := memL_len m
  simp at h1
  omega
end Go.Proofs.YtnfmhiephdhopaaDoor
namespace Go.Proofs.YtnfmhiephdhopaaDoor
set_option linter.unusedVariables false
/-! ### One piece -/
/-- What the program asks of a piece: a and b are what stands ahead of its first minus and behind it. -/
def progOk (a b : List UInt8) : Prop := (parI a).2 = true ∧ (parI b).2 = true ∧ (parI a).1 ≤ (parI b).1 ∧ (0 ≤ (parI a).1 ∧ (parI a).1 ≤ 23) ∧ (0 ≤ (parI b).1 ∧ (parI b).1 ≤ 23)
theorem part_of {ps : List (List UInt8)} {a b : List UInt8} (hl : ps.length ≤ 2) (h0 : ps.getD 0 [] = a) (ht : partTo ps = numL b) :
    (partOk ps = true ↔ progOk a b) ∧ (progOk a b → numL (ps.getD 0 []) = (parI a).1 ∧ partTo ps = (parI b).1) := by
  have key : partOk ps = true ↔ progOk a b := by
    unfold partOk progOk
    rw [decide_eq_true_eq, h0, ht]
    constructor
    · rintro ⟨_, h1, h2⟩
      have ha : (parI a).2 = true := by
        by_cases h : (parI a).2 = true
        · exact h
        · rw [numL_no h] at h1; omega
      have hb : (parI b).2 = true := by
        by_cases h : (parI b).2 = true
        · exact h
        · rw [numL_no h] at h2; omega
      rw [numL_yes ha] at h1 h2
      rw [numL_yes hb] at h2
      exact ⟨ha, hb, h2.1, h1, by omega, h2.2⟩
    · rintro ⟨ha, hb, h1, h2, h3⟩
      rw [numL_yes ha, numL_yes hb]
      exact ⟨hl, h2, h1, h3.2⟩
  refine ⟨key, fun h => ?_⟩
  rw [h0, ht, numL_yes h.1, numL_yes h.2.1]
  exact ⟨rfl, rfl⟩
theorem part_one {q : List UInt8} (h : (45 : UInt8) ∉ q) : (partOk (cutL 45 q) = true ↔ progOk q q) ∧ (progOk q q → numL ((cutL 45 q).getD 0 []) = (parI q).1 ∧ partTo (cutL 45 q) = (parI q).1) := by
  rw [cutL_no h]
  exact part_of (by simp) rfl rfl
theorem part_two {a b : List UInt8} (h : (45 : UInt8) ∉ a) : (partOk (cutL 45 (a ++ 45 :: b)) = true ↔ progOk a b) ∧ (progOk a b → numL ((cutL 45 (a ++ 45 :: b)).getD 0 []) = (parI a).1 ∧ partTo (cutL 45 (a ++ 45 :: b)) = (parI b).1) := by
  rw [cutL_app b h]
  rcases index_cases b 45 with ⟨hb, _⟩ | ⟨c, d, hb, hc, _⟩
  · rw [cutL_no hb]
    exact part_of (by simp) rfl rfl
  · have hno : ¬ progOk a b := by
      rintro ⟨_, h1, _, _, h2⟩
      have := parI_minus (by rw [hb]; simp) h1
      omega
    refine ⟨⟨fun g => ?_, fun g => absurd g hno⟩, fun g => absurd g hno⟩
    exfalso
    rw [hb, cutL_app d hc] at g
    unfold partOk at g
    rw [decide_eq_true_eq] at g
    have h1 := cut_pos 45 d
    have h2 := g.1
    simp only [List.length_cons] at h2
    omega
/-! ### All pieces -/
/-- The mask of a piece. -/
def partMask (ps : List (List UInt8)) : Nat := rangeM (numL (ps.getD 0 [])).toNat (partTo ps).toNat
def mskGo : Nat → List (List UInt8) → Option Nat
  | m, [] => some m
  | m, q :: r => if partOk (cutL 45 q) then mskGo (m ||| partMask (cutL 45 q)) r else none
theorem partOk_range {ps : List (List UInt8)} (h : partOk ps = true) : ∃ f t : Nat, f ≤ t ∧ t ≤ 23 ∧ numL (ps.getD 0 []) = (f : Int) ∧ partTo ps = (t : Int) ∧ partMask ps = rangeM f t ∧ partNums ps = upN (f : Int) (t + 1 - f) := by
  unfold partOk at h
  rw [decide_eq_true_eq] at h
  obtain ⟨_, h1, h2⟩ := h
  refine ⟨(numL (ps.getD 0 [])).toNat, (partTo ps).toNat, by omega, by omega, by omega, by omega, rfl, ?_⟩
  unfold partNums
  rw [show (partTo ps - numL (ps.getD 0 []) + 1).toNat = (partTo ps).toNat + 1 - (numL (ps.getD 0 [])).toNat by omega, show (((numL (ps.getD 0 [])).toNat : Nat) : Int) = numL (ps.getD 0 []) by omega]
/-- The mask has just the numbers of the list. -/
def RelM (out : List Int) (m : Nat) : Prop := m < 16777216 ∧ (∀ i : Nat, m.testBit i = true ↔ (i : Int) ∈ out) ∧ ∀ x ∈ out, 0 ≤ x ∧ x ≤ 23
theorem relM_nil : RelM [] 0 := ⟨by omega, fun i => by simp, fun x h => by simp at h⟩
theorem relM_step {out : List Int} {m : Nat} {ps : List (List UInt8)} (h : RelM out m) (hp : partOk ps = true) : RelM (out ++ partNums ps) (m ||| partMask ps) := by
  obtain ⟨f, t, h1, h2, _, _, h5, h6⟩ := partOk_range hp
  rw [h5, h6]
  refine ⟨Nat.or_lt_two_pow (n := 24) h.1 (rangeM_lt h2), fun i => ?_, fun x hx => ?_⟩
  · rw [Nat.testBit_or, Bool.or_eq_true, h.2.1 i, bit_rangeM h1, List.mem_append, decide_eq_true_eq, mem_upN]
    constructor
    · rintro (g | g)
      · exact Or.inl g
      · exact Or.inr ⟨i - f, by omega, by omega⟩
    · rintro (g | ⟨j, hj, e⟩)
      · exact Or.inl g
      · exact Or.inr (by omega)
  · rcases List.mem_append.1 hx with g | g
    · exact h.2.2 x g
    · obtain ⟨j, hj, rfl⟩ := mem_upN.1 g; omega
theorem go_rel : ∀ (P : List (List UInt8)) (out : List Int) (m : Nat), RelM out m → (parGo out P = none ∧ mskGo m P = none) ∨ ∃ o k, parGo out P = some o ∧ mskGo m P = some k ∧ RelM o k := by
  intro P
  induction P with
  | nil => intro out m h; exact Or.inr ⟨out, m, rfl, rfl, h⟩
  | cons q P ih =>
    intro out m h
    unfold parGo mskGo
    cases hp : partOk (cutL 45 q) with
    | false => exact Or.inl ⟨rfl, rfl⟩
    | true => exact ih _ _ (relM_step h hp)
theorem relM_set {out : List Int} {m : Nat} (h : RelM out m) (hs : SetL out) : memL m = out := by
  refine asc_eq (memTo_asc _ _) (set_asc hs) fun x => ?_
  unfold memL
  rw [mem_memTo]
  constructor
  · rintro ⟨i, _, g, rfl⟩; exact (h.2.1 i).1 g
  · intro g
    have := h.2.2 x g
    exact ⟨x.toNat, by omega, (h.2.1 _).2 (by rw [show ((x.toNat : Nat) : Int) = x by omega]; exact g), by omega⟩
/-! ### The text of a set spells the set -/
def blk (r : Int × Int) : List Int := upN r.1 (r.2 - r.1 + 1).toNat
theorem runs_flat : ∀ l : List Int, (runs l).flatMap blk = l ∧ ∀ r ∈ runs l, r.1 ≤ r.2 := by
  intro l
  induction l with
  | nil => exact ⟨rfl, fun r h => by simp [runs] at h⟩
  | cons x l ih =>
    have hb : ∀ x : Int, blk (x, x) = [x] := by
      intro x
      unfold blk
      rw [show (x - x + 1).toNat = 0 + 1 by omega, upN_cons]
      rfl
    cases l with
    | nil =>
      have : runs [x] = [(x, x)] := rfl
      rw [this]
      refine ⟨by simp [hb], ?_⟩
      intro r hr
      rw [List.mem_singleton] at hr
      rw [hr]
      exact Int.le_refl _
    | cons y l =>
      obtain ⟨b, t, e⟩ := runs_cons y l
      by_cases h : y = x + 1
      · rw [runs_join h e]
        rw [e] at ih
        have hle := ih.2 (y, b) (List.mem_cons_self ..)
        have hx : blk (x, b) = x :: blk (y, b) := by
          unfold blk
          simp only at hle ⊢
          rw [show (b - x + 1).toNat = (b - y + 1).toNat + 1 by omega, upN_cons, h]
        refine ⟨?_, ?_⟩
        · rw [List.flatMap_cons, hx, List.cons_append, ← List.flatMap_cons, ih.1]
        · intro r hr
          rcases List.mem_cons.1 hr with rfl | hr
          · simp only at hle ⊢; omega
          · exact ih.2 r (List.mem_cons_of_mem _ hr)
      · rw [runs_part h]
        refine ⟨?_, ?_⟩
        · rw [List.flatMap_cons, hb, ih.1]; rfl
        · intro r hr
          rcases List.mem_cons.1 hr with rfl | hr
          · exact Int.le_refl _
          · exact ih.2 r hr
def RunIn (r : Int × Int) : Prop := 0 ≤ r.1 ∧ r.1 ≤ r.2 ∧ r.2 ≤ 23
theorem runs_in {l : List Int} (h : ∀ x ∈ l, 0 ≤ x ∧ x ≤ 23) : ∀ r ∈ runs l, RunIn r := fun r hr =>
  ⟨(h _ (runs_mem l r hr).1).1, (runs_flat l).2 r hr, (h _ (runs_mem l r hr).2).2⟩
theorem text_no32 {r : Int × Int} (h : RunIn r) : (32 : UInt8) ∉ runText r := by
  have a := itoa_no h.1 dig_no32
  have b := itoa_no (n := r.2) (by have := h.2.1; have := h.1; omega) dig_no32
  unfold runText
  split
  · exact a
  · rw [List.mem_append, List.mem_cons]
    rintro (g | g | g)
    · exact a g
    · exact absurd g (by decide)
    · exact b g
theorem text_part {r : Int × Int} (h : RunIn r) : partOk (cutL 45 (runText r)) = true ∧ partNums (cutL 45 (runText r)) = blk r := by
  obtain ⟨h1, h2, h3⟩ := h
  have a := itoa_no h1 dig_no45
  have b := itoa_no (n := r.2) (by omega) dig_no45
  unfold runText
  by_cases he : r.1 = r.2
  · rw [if_pos he, cutL_no a]
    have hn : numL (([Lib.itoa r.1] : List (List UInt8)).getD 0 []) = r.1 := numL_itoa h1 (by omega)
    have ht : partTo [Lib.itoa r.1] = r.2 := by rw [← he]; exact hn
    unfold partOk partNums blk
    rw [hn, ht]
    exact ⟨decide_eq_true ⟨by simp, by omega, by omega⟩, rfl⟩
  · rw [if_neg he, cutL_app _ a, cutL_no b]
    have hn : numL (([Lib.itoa r.1, Lib.itoa r.2] : List (List UInt8)).getD 0 []) = r.1 := numL_itoa h1 (by omega)
    have ht : partTo [Lib.itoa r.1, Lib.itoa r.2] = r.2 := numL_itoa (by omega) h3
    unfold partOk partNums blk
    rw [hn, ht]
    exact ⟨decide_eq_true ⟨by simp, by omega, by omega⟩, rfl⟩
theorem cut_texts : ∀ (t : List (Int × Int)) (r : Int × Int), RunIn r → (∀ q ∈ t, RunIn q) → cutL 32 (runText r ++ Lib.joinTail [32] (t.map runText)) = runText r :: t.map runText := by
  intro t
  induction t with
  | nil =>
    intro r hr _
    have : runText r ++ Lib.joinTail [32] (([] : List (Int × Int)).map runText) = runText r := by simp [Lib.joinTail]
    rw [this, cutL_no (text_no32 hr)]
    rfl
  | cons q t ih =>
    intro r hr ht
    have : runText r ++ Lib.joinTail [32] ((q :: t).map runText) = runText r ++ 32 :: (runText q ++ Lib.joinTail [32] (t.map runText)) := by simp [Lib.joinTail]
    rw [this, cutL_app _ (text_no32 hr), ih q (ht q (List.mem_cons_self ..)) (fun x hx => ht x (List.mem_cons_of_mem _ hx))]
    rfl
theorem parGo_texts : ∀ (t : List (Int × Int)) (out : List Int), (∀ q ∈ t, RunIn q) → parGo out (t.map runText) = some (out ++ t.flatMap blk) := by
  intro t
  induction t with
  | nil => intro out _; simp [parGo]
  | cons q t ih =>
    intro out h
    obtain ⟨h1, h2⟩ := text_part (h q (List.mem_cons_self ..))
    rw [List.map_cons]
    unfold parGo
    rw [if_pos h1, h2, ih _ (fun x hx => h x (List.mem_cons_of_mem _ hx))]
    simp
theorem par_fmt {l : List Int} (h : ∀ x ∈ l, 0 ≤ x ∧ x ≤ 23) (h0 : l ≠ []) : parGo [] (cutL 32 (fmtRuns l)) = some l := by
  have hin := runs_in h
  have hf := (runs_flat l).1
  unfold fmtRuns
  rw [if_neg h0]
  cases hr : runs l with
  | nil => rw [hr] at hf; exact absurd hf.symm h0
  | cons r t =>
    rw [hr] at hin hf
    rw [← join_glue, List.map_cons, Lib.join_cons, cut_texts t r (hin r (List.mem_cons_self ..)) (fun x hx => hin x (List.mem_cons_of_mem _ hx)), ← List.map_cons, parGo_texts _ _ hin, hf]
    rfl
theorem fmtRuns_not_none {l : List Int} (h : ∀ x ∈ l, 0 ≤ x ∧ x ≤ 23) (h0 : l ≠ []) : fmtRuns l ≠ [110, 111, 110, 101] := by
  intro e
  have := par_fmt h h0
  rw [e] at this
  have hc : cutL 32 [110, 111, 110, 101] = [[110, 111, 110, 101]] := cutL_no (by decide)
  rw [hc] at this
  unfold parGo at this
  have hp : partOk (cutL 45 [110, 111, 110, 101]) = false := by
    cases hp : partOk (cutL 45 [110, 111, 110, 101]) with
    | false => rfl
    | true =>
      have hk := (part_one (q := [110, 111, 110, 101]) (by decide)).1.1 hp
      have e := parI_is hk.1
      have := itoa_dig hk.2.2.2.1.1 110 (by rw [e]; simp)
      exact absurd this (by decide)
  rw [hp] at this
  cases this
theorem parGo_empty : parGo [] (cutL 32 []) = none := by
  have hc : cutL 32 ([] : List UInt8) = [[]] := cutL_no (by simp)
  rw [hc]
  unfold parGo
  have hp : partOk (cutL 45 ([] : List UInt8)) = false := by
    cases hp : partOk (cutL 45 ([] : List UInt8)) with
    | false => rfl
    | true =>
      have hk := (part_one (q := []) (by simp)).1.1 hp
      exact absurd (parI_is hk.1) (itoa_ne _)
  rw [hp]
  rfl
theorem fmtSet_set {l : List Int} (h : SetL l) : fmtSet l = fmtRuns l := by unfold fmtSet; rw [(setB_iff l).2 h]; rfl
/-- The program's way and the specification's lead to the same. -/
theorem parSet_mask {l : List UInt8} (h : ¬ l = [110, 111, 110, 101]) :
    (mskGo 0 (cutL 32 l) = none ∧ parSet l = ([], false)) ∨ ∃ m, mskGo 0 (cutL 32 l) = some m ∧ m < 16777216 ∧ (fmtRuns (memL m) = l → parSet l = (memL m, true)) ∧ (¬ fmtRuns (memL m) = l → parSet l = ([], false)) := by
  rcases go_rel (cutL 32 l) [] 0 relM_nil with ⟨h1, h2⟩ | ⟨o, m, h1, h2, hr⟩
  · exact Or.inl ⟨h2, parSet_bad h h1⟩
  · refine Or.inr ⟨m, h2, hr.1, fun he => ?_, fun he => ?_⟩
    · have hne : memL m ≠ [] := by
        intro g
        rw [g] at he
        exact h he.symm
      have hp := par_fmt (fun x hx => set_range (set_memL m) hx) hne
      rw [he, h1] at hp
      obtain rfl := Option.some.inj hp
      exact parSet_yes h h1 (by rw [fmtSet_set (set_memL m)]; exact he)
    · refine parSet_no h h1 fun g => ?_
      by_cases hs : SetL o
      · rw [fmtSet_set hs, ← relM_set hr hs] at g
        exact he g
      · rw [fmtSet_no (setB_no hs)] at g
        rw [← g, parGo_empty] at h1
        cases h1
/-- The text of a set is read back; the empty text is none. -/
theorem parSet_fmt {l : List Int} (h : SetL l) : parSet (fmtSet l) = (l, true) := by
  rw [fmtSet_set h]
  by_cases h0 : l = []
  · subst h0; exact parSet_none rfl
  · exact parSet_yes (fmtRuns_not_none (fun x hx => set_range h hx) h0) (par_fmt (fun x hx => set_range h hx) h0) (fmtSet_set h)
theorem parSet_empty : parSet [] = ([], false) := parSet_bad (by decide) parGo_empty
end Go.Proofs.YtnfmhiephdhopaaDoor
namespace Go.Proofs.YtnfmhiephdhopaaDoor
set_option linter.unusedVariables false
theorem mem_unite {a b : List Int} (ha : setB a = true) (hb : setB b = true) (i : Nat) (hi : i < 24) : decide ((i : Int) ∈ uniteL a b) = (decide ((i : Int) ∈ a) || decide ((i : Int) ∈ b)) := by
  unfold uniteL
  rw [ha, hb, Bool.and_self, if_pos rfl, Bool.eq_iff_iff]
  simp only [decide_eq_true_eq, List.mem_filter, List.mem_map, List.mem_range, Bool.or_eq_true]
  constructor
  · rintro ⟨_, h⟩; exact h
  · intro h; exact ⟨⟨i, hi, rfl⟩, h⟩
theorem mem_meet {a b : List Int} (ha : setB a = true) (hb : setB b = true) (x : Int) : decide (x ∈ meetL a b) = (decide (x ∈ a) && decide (x ∈ b)) := by
  unfold meetL
  rw [ha, hb, Bool.and_self, if_pos rfl, Bool.eq_iff_iff]
  simp [List.mem_filter]
theorem mem_sub {a b : List Int} (ha : setB a = true) (hb : setB b = true) (x : Int) : decide (x ∈ subL a b) = (decide (x ∈ a) && !decide (x ∈ b)) := by
  unfold subL
  rw [ha, hb, Bool.and_self, if_pos rfl, Bool.eq_iff_iff]
  simp [List.mem_filter]
theorem unite_set (a b : List Int) : setB (uniteL a b) = true := by
  rw [← unite_mask]
  exact (setB_iff _).2 (set_memL _)
theorem count_two (p q : Nat → Bool) : ∀ l : List Nat, (l.filter fun i => p i || q i).length + (l.filter fun i => p i && q i).length = (l.filter p).length + (l.filter q).length := by
  intro l
  induction l with
  | nil => rfl
  | cons x l ih =>
    simp only [List.filter_cons]
    cases p x <;> cases q x <;> simp <;> omega
theorem memL_len24 (m : Nat) : (memL m).length = ((List.range 24).filter fun i => m.testBit i).length := by
  unfold memL memTo
  rw [List.length_map]
theorem len_unite {a b : List Int} (ha : setB a = true) (hb : setB b = true) : (uniteL a b).length + (meetL a b).length = a.length + b.length := by
  have h1 := (setB_iff a).1 ha
  have h2 := (setB_iff b).1 hb
  have hA : maskA a b = maskL a := by unfold maskA; rw [ha, hb]; rfl
  have hB : maskB a b = maskL b := by unfold maskB; rw [ha, hb]; rfl
  have ea := congrArg List.length (memL_set h1)
  have eb := congrArg List.length (memL_set h2)
  rw [← unite_mask, ← meet_mask, hA, hB, ← ea, ← eb, memL_len24, memL_len24, memL_len24, memL_len24]
  have := count_two (fun i => (maskL a).testBit i) (fun i => (maskL b).testBit i) (List.range 24)
  simpa only [Nat.testBit_or, Nat.testBit_and] using this
theorem none_of {a b : List Int} (h : (setB a && setB b) = false) : uniteL a b = [] ∧ meetL a b = [] ∧ subL a b = [] := by
  refine ⟨?_, ?_, ?_⟩
  · unfold uniteL; rw [h]; rfl
  · unfold meetL; rw [h]; rfl
  · unfold subL; rw [h]; rfl
theorem fmtSet_len (a : List Int) : (fmtSet a).length ≤ 1048576 := by
  by_cases h : SetL a
  · rw [fmtSet_set h, ← memL_set h]
    unfold fmtRuns
    split
    · simp
    · have := memL_glue (maskL a); omega
  · rw [fmtSet_no (setB_no h)]; simp
theorem parSet_yes' {a : List Int} (h : setB a = true) : parSet (fmtSet a) = (a, true) := parSet_fmt ((setB_iff a).1 h)
theorem parSet_no' {a : List Int} (h : setB a = false) : parSet (fmtSet a) = ([], false) := by rw [fmtSet_no h]; exact parSet_empty
end Go.Proofs.YtnfmhiephdhopaaDoor
namespace Go.Proofs.YtnfmhiephdhopaaDoor
open Go.RowKit
set_option linter.unusedVariables false
/-- The numbers below k that p takes. -/
def accU (p : Int → Bool) (k : Nat) : List Int := ((List.range k).map fun i : Nat => (i : Int)).filter p
theorem accU_yes {p : Int → Bool} {k : Nat} (h : p (k : Int) = true) : accU p k ++ [(k : Int)] = accU p (k + 1) := by
  unfold accU
  rw [List.range_succ, List.map_append, List.filter_append]
  simp [h]
theorem accU_no {p : Int → Bool} {k : Nat} (h : p (k : Int) = false) : accU p k = accU p (k + 1) := by
  unfold accU
  rw [List.range_succ, List.map_append, List.filter_append]
  simp [h]
theorem accU_len (p : Int → Bool) (k : Nat) : (accU p k).length ≤ k := by
  have := List.length_filter_le p ((List.range k).map fun i : Nat => (i : Int))
  simpa [accU] using this
/-- The first k of a that p takes. -/
def accA (p : Int → Bool) (a : List Int) (k : Nat) : List Int := (a.take k).filter p
theorem accA_yes {p : Int → Bool} {a : List Int} {k : Nat} (hk : k < a.length) (h : p (a.getD k 0) = true) : accA p a k ++ [a.getD k 0] = accA p a (k + 1) := by
  unfold accA
  have e : a.getD k 0 = a[k] := by simp [List.getD, hk]
  rw [e] at h ⊢
  rw [List.take_succ_eq_append_getElem hk, List.filter_append]
  simp [h]
theorem accA_no {p : Int → Bool} {a : List Int} {k : Nat} (hk : k < a.length) (h : p (a.getD k 0) = false) : accA p a k = accA p a (k + 1) := by
  unfold accA
  have e : a.getD k 0 = a[k] := by simp [List.getD, hk]
  rw [e] at h
  rw [List.take_succ_eq_append_getElem hk, List.filter_append]
  simp [h]
theorem accA_len (p : Int → Bool) (a : List Int) (k : Nat) : (accA p a k).length ≤ a.length := by
  have h1 := List.length_filter_le p (a.take k)
  have h2 := List.length_take_le' k a
  unfold accA; omega
theorem unite_no {a b : List Int} (h : (setB a && setB b) = false) : uniteL a b = [] := by unfold uniteL; rw [h]; rfl
theorem unite_yes {a b : List Int} (h1 : setB a = true) (h2 : setB b = true) : uniteL a b = accU (fun x => decide (x ∈ a) || decide (x ∈ b)) 24 := by unfold uniteL; rw [h1, h2]; rfl
theorem meet_no {a b : List Int} (h : (setB a && setB b) = false) : meetL a b = [] := by unfold meetL; rw [h]; rfl
theorem meet_yes {a b : List Int} (h1 : setB a = true) (h2 : setB b = true) : meetL a b = accA (fun x => decide (x ∈ b)) a a.length := by unfold meetL accA; rw [h1, h2, List.take_length]; rfl
theorem sub_no {a b : List Int} (h : (setB a && setB b) = false) : subL a b = [] := by unfold subL; rw [h]; rfl
theorem sub_yes {a b : List Int} (h1 : setB a = true) (h2 : setB b = true) : subL a b = accA (fun x => !decide (x ∈ b)) a a.length := by unfold subL accA; rw [h1, h2, List.take_length]; rfl
set_option maxHeartbeats 2000000 in
set_option maxRecDepth 100000 in
theorem specUnite (va vb : Value) (a b : List Int) (w : World) (ha : Ints w va a) (hb : Ints w vb b) (na : a.length ≤ 1048576) (nb : b.length ≤ 1048576) :
    Calls Tryd.prog 11 #[va, vb] w (Fresh w (uniteL a b)) := by
  have HA := Lib.hid ha
  have HB := Lib.hid hb
  have NA := Lib.hid na
  have NB := Lib.hid nb
  clear ha hb na nb
  by_cases hsa : setB a = true
  · by_cases hsb : setB b = true
    · have HU := Lib.hid (unite_yes hsa hsb)
      have SA := Lib.hid hsa
      have SB := Lib.hid hsb
      clear hsa hsb
      generalize hp : (fun x => decide (x ∈ a) || decide (x ∈ b)) = p at HU
      have HP := Lib.hid hp
      clear hp
      go_enter Tryd.func11, Tryd.ntmps11
      go_wp2
      go_loopw [5, 6] (fun v i wr => ∃ k : Nat, k ≤ 24 ∧ i = .int .i64 k ∧ OwnsN wr w.heap.size v (accU p k) ∧ Below w.heap.size w wr) (fun _ i _ => 24 - (intOf i).toNat)
      case atStart => exact ⟨0, Nat.zero_le _, rfl, ownsN_lit w _ (Nat.le_refl _) #[] 0 [] rfl rfl (by decide), (Below.refl _ _).alloc (Nat.le_refl _) _⟩
      case round =>
        obtain ⟨k, hk, rfl, hown, hbel⟩ := hrel
        by_cases hlt : k < 24
        · have HL := Lib.hid (accU_len p k)
          have HK := Lib.hid (congrFun HP.out (k : Int))
          go_wp2_with fail
          refine (specIsSet va a _ (ints_below HA.out hbel) NA.out).mono ?_
          rintro e w1 ⟨rfl, hb1⟩
          rw [SA.out]
          have hown1 := ownsN_below hown hb1
          have hbel1 := hbel.trans (hb1.mono hbel.size)
          clear hown hbel hb1
          go_wp2_with fail
          refine (specIsSet vb b _ (ints_below HB.out hbel1) NB.out).mono ?_
          rintro e w2 ⟨rfl, hb2⟩
          rw [SB.out]
          have hown2 := ownsN_below hown1 hb2
          have hbel2 := hbel1.trans (hb2.mono hbel1.size)
          have hB2 := hbel2.size
          clear hown1 hbel1 hb2
          go_wp2_with fail
          refine (specHas va a k _ (ints_below HA.out hbel2) NA.out).mono ?_
          rintro e w3 ⟨rfl, rfl⟩
          cases hma : decide ((k : Int) ∈ a) with
          | true =>
            have HT : Hid (p (k : Int) = true) := Lib.hid (by rw [← HK.out, hma]; rfl)
            clear hma
            go_wp2_with (at_builtin; refine append_ints rfl (.tmp 28) (.tmp 30) rfl w.heap.size _ _ rfl hown2 hB2 _ [(k : Int)] 1 _ rfl (by first | rfl | (simp; done)) rfl (by have := HL.out; simp; omega) ?_)
            intro v' w4 hown3 hb3
            rw [accU_yes HT.out] at hown3
            have hb4 := hbel2.trans hb3
            clear hown2 hbel2 hb3
            go_wp2
            go_roundw
            case rel => exact ⟨k + 1, by omega, by go_num, hown3, hb4⟩
            case measure => simp [intOf]; omega
          | false =>
            have HQ : Hid (p (k : Int) = decide ((k : Int) ∈ b)) := Lib.hid (by rw [← HK.out, hma]; rfl)
            clear hma
            go_wp2_with fail
            refine (specHas vb b k _ (ints_below HB.out hbel2) NB.out).mono ?_
            rintro e w3 ⟨rfl, rfl⟩
            cases hmb : decide ((k : Int) ∈ b) with
            | true =>
              have HT : Hid (p (k : Int) = true) := Lib.hid (by rw [HQ.out, hmb])
              clear hmb
              go_wp2_with (at_builtin; refine append_ints rfl (.tmp 28) (.tmp 30) rfl w.heap.size _ _ rfl hown2 hB2 _ [(k : Int)] 1 _ rfl (by first | rfl | (simp; done)) rfl (by have := HL.out; simp; omega) ?_)
              intro v' w4 hown3 hb3
              rw [accU_yes HT.out] at hown3
              have hb4 := hbel2.trans hb3
              clear hown2 hbel2 hb3
              go_wp2
              go_roundw
              case rel => exact ⟨k + 1, by omega, by go_num, hown3, hb4⟩
              case measure => simp [intOf]; omega
            | false =>
              have HT : Hid (p (k : Int) = false) := Lib.hid (by rw [HQ.out, hmb])
              clear hmb
              rw [accU_no HT.out] at hown2
              go_wp2
              go_roundw
              case rel => exact ⟨k + 1, by omega, by go_num, hown2, hbel2⟩
              case measure => simp [intOf]; omega
        · obtain rfl : k = 24 := by omega
          rw [← HU.out] at hown
          go_wp2
          go_ret
          exact ⟨_, rfl, hown, hbel⟩
    · have HE := Lib.hid (unite_no (a := a) (b := b) (by simp [hsb]))
      have SA := Lib.hid hsa
      have SB := Lib.hid (show setB b = false by simpa using hsb)
      clear hsa hsb
      rw [HE.out]
      go_enter Tryd.func11, Tryd.ntmps11
      go_wp2
      have hown := ownsN_lit w w.heap.size (Nat.le_refl _) #[] 0 [] rfl rfl (by decide)
      have hbel := (Below.refl w.heap.size w).alloc (Nat.le_refl _) (.cells #[] 3)
      generalize w.alloc (.cells #[] 3) = w0 at hown hbel ⊢
      go_loopw [5, 6] (fun v i wr => wr = w0 ∧ i = .int .i64 0 ∧ v = .slice (some ⟨w.heap.size, 0, none⟩) 0 0) (fun _ _ _ => 0)
      case atStart => exact ⟨rfl, rfl, rfl⟩
      case round =>
        obtain ⟨rfl, rfl, rfl⟩ := hrel
        go_wp2_with fail
        refine (specIsSet va a _ (ints_below HA.out hbel) NA.out).mono ?_
        rintro e w1 ⟨rfl, hb1⟩
        rw [SA.out]
        have hown1 := ownsN_below hown hb1
        have hbel1 := hbel.trans (hb1.mono hbel.size)
        clear hown hbel hb1
        go_wp2_with fail
        refine (specIsSet vb b _ (ints_below HB.out hbel1) NB.out).mono ?_
        rintro e w2 ⟨rfl, hb2⟩
        rw [SB.out]
        have hown2 := ownsN_below hown1 hb2
        have hbel2 := hbel1.trans (hb2.mono hbel1.size)
        clear hown1 hbel1 hb2
        go_wp2
        go_ret
        exact ⟨_, rfl, hown2, hbel2⟩
  · have HE := Lib.hid (unite_no (a := a) (b := b) (by simp [hsa]))
    have SA := Lib.hid (show setB a = false by simpa using hsa)
    clear hsa
    rw [HE.out]
    go_enter Tryd.func11, Tryd.ntmps11
    go_wp2
    have hown := ownsN_lit w w.heap.size (Nat.le_refl _) #[] 0 [] rfl rfl (by decide)
    have hbel := (Below.refl w.heap.size w).alloc (Nat.le_refl _) (.cells #[] 3)
    generalize w.alloc (.cells #[] 3) = w0 at hown hbel ⊢
    go_loopw [5, 6] (fun v i wr => wr = w0 ∧ i = .int .i64 0 ∧ v = .slice (some ⟨w.heap.size, 0, none⟩) 0 0) (fun _ _ _ => 0)
    case atStart => exact ⟨rfl, rfl, rfl⟩
    case round =>
      obtain ⟨rfl, rfl, rfl⟩ := hrel
      go_wp2_with fail
      refine (specIsSet va a _ (ints_below HA.out hbel) NA.out).mono ?_
      rintro e w1 ⟨rfl, hb1⟩
      rw [SA.out]
      have hown1 := ownsN_below hown hb1
      have hbel1 := hbel.trans (hb1.mono hbel.size)
      clear hown hbel hb1
      go_wp2
      go_ret
      exact ⟨_, rfl, hown1, hbel1⟩
/-! ### Meet -/
set_option maxHeartbeats 2000000 in
set_option maxRecDepth 100000 in
theorem specMeet (va vb : Value) (a b : List Int) (w : World) (ha : Ints w va a) (hb : Ints w vb b) (na : a.length ≤ 1048576) (nb : b.length ≤ 1048576) :
    Calls Tryd.prog 12 #[va, vb] w (Fresh w (meetL a b)) := by
  have HA := Lib.hid ha
  have HB := Lib.hid hb
  have NA := Lib.hid na
  have NB := Lib.hid nb
  obtain ⟨ao, cap, hva⟩ := ints_len ha
  clear ha hb nb
  by_cases hsa : setB a = true
  · by_cases hsb : setB b = true
    · have HU := Lib.hid (meet_yes hsa hsb)
      have SA := Lib.hid hsa
      have SB := Lib.hid hsb
      clear hsa hsb
      generalize hp : (fun x => decide (x ∈ b)) = p at HU
      have HP := Lib.hid hp
      clear hp
      subst hva
      go_enter Tryd.func12, Tryd.ntmps12
      go_wp2
      go_loopw [5, 6] (fun v i wr => ∃ k : Nat, k ≤ a.length ∧ i = .int .i64 k ∧ OwnsN wr w.heap.size v (accA p a k) ∧ Below w.heap.size w wr) (fun _ i _ => a.length - (intOf i).toNat)
      case atStart => exact ⟨0, Nat.zero_le _, rfl, ownsN_lit w _ (Nat.le_refl _) #[] 0 [] rfl rfl (by decide), (Below.refl _ _).alloc (Nat.le_refl _) _⟩
      case round =>
        obtain ⟨k, hk, rfl, hown, hbel⟩ := hrel
        by_cases hlt : k < a.length
        · have HL := Lib.hid (accA_len p a k)
          have HK := Lib.hid (congrFun HP.out (a.getD k 0))
          have i1 : (0 : Int) ≤ (k : Int) := by omega
          have i2 : (k : Int) < (a.length : Int) := by omega
          go_wp2_with fail
          refine (specIsSet _ a _ (ints_below HA.out hbel) NA.out).mono ?_
          rintro e w1 ⟨rfl, hb1⟩
          rw [SA.out]
          have hown1 := ownsN_below hown hb1
          have hbel1 := hbel.trans (hb1.mono hbel.size)
          clear hown hbel hb1
          go_wp2_with fail
          refine (specIsSet vb b _ (ints_below HB.out hbel1) NB.out).mono ?_
          rintro e w2 ⟨rfl, hb2⟩
          rw [SB.out]
          have hown2 := ownsN_below hown1 hb2
          have hbel2 := hbel1.trans (hb2.mono hbel1.size)
          have hB2 := hbel2.size
          clear hown1 hbel1 hb2
          obtain ⟨bb, off, cap', hv, hbl, hc⟩ := ints_cell HA.out (by omega)
          simp only [Value.slice.injEq] at hv
          obtain ⟨rfl, _, rfl⟩ := hv
          have hcell := (hbel2.cell (p := ⟨bb, off + k, none⟩) hbl).trans (hc k hlt)
          have HYES := Lib.hid (fun h => accA_yes (p := p) hlt h)
          have HNO := Lib.hid (fun h => accA_no (p := p) hlt h)
          clear hc
          generalize a.getD k 0 = y at hcell HK HYES HNO
          go_wp2_with fail
          refine (specHas vb b y _ (ints_below HB.out hbel2) NB.out).mono ?_
          rintro e w3 ⟨rfl, rfl⟩
          cases hmb : decide (y ∈ b) with
          | true =>
            have HT : Hid (p y = true) := Lib.hid (by rw [← HK.out]; simp [hmb])
            clear hmb
            go_wp2_with (at_builtin; refine append_ints rfl (.tmp 28) (.tmp 33) rfl w.heap.size _ _ rfl hown2 hB2 _ [y] 1 _ rfl (by first | rfl | (simp; done)) rfl (by have := HL.out; have := NA.out; simp; omega) ?_)
            intro v' w4 hown3 hb3
            rw [HYES.out HT.out] at hown3
            have hb4 := hbel2.trans hb3
            clear hown2 hbel2 hb3 hcell
            go_wp2
            go_roundw
            case rel => exact ⟨k + 1, by omega, by go_num, hown3, hb4⟩
            case measure => simp [intOf]; omega
          | false =>
            have HT : Hid (p y = false) := Lib.hid (by rw [← HK.out]; simp [hmb])
            clear hmb
            rw [HNO.out HT.out] at hown2
            go_wp2
            go_roundw
            case rel => exact ⟨k + 1, by omega, by go_num, hown2, hbel2⟩
            case measure => simp [intOf]; omega
        · obtain rfl : k = a.length := by omega
          rw [← HU.out] at hown
          go_wp2
          go_ret
          exact ⟨_, rfl, hown, hbel⟩
    · have HE := Lib.hid (meet_no (a := a) (b := b) (by simp [hsb]))
      have SA := Lib.hid hsa
      have SB := Lib.hid (show setB b = false by simpa using hsb)
      clear hsa hsb
      rw [HE.out]
      subst hva
      go_enter Tryd.func12, Tryd.ntmps12
      go_wp2
      have hown := ownsN_lit w w.heap.size (Nat.le_refl _) #[] 0 [] rfl rfl (by decide)
      have hbel := (Below.refl w.heap.size w).alloc (Nat.le_refl _) (.cells #[] 3)
      generalize w.alloc (.cells #[] 3) = w0 at hown hbel ⊢
      go_loopw [5, 6] (fun v i wr => wr = w0 ∧ i = .int .i64 0 ∧ v = .slice (some ⟨w.heap.size, 0, none⟩) 0 0) (fun _ _ _ => 0)
      case atStart => exact ⟨rfl, rfl, rfl⟩
      case round =>
        obtain ⟨rfl, rfl, rfl⟩ := hrel
        by_cases hl : 0 < a.length
        · go_wp2_with fail
          refine (specIsSet _ a _ (ints_below HA.out hbel) NA.out).mono ?_
          rintro e w1 ⟨rfl, hb1⟩
          rw [SA.out]
          have hown1 := ownsN_below hown hb1
          have hbel1 := hbel.trans (hb1.mono hbel.size)
          clear hown hbel hb1
          go_wp2_with fail
          refine (specIsSet vb b _ (ints_below HB.out hbel1) NB.out).mono ?_
          rintro e w2 ⟨rfl, hb2⟩
          rw [SB.out]
          have hown2 := ownsN_below hown1 hb2
          have hbel2 := hbel1.trans (hb2.mono hbel1.size)
          clear hown1 hbel1 hb2
          go_wp2
          go_ret
          exact ⟨_, rfl, hown2, hbel2⟩
        · have hl2 : ¬ ((0 : Int) < (a.length : Int)) := by omega
          go_wp2
          go_ret
          exact ⟨_, rfl, hown, hbel⟩
  · have HE := Lib.hid (meet_no (a := a) (b := b) (by simp [hsa]))
    have SA := Lib.hid (show setB a = false by simpa using hsa)
    clear hsa
    rw [HE.out]
    subst hva
    go_enter Tryd.func12, Tryd.ntmps12
    go_wp2
    have hown := ownsN_lit w w.heap.size (Nat.le_refl _) #[] 0 [] rfl rfl (by decide)
    have hbel := (Below.refl w.heap.size w).alloc (Nat.le_refl _) (.cells #[] 3)
    generalize w.alloc (.cells #[] 3) = w0 at hown hbel ⊢
    go_loopw [5, 6] (fun v i wr => wr = w0 ∧ i = .int .i64 0 ∧ v = .slice (some ⟨w.heap.size, 0, none⟩) 0 0) (fun _ _ _ => 0)
    case atStart => exact ⟨rfl, rfl, rfl⟩
    case round =>
      obtain ⟨rfl, rfl, rfl⟩ := hrel
      by_cases hl : 0 < a.length
      · go_wp2_with fail
        refine (specIsSet _ a _ (ints_below HA.out hbel) NA.out).mono ?_
        rintro e w1 ⟨rfl, hb1⟩
        rw [SA.out]
        have hown1 := ownsN_below hown hb1
        have hbel1 := hbel.trans (hb1.mono hbel.size)
        clear hown hbel hb1
        go_wp2
        go_ret
        exact ⟨_, rfl, hown1, hbel1⟩
      · have hl2 : ¬ ((0 : Int) < (a.length : Int)) := by omega
        go_wp2
        go_ret
        exact ⟨_, rfl, hown, hbel⟩
/-! ### Sub -/
set_option maxHeartbeats 2000000 in
set_option maxRecDepth 100000 in
theorem specSub (va vb : Value) (a b : List Int) (w : World) (ha : Ints w va a) (hb : Ints w vb b) (na : a.length ≤ 1048576) (nb : b.length ≤ 1048576) :
    Calls Tryd.prog 13 #[va, vb] w (Fresh w (subL a b)) := by
  have HA := Lib.hid ha
  have HB := Lib.hid hb
  have NA := Lib.hid na
  have NB := Lib.hid nb
  obtain ⟨ao, cap, hva⟩ := ints_len ha
  clear ha hb nb
  by_cases hsa : setB a = true
  · by_cases hsb : setB b = true
    · have HU := Lib.hid (sub_yes hsa hsb)
      have SA := Lib.hid hsa
      have SB := Lib.hid hsb
      clear hsa hsb
      generalize hp : (fun x => !decide (x ∈ b)) = p at HU
      have HP := Lib.hid hp
      clear hp
      subst hva
      go_enter Tryd.func13, Tryd.ntmps13
      go_wp2
      go_loopw [5, 6] (fun v i wr => ∃ k : Nat, k ≤ a.length ∧ i = .int .i64 k ∧ OwnsN wr w.heap.size v (accA p a k) ∧ Below w.heap.size w wr) (fun _ i _ => a.length - (intOf i).toNat)
      case atStart => exact ⟨0, Nat.zero_le _, rfl, ownsN_lit w _ (Nat.le_refl _) #[] 0 [] rfl rfl (by decide), (Below.refl _ _).alloc (Nat.le_refl _) _⟩
      case round =>
        obtain ⟨k, hk, rfl, hown, hbel⟩ := hrel
        by_cases hlt : k < a.length
        · have HL := Lib.hid (accA_len p a k)
          have HK := Lib.hid (congrFun HP.out (a.getD k 0))
          have i1 : (0 : Int) ≤ (k : Int) := by omega
          have i2 : (k : Int) < (a.length : Int) := by omega
          go_wp2_with fail
          refine (specIsSet _ a _ (ints_below HA.out hbel) NA.out).mono ?_
          rintro e w1 ⟨rfl, hb1⟩
          rw [SA.out]
          have hown1 := ownsN_below hown hb1
          have hbel1 := hbel.trans (hb1.mono hbel.size)
          clear hown hbel hb1
          go_wp2_with fail
          refine (specIsSet vb b _ (ints_below HB.out hbel1) NB.out).mono ?_
          rintro e w2 ⟨rfl, hb2⟩
          rw [SB.out]
          have hown2 := ownsN_below hown1 hb2
          have hbel2 := hbel1.trans (hb2.mono hbel1.size)
          have hB2 := hbel2.size
          clear hown1 hbel1 hb2
          obtain ⟨bb, off, cap', hv, hbl, hc⟩ := ints_cell HA.out (by omega)
          simp only [Value.slice.injEq] at hv
          obtain ⟨rfl, _, rfl⟩ := hv
          have hcell := (hbel2.cell (p := ⟨bb, off + k, none⟩) hbl).trans (hc k hlt)
          have HYES := Lib.hid (fun h => accA_yes (p := p) hlt h)
          have HNO := Lib.hid (fun h => accA_no (p := p) hlt h)
          clear hc
          generalize a.getD k 0 = y at hcell HK HYES HNO
          go_wp2_with fail
          refine (specHas vb b y _ (ints_below HB.out hbel2) NB.out).mono ?_
          rintro e w3 ⟨rfl, rfl⟩
          cases hmb : decide (y ∈ b) with
          | false =>
            have HT : Hid (p y = true) := Lib.hid (by rw [← HK.out]; simp [hmb])
            clear hmb
            go_wp2_with (at_builtin; refine append_ints rfl (.tmp 29) (.tmp 34) rfl w.heap.size _ _ rfl hown2 hB2 _ [y] 1 _ rfl (by first | rfl | (simp; done)) rfl (by have := HL.out; have := NA.out; simp; omega) ?_)
            intro v' w4 hown3 hb3
            rw [HYES.out HT.out] at hown3
            have hb4 := hbel2.trans hb3
            clear hown2 hbel2 hb3 hcell
            go_wp2
            go_roundw
            case rel => exact ⟨k + 1, by omega, by go_num, hown3, hb4⟩
            case measure => simp [intOf]; omega
          | true =>
            have HT : Hid (p y = false) := Lib.hid (by rw [← HK.out]; simp [hmb])
            clear hmb
            rw [HNO.out HT.out] at hown2
            go_wp2
            go_roundw
            case rel => exact ⟨k + 1, by omega, by go_num, hown2, hbel2⟩
            case measure => simp [intOf]; omega
        · obtain rfl : k = a.length := by omega
          rw [← HU.out] at hown
          go_wp2
          go_ret
          exact ⟨_, rfl, hown, hbel⟩
    · have HE := Lib.hid (sub_no (a := a) (b := b) (by simp [hsb]))
      have SA := Lib.hid hsa
      have SB := Lib.hid (show setB b = false by simpa using hsb)
      clear hsa hsb
      rw [HE.out]
      subst hva
      go_enter Tryd.func13, Tryd.ntmps13
      go_wp2
      have hown := ownsN_lit w w.heap.size (Nat.le_refl _) #[] 0 [] rfl rfl (by decide)
      have hbel := (Below.refl w.heap.size w).alloc (Nat.le_refl _) (.cells #[] 3)
      generalize w.alloc (.cells #[] 3) = w0 at hown hbel ⊢
      go_loopw [5, 6] (fun v i wr => wr = w0 ∧ i = .int .i64 0 ∧ v = .slice (some ⟨w.heap.size, 0, none⟩) 0 0) (fun _ _ _ => 0)
      case atStart => exact ⟨rfl, rfl, rfl⟩
      case round =>
        obtain ⟨rfl, rfl, rfl⟩ := hrel
        by_cases hl : 0 < a.length
        · go_wp2_with fail
          refine (specIsSet _ a _ (ints_below HA.out hbel) NA.out).mono ?_
          rintro e w1 ⟨rfl, hb1⟩
          rw [SA.out]
          have hown1 := ownsN_below hown hb1
          have hbel1 := hbel.trans (hb1.mono hbel.size)
          clear hown hbel hb1
          go_wp2_with fail
          refine (specIsSet vb b _ (ints_below HB.out hbel1) NB.out).mono ?_
          rintro e w2 ⟨rfl, hb2⟩
          rw [SB.out]
          have hown2 := ownsN_below hown1 hb2
          have hbel2 := hbel1.trans (hb2.mono hbel1.size)
          clear hown1 hbel1 hb2
          go_wp2
          go_ret
          exact ⟨_, rfl, hown2, hbel2⟩
        · have hl2 : ¬ ((0 : Int) < (a.length : Int)) := by omega
          go_wp2
          go_ret
          exact ⟨_, rfl, hown, hbel⟩
  · have HE := Lib.hid (sub_no (a := a) (b := b) (by simp [hsa]))
    have SA := Lib.hid (show setB a = false by simpa using hsa)
    clear hsa
    rw [HE.out]
    subst hva
    go_enter Tryd.func13, Tryd.ntmps13
    go_wp2
    have hown := ownsN_lit w w.heap.size (Nat.le_refl _) #[] 0 [] rfl rfl (by decide)
    have hbel := (Below.refl w.heap.size w).alloc (Nat.le_refl _) (.cells #[] 3)
    generalize w.alloc (.cells #[] 3) = w0 at hown hbel ⊢
    go_loopw [5, 6] (fun v i wr => wr = w0 ∧ i = .int .i64 0 ∧ v = .slice (some ⟨w.heap.size, 0, none⟩) 0 0) (fun _ _ _ => 0)
    case atStart => exact ⟨rfl, rfl, rfl⟩
    case round =>
      obtain ⟨rfl, rfl, rfl⟩ := hrel
      by_cases hl : 0 < a.length
      · go_wp2_with fail
        refine (specIsSet _ a _ (ints_below HA.out hbel) NA.out).mono ?_
        rintro e w1 ⟨rfl, hb1⟩
        rw [SA.out]
        have hown1 := ownsN_below hown hb1
        have hbel1 := hbel.trans (hb1.mono hbel.size)
        clear hown hbel hb1
        go_wp2
        go_ret
        exact ⟨_, rfl, hown1, hbel1⟩
      · have hl2 : ¬ ((0 : Int) < (a.length : Int)) := by omega
        go_wp2
        go_ret
        exact ⟨_, rfl, hown, hbel⟩
end Go.Proofs.YtnfmhiephdhopaaDoor
namespace Go.Proofs.YtnfmhiephdhopaaDoor
open Go.RowKit
set_option linter.unusedVariables false
theorem nat_u32 (a : Nat) (ha : a < 4294967296) : (BitVec.ofInt 32 (a : Int)).toNat = a := by
  rw [BitVec.ofInt_natCast, BitVec.toNat_ofNat]; exact Nat.mod_eq_of_lt (by omega)
theorem and_u32 (a b : Nat) (ha : a < 4294967296) (hb : b < 4294967296) : bits .and .u32 (a : Int) (b : Int) = ((a &&& b : Nat) : Int) := by
  have hx : a &&& b < 2 ^ 32 := Nat.and_lt_two_pow _ (by omega)
  show IntKind.u32.wrap ((BitVec.ofInt 32 (a : Int) &&& BitVec.ofInt 32 (b : Int)).toNat : Int) = _
  rw [BitVec.toNat_and, nat_u32 a ha, nat_u32 b hb, IntKind.wrap_u32]
  omega
theorem or_u32 (a b : Nat) (ha : a < 4294967296) (hb : b < 4294967296) : bits .or .u32 (a : Int) (b : Int) = ((a ||| b : Nat) : Int) := by
  have hx : a ||| b < 2 ^ 32 := Nat.or_lt_two_pow (by omega) (by omega)
  show IntKind.u32.wrap ((BitVec.ofInt 32 (a : Int) ||| BitVec.ofInt 32 (b : Int)).toNat : Int) = _
  rw [BitVec.toNat_or, nat_u32 a ha, nat_u32 b hb, IntKind.wrap_u32]
  omega
theorem andNot_u32 (a b : Nat) (ha : a < 4294967296) (hb : b < 4294967296) : bits .andNot .u32 (a : Int) (b : Int) = ((a &&& (4294967295 ^^^ b) : Nat) : Int) := by
  have hy : 4294967295 ^^^ b < 2 ^ 32 := Nat.xor_lt_two_pow (by omega) (by omega)
  have hx : a &&& (4294967295 ^^^ b) < 2 ^ 32 := Nat.and_lt_two_pow _ (by omega)
  have e : ~~~ (BitVec.ofInt 32 (b : Int)) = BitVec.ofNat 32 4294967295 ^^^ BitVec.ofInt 32 (b : Int) := by
    rw [show BitVec.ofNat 32 4294967295 = BitVec.allOnes 32 from rfl, BitVec.allOnes_xor]
  show IntKind.u32.wrap ((BitVec.ofInt 32 (a : Int) &&& ~~~ BitVec.ofInt 32 (b : Int)).toNat : Int) = _
  rw [e, BitVec.toNat_and, BitVec.toNat_xor, nat_u32 a ha, nat_u32 b hb, IntKind.wrap_u32]
  simp
  omega
theorem isQuery (x : Int) (w : World) : Calls Tryd.prog 40 #[.int .i64 x] w fun e w' => e = .returned (.bool (decide (0 ≤ x ∧ x ≤ 23))) ∧ w' = w := by
  by_cases h0 : 0 ≤ x
  · by_cases h1 : x ≤ 23
    · rw [decide_eq_true (show 0 ≤ x ∧ x ≤ 23 from ⟨h0, h1⟩)]
      have h2 : x < 24 := by omega
      go_enter Tryd.func40, Tryd.ntmps40
      go_wp2
      go_ret
      exact ⟨rfl, rfl⟩
    · rw [decide_eq_false (show ¬ (0 ≤ x ∧ x ≤ 23) by omega)]
      have h2 : ¬ x < 24 := by omega
      go_enter Tryd.func40, Tryd.ntmps40
      go_wp2
      go_ret
      exact ⟨rfl, rfl⟩
  · rw [decide_eq_false (show ¬ (0 ≤ x ∧ x ≤ 23) by omega)]
    go_enter Tryd.func40, Tryd.ntmps40
    go_wp2
    go_ret
    exact ⟨rfl, rfl⟩
theorem pair_eq {a b : Nat} {x y : Bool} (h1 : a = b) (h2 : x = y) : Ending.returned (.tuple #[.int .u32 (a : Int), .bool x]) = .returned (.tuple #[.int .u32 (b : Int), .bool y]) := by rw [h1, h2]
set_option maxHeartbeats 2000000 in
set_option maxRecDepth 100000 in
theorem implMaskOf (va : Value) (a : List Int) (w : World) (h : Ints w va a) (hn : a.length ≤ 1073741824) :
    Calls Tryd.prog 29 #[va] w fun e w' => e = .returned (.tuple #[.int .u32 (maskL a : Nat), .bool (setB a)]) ∧ Below w.heap.size w w' := by
  obtain ⟨ap, cap, hva⟩ := ints_len h
  have HA := Lib.hid h
  have HN := Lib.hid hn
  clear h hn
  subst hva
  go_enter Tryd.func29, Tryd.ntmps29
  go_wp2
  go_loopw [4, 9] (fun m i wr => ∃ k : Nat, k ≤ a.length ∧ i = .int .i64 k ∧ Hid (SetTo a k) ∧ m = .int .u32 (maskTo a k : Nat) ∧ wr = w) (fun _ i _ => a.length - (intOf i).toNat)
  case atStart => exact ⟨0, Nat.zero_le _, rfl, Lib.hid ⟨fun i hi => by omega, fun i hi => by omega⟩, by rw [maskTo_zero]; rfl, rfl⟩
  case round =>
    obtain ⟨k, hk, rfl, hset, rfl, rfl⟩ := hrel
    by_cases hlt : k < a.length
    · obtain ⟨b, off, cap', hv, hbl, hc⟩ := ints_cell HA.out (by omega)
      simp only [Value.slice.injEq] at hv
      obtain ⟨rfl, _, rfl⟩ := hv
      have hcell := hc k hlt
      have i1 : (0 : Int) ≤ (k : Int) := by omega
      have i2 : (k : Int) < (a.length : Int) := by omega
      clear hc
      by_cases hr : 0 ≤ a.getD k 0 ∧ a.getD k 0 ≤ 23
      · obtain ⟨x, hx⟩ : ∃ x : Nat, a.getD k 0 = (x : Int) := ⟨(a.getD k 0).toNat, by omega⟩
        have hx23 : x ≤ 23 := by omega
        have HQ := Lib.hid (show decide (0 ≤ (x : Int) ∧ (x : Int) ≤ 23) = true from decide_eq_true (by omega))
        have hnext := maskTo_next hlt hset.out hx hx23
        have HST := Lib.hid (maskTo_step hlt)
        rw [hx] at hcell HST
        have HM0 := Lib.hid (maskTo_lt24 (Nat.le_of_lt hlt) hset.out)
        have hdiv : ((maskTo a k : Nat) : Int) / 2 ^ x = ((maskTo a k / 2 ^ x : Nat) : Int) := by norm_cast
        by_cases hz : maskTo a k / 2 ^ x = 0
        · have HS1 := Lib.hid (hnext.1 hz)
          have HB : ((maskTo a k : Int) / 2 ^ x != 0) = false := by rw [hdiv, hz]; rfl
          have HP : Hid (2 ^ x < 16777216 ∧ ((2 : Int) ^ x % 4294967296 = ((2 ^ x : Nat) : Int))) := by
            have h2 : 2 ^ x < 2 ^ 24 := Nat.pow_lt_pow_right (by omega) (show x < 24 by omega)
            have h3 : (2 : Int) ^ x = ((2 ^ x : Nat) : Int) := by norm_cast
            exact Lib.hid ⟨h2, by rw [h3]; clear h3; generalize 2 ^ x = q at *; omega⟩
          have HK := Lib.hid hlt
          clear hr hnext hx hz hset hk hlt hdiv
          generalize maskTo a k = m at *
          go_wp2_with fail
          refine (isQuery _ _).mono ?_
          rintro e w1 ⟨rfl, rfl⟩
          rw [HQ.out]
          have hn := HN.out
          go_wp2
          go_roundw
          case rel => exact ⟨k + 1, HK.out, by go_num, HS1, by rw [HP.out.2, or_u32 m _ (by have := HM0.out; omega) (by have := HP.out.1; omega), HST.out]; rfl, by first | rfl | trivial⟩
          case measure => have := HK.out; simp [intOf]; omega
        · have HF := Lib.hid (setB_no (l := a) (fun g => hz (hnext.2 ⟨fun i hi => g.1 i (by omega), fun i hi => g.2 i (by omega)⟩)))
          have HB : ((maskTo a k : Int) / 2 ^ x != 0) = true := by rw [hdiv, bne_iff_ne]; omega
          clear hr hnext hx hz hset hk hlt hdiv
          generalize maskTo a k = m at *
          go_wp2_with fail
          refine (isQuery _ _).mono ?_
          rintro e w1 ⟨rfl, rfl⟩
          rw [HQ.out]
          go_wp2
          go_ret2
          exact ⟨pair_eq (a := 0) (maskL_no HF.out).symm HF.out.symm, Below.refl _ _⟩
      · have HF := Lib.hid (setB_no (not_set_range hlt hr))
        have HQ := Lib.hid (show decide (0 ≤ a.getD k 0 ∧ a.getD k 0 ≤ 23) = false from decide_eq_false hr)
        clear hr hset hk hlt
        generalize maskTo a k = m at *
        generalize a.getD k 0 = x at *
        go_wp2_with fail
        refine (isQuery _ _).mono ?_
        rintro e w1 ⟨rfl, rfl⟩
        rw [HQ.out]
        go_wp2
        go_ret2
        exact ⟨pair_eq (a := 0) (maskL_no HF.out).symm HF.out.symm, Below.refl _ _⟩
    · obtain rfl : k = a.length := by omega
      have HS := Lib.hid ((setTo_all a).1 hset.out)
      have HE := Lib.hid (maskL_yes HS.out)
      clear hset hk hlt
      generalize maskTo a a.length = m at *
      go_wp2
      go_ret2
      exact ⟨pair_eq HE.out.symm ((setB_iff a).2 HS.out).symm, Below.refl _ _⟩
set_option maxHeartbeats 2000000 in
set_option maxRecDepth 100000 in
theorem implIsSet (va : Value) (a : List Int) (w : World) (h : Ints w va a) (hn : a.length ≤ 1048576) :
    Calls Tryd.prog 14 #[va] w fun e w' => e = .returned (.bool (setB a)) ∧ Below w.heap.size w w' := by
  have H := Lib.hid (fun w h => implMaskOf va a w h (by omega))
  have HA := Lib.hid h
  clear h hn
  go_enter Tryd.func14, Tryd.ntmps14
  go_wp2_with fail
  refine (H.out _ HA.out).mono ?_
  rintro e w1 ⟨rfl, b1⟩
  go_wp2
  go_ret
  exact ⟨rfl, b1⟩
set_option maxHeartbeats 2000000 in
theorem implMasksOf (va vb : Value) (a b : List Int) (w : World) (ha : Ints w va a) (hb : Ints w vb b) (na : a.length ≤ 1048576) (nb : b.length ≤ 1048576) :
    Calls Tryd.prog 26 #[va, vb] w fun e w' => e = .returned (.tuple #[.int .u32 (maskA a b : Nat), .int .u32 (maskB a b : Nat)]) ∧ Below w.heap.size w w' := by
  have H1 := Lib.hid (fun w h => implMaskOf va a w h (by omega))
  have H2 := Lib.hid (fun w h => implMaskOf vb b w h (by omega))
  have HA := Lib.hid ha
  have HB := Lib.hid hb
  have hA : maskA a b = if (setB a && setB b) = true then maskL a else 0 := rfl
  have hB : maskB a b = if (setB a && setB b) = true then maskL b else 0 := rfl
  generalize maskA a b = ma at *
  generalize maskB a b = mb at *
  clear ha hb na nb
  generalize maskL a = la at *
  generalize maskL b = lb at *
  generalize setB a = sa at *
  generalize setB b = sb at *
  go_enter Tryd.func26, Tryd.ntmps26
  cases sa <;> cases sb <;> simp at hA hB <;> subst hA hB
  all_goals
    go_wp2_with fail
    refine (H1.out _ HA.out).mono ?_
    rintro e w1 ⟨rfl, b1⟩
    go_wp2_with fail
    refine (H2.out _ (ints_below HB.out b1)).mono ?_
    rintro e w2 ⟨rfl, b2⟩
    have b3 := b1.trans (b2.mono b1.size)
    clear b1 b2
    go_wp2
    go_ret2
    exact ⟨rfl, b3⟩
end Go.Proofs.YtnfmhiephdhopaaDoor
namespace Go.Proofs.YtnfmhiephdhopaaDoor
set_option linter.unusedVariables false
theorem popAux_split : ∀ (a b x : Nat), Lib.popAux (a + b) x = Lib.popAux a x + Lib.popAux b (x / 2 ^ a)
  | 0, b, x => by simp [Lib.popAux]
  | a + 1, b, x => by
    rw [show a + 1 + b = (a + b) + 1 by omega]
    show x % 2 + Lib.popAux (a + b) (x / 2) = x % 2 + Lib.popAux a (x / 2) + Lib.popAux b (x / 2 ^ (a + 1))
    rw [popAux_split a b (x / 2), Nat.div_div_eq_div_mul, Nat.pow_succ, Nat.mul_comm (2 ^ a) 2, Nat.add_assoc]
theorem popAux_zero : ∀ a : Nat, Lib.popAux a 0 = 0
  | 0 => rfl
  | a + 1 => by
    show 0 % 2 + Lib.popAux a (0 / 2) = 0
    simp [popAux_zero a]
theorem popAux_mod : ∀ (a x : Nat), Lib.popAux a (x % 2 ^ a) = Lib.popAux a x
  | 0, x => rfl
  | a + 1, x => by
    show x % 2 ^ (a + 1) % 2 + Lib.popAux a (x % 2 ^ (a + 1) / 2) = x % 2 + Lib.popAux a (x / 2)
    have h1 : x % 2 ^ (a + 1) % 2 = x % 2 := Nat.mod_mod_of_dvd x ⟨2 ^ a, by rw [Nat.pow_succ, Nat.mul_comm]⟩
    have h2 : x % 2 ^ (a + 1) / 2 = x / 2 % 2 ^ a := by
      rw [Nat.pow_succ, Nat.mul_comm, Nat.mod_mul_right_div_self]
    rw [h1, h2, popAux_mod a (x / 2)]
theorem popAux_count : ∀ (f x : Nat), Lib.popAux f x = ((List.range f).filter fun i => x.testBit i).length
  | 0, x => rfl
  | f + 1, x => by
    show x % 2 + Lib.popAux f (x / 2) = _
    rw [List.range_succ_eq_map, List.filter_cons, List.filter_map, popAux_count f (x / 2)]
    have e : (List.filter ((fun i => x.testBit i) ∘ Nat.succ) (List.range f)) = List.filter (fun i => (x / 2).testBit i) (List.range f) := by
      apply List.filter_congr
      intro i _
      show x.testBit (i + 1) = (x / 2).testBit i
      rw [Nat.testBit_add_one]
    rw [e]
    rcases Nat.mod_two_eq_zero_or_one x with h | h
    · have : x.testBit 0 = false := by simp [Nat.testBit_zero, h]
      rw [this]; simp [h]
    · have : x.testBit 0 = true := by simp [Nat.testBit_zero, h]
      rw [this]; simp [h]; omega
theorem ones_byte {y : Nat} (h : y < 256) : Lib.onesCount y = Lib.popAux 8 y := by
  unfold Lib.onesCount
  rw [show (64 : Nat) = 8 + 56 from rfl, popAux_split, Nat.div_eq_of_lt h, popAux_zero, Nat.add_zero]
theorem memL_count (m : Nat) : (memL m).length = Lib.onesCount (m / 65536 % 256) + Lib.onesCount (m / 256 % 256) + Lib.onesCount (m % 256) := by
  rw [ones_byte (Nat.mod_lt _ (by omega)), ones_byte (Nat.mod_lt _ (by omega)), ones_byte (Nat.mod_lt _ (by omega))]
  have e : (memL m).length = Lib.popAux 24 m := by
    rw [popAux_count]; simp [memL, memTo]
  rw [e, show (24 : Nat) = 8 + (8 + 8) from rfl, popAux_split, popAux_split, Nat.div_div_eq_div_mul]
  rw [show (256 : Nat) = 2 ^ 8 from rfl, popAux_mod, popAux_mod, popAux_mod, show (2 : Nat) ^ 8 * 2 ^ 8 = 65536 from rfl]
  omega
/-- How many members. -/
def cntM (m : Nat) : Nat := (memL m).length
theorem memL_le (m : Nat) : (memL m).length ≤ 24 := memTo_len m 24
end Go.Proofs.YtnfmhiephdhopaaDoor
namespace Go.Proofs.YtnfmhiephdhopaaDoor
open Go.RowKit
set_option linter.unusedVariables false
theorem fold_pop : (⟨(([0, 1, 1, 2, 1, 2, 2, 3, 1, 2, 2, 3, 2, 3, 3, 4, 1, 2, 2, 3, 2, 3, 3, 4, 2, 3, 3, 4, 3, 4, 4, 5, 1, 2, 2, 3, 2, 3, 3, 4, 2, 3, 3, 4, 3, 4, 4, 5, 2, 3, 3, 4, 3, 4, 4, 5, 3, 4, 4, 5, 4, 5, 5, 6].append [1, 2, 2, 3, 2, 3, 3, 4, 2, 3, 3, 4, 3, 4, 4, 5, 2, 3, 3, 4, 3, 4, 4, 5, 3, 4, 4, 5, 4, 5, 5, 6, 2, 3, 3, 4, 3, 4, 4, 5, 3, 4, 4, 5, 4, 5, 5, 6, 3, 4, 4, 5, 4, 5, 5, 6, 4, 5, 5, 6, 5, 6, 6, 7]).append ([1, 2, 2, 3, 2, 3, 3, 4, 2, 3, 3, 4, 3, 4, 4, 5, 2, 3, 3, 4, 3, 4, 4, 5, 3, 4, 4, 5, 4, 5, 5, 6, 2, 3, 3, 4, 3, 4, 4, 5, 3, 4, 4, 5, 4, 5, 5, 6, 3, 4, 4, 5, 4, 5, 5, 6, 4, 5, 5, 6, 5, 6, 6, 7].append [2, 3, 3, 4, 3, 4, 4, 5, 3, 4, 4, 5, 4, 5, 5, 6, 3, 4, 4, 5, 4, 5, 5, 6, 4, 5, 5, 6, 5, 6, 6, 7, 3, 4, 4, 5, 4, 5, 5, 6, 4, 5, 5, 6, 5, 6, 6, 7, 4, 5, 5, 6, 5, 6, 6, 7, 5, 6, 6, 7, 6, 7, 7, 8])).toArray⟩ : ByteArray) = Lib.pop8tab := by decide +kernel
theorem ret_i {a b : Int} (h : a = b) : Ending.returned (.int .i64 a) = .returned (.int .i64 b) := by rw [h]
theorem below_drewN {B : Nat} {a w : World} (h : Below B a w) (q : Nat) : Below B a (w.drewN q) := ⟨h.os, h.tape, h.output, h.size, h.block⟩
theorem byte_u32 (x : Int) (h0 : 0 ≤ x) (h1 : x < 4294967296) : 0 ≤ bits .and .u32 x 255 ∧ bits .and .u32 x 255 ≤ 255 := by
  have h : bits .and .u32 x 255 = x % 256 := bits_mask .u32 32 (by decide) (fun n a b => by rw [IntKind.wrap_u32]; omega) 8 (by decide) x h0 (by omega)
  rw [h]; omega
theorem pop_byte (x : Nat) (h : x < 4294967296) : Lib.pop8 (bits .and .u32 (x : Int) 255) = (Lib.onesCount (x % 256) : Int) := by
  have e : bits .and .u32 (x : Int) 255 = (x : Int) % 256 := bits_mask .u32 32 (by decide) (fun n a b => by rw [IntKind.wrap_u32]; omega) 8 (by decide) (x : Int) (by omega) (by omega)
  rw [e]
  have := Lib.pop8_eq ⟨x % 256, Nat.mod_lt _ (by omega)⟩
  simpa using this
set_option maxHeartbeats 1000000 in
set_option maxRecDepth 100000 in
theorem onesCount (m : Nat) (hm : m < 16777216) (w : World) : Calls Tryd.prog 52 #[.int .u32 (m : Nat)] w fun e w' => e = .returned (.int .i64 (cntM m : Nat)) ∧ Below w.heap.size w w' := by
  have HC := Lib.hid (memL_count m)
  have HL := Lib.hid (memL_le m)
  have E1 : Hid (Lib.pop8 ((m : Int) / 16777216) = 0) := Lib.hid (by
    have e : (m : Int) / 16777216 = 0 := by omega
    rw [e]; decide +kernel)
  have E2 : Hid (Lib.pop8 (bits .and .u32 ((m : Int) / 65536) 255) = (Lib.onesCount (m / 65536 % 256) : Int)) := Lib.hid (by
    have := pop_byte (m / 65536) (by omega)
    simpa using this)
  have E3 : Hid (Lib.pop8 (bits .and .u32 ((m : Int) / 256) 255) = (Lib.onesCount (m / 256 % 256) : Int)) := Lib.hid (by
    have := pop_byte (m / 256) (by omega)
    simpa using this)
  have E4 : Hid (Lib.pop8 (bits .and .u32 (m : Int) 255) = (Lib.onesCount (m % 256) : Int)) := Lib.hid (pop_byte m (by omega))
  go_enter Tryd.func52, Tryd.ntmps52
  have h0 : (0 : Int) ≤ (m : Int) := by omega
  have h1 : (m : Int) < 16777216 := by omega
  go_wp2
  simp only [fold_pop]
  have a0 : (0 : Int) ≤ (m : Int) / 16777216 := by omega
  have a1 : (m : Int) / 16777216 ≤ 255 := by omega
  have hu := Tryd.underlying9
  obtain ⟨b0, b1⟩ := byte_u32 ((m : Int) / 65536) (by omega) (by omega)
  obtain ⟨c0, c1⟩ := byte_u32 ((m : Int) / 256) (by omega) (by omega)
  obtain ⟨d0, d1⟩ := byte_u32 (m : Int) (by omega) (by omega)
  clear h1
  go_quiet (fail)
  generalize hp1 : Lib.pop8 _ = p1
  generalize hp2 : Lib.pop8 _ = p2
  generalize hp3 : Lib.pop8 _ = p3
  generalize hp4 : Lib.pop8 _ = p4
  have HS : Hid (p1 + p2 + p3 + p4 = ((cntM m : Nat) : Int)) := Lib.hid (by
    have e1 := E1.out; have e2 := E2.out; have e3 := E3.out; have e4 := E4.out; have hc := HC.out
    rw [← hp1, ← hp2, ← hp3, ← hp4]
    simp only [e1, e2, e3, e4]
    unfold cntM
    omega)
  clear hp1 hp2 hp3 hp4 E1 E2 E3 E4
  go_wp2
  go_ret
  refine ⟨ret_i ?_, below_drewN (Below.refl _ _) _⟩
  have hs := HS.out; have hl := HL.out
  have : cntM m ≤ 24 := hl
  omega
set_option maxHeartbeats 1000000 in
set_option maxRecDepth 100000 in
theorem maskCount (m : Nat) (hm : m < 16777216) (w : World) : Calls Tryd.prog 39 #[.int .u32 (m : Nat)] w fun e w' => e = .returned (.int .i64 (cntM m : Nat)) ∧ Below w.heap.size w w' := by
  have HC := Lib.hid (fun w => onesCount m hm w)
  generalize cntM m = c at *
  go_enter Tryd.func39, Tryd.ntmps39
  go_wp2_with fail
  refine (HC.out _).mono ?_
  rintro e w1 ⟨rfl, b1⟩
  go_wp2
  go_ret
  exact ⟨rfl, b1⟩
end Go.Proofs.YtnfmhiephdhopaaDoor
namespace Go.Proofs.YtnfmhiephdhopaaDoor
open Go.RowKit
set_option linter.unusedVariables false
theorem bit_div (m k : Nat) : bits .and .u32 ((m : Int) / 2 ^ k) 1 = (((m / 2 ^ k % 2 : Nat)) : Int) ∨ 4294967296 ≤ m := by
  by_cases h : m < 4294967296
  · left
    have hd : (m : Int) / 2 ^ k = ((m / 2 ^ k : Nat) : Int) := by norm_cast
    have hl : m / 2 ^ k < 4294967296 := Nat.lt_of_le_of_lt (Nat.div_le_self _ _) h
    rw [hd, show (1 : Int) = ((1 : Nat) : Int) from rfl, and_u32 _ _ hl (by omega), Nat.and_one_is_mod]
  · right; omega
theorem bit_true {m k : Nat} (hm : m < 16777216) (h : m.testBit k = true) : (bits .and .u32 ((m : Int) / 2 ^ k) 1 == 1) = true := by
  rcases bit_div m k with e | e
  · rw [e]
    rw [Nat.testBit_eq_decide_div_mod_eq] at h
    have := of_decide_eq_true h
    rw [this]; rfl
  · omega
theorem bit_false {m k : Nat} (hm : m < 16777216) (h : m.testBit k = false) : (bits .and .u32 ((m : Int) / 2 ^ k) 1 == 1) = false := by
  rcases bit_div m k with e | e
  · rw [e]
    rw [Nat.testBit_eq_decide_div_mod_eq] at h
    have h1 := of_decide_eq_false h
    have : m / 2 ^ k % 2 = 0 := by omega
    rw [this]; rfl
  · omega
set_option maxHeartbeats 2000000 in
set_option maxRecDepth 100000 in
theorem implMembers (m : Nat) (w : World) (hm : m < 16777216) :
    Calls Tryd.prog 27 #[.int .u32 (m : Nat)] w (Fresh w (memL m)) := by
  obtain ⟨i0, hi, hz0, hz1, hz2⟩ := info_parts Tryd.infoI64
  have HI := Lib.hid hi; have HZ0 := Lib.hid hz0; have HZ1 := Lib.hid hz1; have HZ2 := Lib.hid hz2
  have HM := Lib.hid hm
  clear hi hz0 hz1 hz2 hm
  go_enter Tryd.func27, Tryd.ntmps27
  go_wp2_with fail
  refine (maskCount m HM.out _).mono ?_
  rintro e w1 ⟨rfl, b1⟩
  have hB1 := b1.size
  have hn : cntM m ≤ 24 := memL_le m
  generalize cntM m = n at *
  go_wp2_with (at_make; refine wpList_make_own _ rfl (.const (.int .i64 0)) (.tmp 6) 24 rfl w.heap.size 3 i0 (.int .i64 0) 1 Tryd.underlying24 HI.out HZ0.out HZ1.out _ _ _ n rfl rfl rfl (by rw [HZ2.out]; omega) (by unfold maxLen; omega) hB1 ?_)
  intro w2 hown0 hg0
  have hown1 : OwnsN w2 w.heap.size (.slice (some ⟨w1.heap.size, 0, none⟩) 0 n) (memTo m 0) := hown0
  have hbel1 := b1.trans ((Below.refl w1.heap.size w1).grown hg0 (Nat.le_refl _) (fun k hk => by cases hk) |>.mono hB1)
  clear hown0 hg0 b1
  go_wp2
  go_loopw [3, 8] (fun v i wr => ∃ k : Nat, k ≤ 24 ∧ i = .int .i64 k ∧ OwnsN wr w.heap.size v (memTo m k) ∧ Below w.heap.size w wr) (fun _ i _ => 24 - (intOf i).toNat)
  case atStart => exact ⟨0, Nat.zero_le _, rfl, hown1, hbel1⟩
  case round =>
    obtain ⟨k, hk, rfl, hown, hbel⟩ := hrel
    clear hown1 hbel1
    by_cases hlt : k < 24
    · have HL := Lib.hid (memTo_len m k)
      have hB2 := hbel.size
      have hd : (m : Int) / 2 ^ k = ((m / 2 ^ k : Nat) : Int) := by norm_cast
      clear hd
      cases hb : m.testBit k with
      | true =>
        have HT := Lib.hid (memTo_yes hb)
        have hq := bit_true HM.out hb
        clear hb
        go_wp2_with (at_builtin; refine append_ints rfl (.tmp 16) (.tmp 18) rfl w.heap.size _ _ rfl hown hB2 _ [(k : Int)] 1 _ rfl (by first | rfl | (simp; done)) rfl (by have := HL.out; simp; omega) ?_)
        intro v' w4 hown3 hb3
        rw [← HT.out] at hown3
        have hb4 := hbel.trans hb3
        clear hown hbel hb3
        go_wp2
        go_roundw
        case rel => exact ⟨k + 1, by omega, by go_num, hown3, hb4⟩
        case measure => simp [intOf]; omega
      | false =>
        have HT := Lib.hid (memTo_no hb)
        have hq := bit_false HM.out hb
        clear hb
        rw [← HT.out] at hown
        go_wp2
        go_roundw
        case rel => exact ⟨k + 1, by omega, by go_num, hown, hbel⟩
        case measure => simp [intOf]; omega
    · obtain rfl : k = 24 := by omega
      go_wp2
      go_ret
      exact ⟨_, rfl, hown, hbel⟩
end Go.Proofs.YtnfmhiephdhopaaDoor
namespace Go.Proofs.YtnfmhiephdhopaaDoor
open Go.RowKit
set_option linter.unusedVariables false
theorem ownsN_base {w : World} {B C : Nat} {v : Value} {xs : List Int} (h : OwnsN w C v xs) (hb : B ≤ C) : OwnsN w B v xs := by
  refine ⟨h.1, ?_⟩
  rcases h.2 with hn | ⟨g, cap, cur, e, hb', rest⟩
  · exact .inl hn
  · exact .inr ⟨g, cap, cur, e, Nat.le_trans hb hb', rest⟩
set_option maxHeartbeats 2000000 in
set_option maxRecDepth 100000 in
theorem implUniteSets (va vb : Value) (a b : List Int) (w : World) (ha : Ints w va a) (hb : Ints w vb b) (na : a.length ≤ 1048576) (nb : b.length ≤ 1048576) :
    Calls Tryd.prog 7 #[va, vb] w (Fresh w (uniteL a b)) := by
  have H := Lib.hid (implMasksOf va vb a b w ha hb na nb)
  have HX := Lib.hid (maskA_lt a b)
  have HY := Lib.hid (maskB_lt a b)
  have HE := Lib.hid (unite_mask a b)
  clear ha hb na nb
  generalize uniteL a b = r at *
  generalize maskA a b = x at *
  generalize maskB a b = y at *
  go_enter Tryd.func7, Tryd.ntmps7
  go_wp2_with fail
  refine H.out.mono ?_
  rintro e w1 ⟨rfl, b1⟩
  go_wp2_with fail
  rw [or_u32 x y (by have := HX.out; omega) (by have := HY.out; omega)]
  refine (implMembers (x ||| y) _ (Nat.or_lt_two_pow (n := 24) HX.out HY.out)).mono ?_
  rw [HE.out]
  rintro e w2 ⟨v, rfl, o2, b2⟩
  go_wp2
  go_ret
  exact ⟨_, rfl, ownsN_base o2 b1.size, b1.trans (b2.mono b1.size)⟩
set_option maxHeartbeats 2000000 in
set_option maxRecDepth 100000 in
theorem implMeetSets (va vb : Value) (a b : List Int) (w : World) (ha : Ints w va a) (hb : Ints w vb b) (na : a.length ≤ 1048576) (nb : b.length ≤ 1048576) :
    Calls Tryd.prog 8 #[va, vb] w (Fresh w (meetL a b)) := by
  have H := Lib.hid (implMasksOf va vb a b w ha hb na nb)
  have HX := Lib.hid (maskA_lt a b)
  have HY := Lib.hid (maskB_lt a b)
  have HE := Lib.hid (meet_mask a b)
  clear ha hb na nb
  generalize meetL a b = r at *
  generalize maskA a b = x at *
  generalize maskB a b = y at *
  go_enter Tryd.func8, Tryd.ntmps8
  go_wp2_with fail
  refine H.out.mono ?_
  rintro e w1 ⟨rfl, b1⟩
  go_wp2_with fail
  rw [and_u32 x y (by have := HX.out; omega) (by have := HY.out; omega)]
  refine (implMembers (x &&& y) _ (Nat.and_lt_two_pow (n := 24) _ HY.out)).mono ?_
  rw [HE.out]
  rintro e w2 ⟨v, rfl, o2, b2⟩
  go_wp2
  go_ret
  exact ⟨_, rfl, ownsN_base o2 b1.size, b1.trans (b2.mono b1.size)⟩
set_option maxHeartbeats 2000000 in
set_option maxRecDepth 100000 in
theorem implSubtractSets (va vb : Value) (a b : List Int) (w : World) (ha : Ints w va a) (hb : Ints w vb b) (na : a.length ≤ 1048576) (nb : b.length ≤ 1048576) :
    Calls Tryd.prog 9 #[va, vb] w (Fresh w (subL a b)) := by
  have H := Lib.hid (implMasksOf va vb a b w ha hb na nb)
  have HX := Lib.hid (maskA_lt a b)
  have HY := Lib.hid (maskB_lt a b)
  have HE := Lib.hid (sub_mask a b)
  clear ha hb na nb
  generalize subL a b = r at *
  generalize maskA a b = x at *
  generalize maskB a b = y at *
  go_enter Tryd.func9, Tryd.ntmps9
  go_wp2_with fail
  refine H.out.mono ?_
  rintro e w1 ⟨rfl, b1⟩
  go_wp2_with fail
  rw [andNot_u32 x y (by have := HX.out; omega) (by have := HY.out; omega)]
  refine (implMembers (x &&& (4294967295 ^^^ y)) _ (andNot_lt _ HX.out)).mono ?_
  rw [HE.out]
  rintro e w2 ⟨v, rfl, o2, b2⟩
  go_wp2
  go_ret
  exact ⟨_, rfl, ownsN_base o2 b1.size, b1.trans (b2.mono b1.size)⟩
set_option maxHeartbeats 1000000 in
set_option maxRecDepth 100000 in
theorem implIndex (v : Value) (xs : List Int) (x : Int) (w : World) (h : Ints w v xs) (hn : xs.length ≤ 1048576) :
    Calls Tryd.prog 47 #[v, .int .i64 x] w fun e w' => (∃ n : Int, e = .returned (.int .i64 n) ∧ (0 ≤ n ↔ x ∈ xs) ∧ -1 ≤ n) ∧ w' = w := by
  have H := Lib.hid h
  obtain ⟨a, cap, rfl⟩ := ints_len h
  clear h
  go_enter Tryd.func47, Tryd.ntmps47
  go_wp2
  go_loop [8] (fun i => ∃ k : Nat, k ≤ xs.length ∧ i = .int .i64 k ∧ Hid (∀ j, j < k → xs.getD j 0 ≠ x)) (fun i => xs.length - (intOf i).toNat)
  case atStart => exact ⟨0, Nat.zero_le _, rfl, Lib.hid (fun j hj => by omega)⟩
  case round =>
    obtain ⟨k, hk, rfl, hne⟩ := hrel
    by_cases hlt : k < xs.length
    · obtain ⟨b, off, cap', hv, hbl, hc⟩ := ints_cell H.out (by omega)
      simp only [Value.slice.injEq] at hv
      obtain ⟨rfl, _, rfl⟩ := hv
      have hcell := hc k hlt
      have i1 : (0 : Int) ≤ (k : Int) := by omega
      have i2 : (k : Int) < (xs.length : Int) := by omega
      clear hc
      by_cases he : xs.getD k 0 = x
      · have HY := Lib.hid (show decide (x ∈ xs) = true from decide_eq_true ((member_iff xs x).2 ⟨k, hlt, he⟩))
        rw [he] at hcell
        have heq : (x == x) = true := by simp
        clear he
        go_wp2
        go_ret
        exact ⟨⟨(k : Int), rfl, iff_of_true i1 (of_decide_eq_true HY.out), by omega⟩, rfl⟩
      · have HN : Hid (∀ j, j < k + 1 → xs.getD j 0 ≠ x) := Lib.hid (fun j hj => by
          by_cases e : j = k
          · exact e ▸ he
          · exact hne.out j (by omega))
        have heq : (x == xs.getD k 0) = false := by rw [beq_eq_false_iff_ne]; exact fun e => he e.symm
        clear he
        generalize xs.getD k 0 = y at hcell heq
        go_wp2
        go_round
        case rel => exact ⟨k + 1, by omega, by go_num, HN⟩
        case measure => simp [intOf]; omega
    · have HN := Lib.hid (show decide (x ∈ xs) = false from decide_eq_false (fun g => by
        obtain ⟨j, hj, e⟩ := (member_iff xs x).1 g
        exact hne.out j (by omega) e))
      go_wp2
      go_ret
      exact ⟨⟨-1, rfl, iff_of_false (by omega) (of_decide_eq_false HN.out), by omega⟩, rfl⟩
set_option maxHeartbeats 1000000 in
theorem implHas (v : Value) (xs : List Int) (x : Int) (w : World) (h : Ints w v xs) (hn : xs.length ≤ 1048576) :
    Calls Tryd.prog 19 #[v, .int .i64 x] w fun e w' => e = .returned (.bool (decide (x ∈ xs))) ∧ Below w.heap.size w w' := by
  have HI := Lib.hid (implIndex v xs x w h hn)
  have HC : Hid (Calls Tryd.prog 34 #[v, .int .i64 x] w fun e w' => e = .returned (.bool (decide (x ∈ xs))) ∧ w' = w) := by
    refine Lib.hid ?_
    clear h hn
    go_enter Tryd.func34, Tryd.ntmps34
    go_wp2_with fail
    refine HI.out.mono ?_
    rintro e w1 ⟨⟨n, rfl, hd, hm⟩, rfl⟩
    go_wp2
    go_ret
    exact ⟨ret_b (by first | rfl | exact decide_eq_decide.2 hd), rfl⟩
  clear h hn HI
  go_enter Tryd.func19, Tryd.ntmps19
  go_wp2_with fail
  refine HC.out.mono ?_
  rintro e w1 ⟨rfl, rfl⟩
  go_wp2
  go_ret
  exact ⟨rfl, Below.refl _ _⟩
end Go.Proofs.YtnfmhiephdhopaaDoor
namespace Go.Proofs.YtnfmhiephdhopaaDoor
open Go.RowKit
set_option linter.unusedVariables false
/-- The world in which the iterator N stands at p. -/
def setIter (w : World) (N : Nat) (s : ByteArray) (p : Nat) : World := { w with heap := w.heap.setIfInBounds N (.stringIter s p) }
theorem setIter_get {w : World} {N : Nat} {s : ByteArray} {q : Nat} (p : Nat) (h : w.heap[N]? = some (.stringIter s q)) : (setIter w N s p).heap[N]? = some (.stringIter s p) := by
  have := (Array.getElem?_eq_some_iff.1 h).1
  simp [setIter, this]
theorem next_any {P : Program} {w : World} {N : Nat} {s : ByteArray} {pos : Nat} (hN : w.heap[N]? = some (.stringIter s pos)) (h : pos < s.size) (ty : TypeId) :
    (Instr.next (.pointer (some ⟨N, 0, none⟩)) true ty).run P w = .ok (.tuple #[.bool true, .int .i64 pos, .int .i32 (Utf8.decode s pos).1]) (setIter w N s (pos + (Utf8.decode s pos).2)) := by
  simp only [Instr.next, getObj, setObj, Sem.run_bind, Sem.run, hN, Result.andThen, h, if_true]
  simp [goInt, setIter]
theorem next_end {P : Program} {w : World} {N : Nat} {s : ByteArray} {pos : Nat} (hN : w.heap[N]? = some (.stringIter s pos)) (h : ¬ pos < s.size) (ty : TypeId) :
    (Instr.next (.pointer (some ⟨N, 0, none⟩)) true ty).run P w = .ok (.tuple #[.bool false]) w := by
  simp [Instr.next, getObj, Sem.run, hN, h]
theorem setIter_other {w : World} {N : Nat} {s : ByteArray} {p : Nat} {k : Nat} (h : k ≠ N) : (setIter w N s p).heap[k]? = w.heap[k]? := by
  simp only [setIter]
  rw [Array.getElem?_setIfInBounds]
  split
  · omega
  · rfl
theorem below_setIter {B : Nat} {a w : World} {N : Nat} {s : ByteArray} {p : Nat} (h : Below B a w) (hB : B ≤ N) : Below B a (setIter w N s p) :=
  h.trans ⟨rfl, rfl, rfl, by simp [setIter], fun k hk => setIter_other (by omega)⟩
theorem iter_start (w : World) (s : ByteArray) : (w.iter s 0).heap[w.heap.size]? = some (.stringIter s 0) := World.iter_heap w s 0
theorem iterPos_of {w : World} {N : Nat} {s : ByteArray} {p : Nat} (h : w.heap[N]? = some (.stringIter s p)) : w.iterPos N = p := by simp [World.iterPos, h]
end Go.Proofs.YtnfmhiephdhopaaDoor
namespace Go.Proofs.YtnfmhiephdhopaaDoor
open Go.RowKit
set_option linter.unusedVariables false
theorem isDigit_yes (r : Int) (w : World) (h0 : 48 ≤ r) (h1 : r ≤ 57) : Calls Tryd.prog 70 #[.int .i32 r] w fun e w' => e = .returned (.bool true) ∧ w = w' := by
  go_enter Tryd.func70, Tryd.ntmps70
  go_wp2
  go_ret
  exact ⟨rfl, rfl⟩
theorem isDigit_low (r : Int) (w : World) (h : ¬ 48 ≤ r) : Calls Tryd.prog 70 #[.int .i32 r] w fun e w' => e = .returned (.bool false) ∧ w = w' := by
  go_enter Tryd.func70, Tryd.ntmps70
  go_wp2
  go_ret
  exact ⟨rfl, rfl⟩
theorem isDigit_high (r : Int) (w : World) (h0 : 48 ≤ r) (h : ¬ r ≤ 57) : Calls Tryd.prog 70 #[.int .i32 r] w fun e w' => e = .returned (.bool false) ∧ w = w' := by
  go_enter Tryd.func70, Tryd.ntmps70
  go_wp2
  go_ret
  exact ⟨rfl, rfl⟩
theorem isDigit_no (r : Int) (w : World) (h : ¬ (48 ≤ r ∧ r ≤ 57)) : Calls Tryd.prog 70 #[.int .i32 r] w fun e w' => e = .returned (.bool false) ∧ w = w' := by
  by_cases h1 : 48 ≤ r
  · exact isDigit_high r w h1 (by omega)
  · exact isDigit_low r w h1
theorem mem_byte (s : ByteArray) (k : Nat) (h : k < s.size) : s[k] ∈ s.data.toList := by
  have : s.data.toList[k]'(by simpa using h) = s[k] := rfl
  rw [← this]; exact List.getElem_mem _
theorem cut (s : ByteArray) (w : World) : Calls Tryd.prog 69 #[.string s, .string ⟨#[45]⟩] w fun e w' => e = .returned (.tuple #[.string ⟨(trim s.data.toList).toArray⟩, .bool (neg s.data.toList)]) ∧ w = w' := by
  have h := (Tryd.strings_CutPrefix s ⟨#[45]⟩ w).mono (R' := fun e w' => e = .returned (.tuple #[.string ⟨(Lib.trimPrefix s.data.toList (⟨#[45]⟩ : ByteArray).data.toList).toArray⟩, .bool (Lib.hasPrefix s.data.toList (⟨#[45]⟩ : ByteArray).data.toList)]) ∧ w = w') (fun e w' h => ⟨h.1, h.2.symm⟩)
  have e := trim_cut s.data.toList
  rw [show (⟨#[45]⟩ : ByteArray).data.toList = [45] from rfl, e.1, e.2] at h
  exact h
set_option maxHeartbeats 2000000 in
set_option maxRecDepth 100000 in
theorem implPar (s : ByteArray) (w : World) (hs : s.size ≤ 1048576) (htab : Tab w) :
    Calls Tryd.prog 60 #[.string s] w fun e w' => e = .returned (.tuple #[.int .i64 (parI s.data.toList).1, .bool (parI s.data.toList).2]) ∧ Below w.heap.size w w' := by
  have hcut := cut s
  have hts : (⟨(trim s.data.toList).toArray⟩ : ByteArray).data.toList = trim s.data.toList := rfl
  generalize (⟨(trim s.data.toList).toArray⟩ : ByteArray) = t at hcut hts
  have HCUT := Lib.hid hcut; clear hcut
  have HTS := Lib.hid hts; clear hts
  have HTAB := Lib.hid htab; clear htab
  by_cases h9 : 9 < t.size
  · have H := Lib.hid (parI_long' (l := s.data.toList) (by rw [← HTS.out]; simpa using h9))
    go_enter Tryd.func60, Tryd.ntmps60
    go_wp2_with (go_at_call 69; refine (HCUT.out _).mono ?_; rintro e w' ⟨rfl, rfl⟩)
    go_ret2
    exact ⟨ret_par H.out rfl, Below.refl _ _⟩
  · have hc9 := Lib.hid (show dcnt s.data.toList ≤ 9 by rw [← dcnt_trim, ← HTS.out]; have := dcnt_le t.data.toList; simp at this; omega)
    obtain ⟨b, hb⟩ : ∃ b, neg s.data.toList = b := ⟨_, rfl⟩
    rw [hb] at HCUT
    have HB := Lib.hid hb; clear hb
    go_enter Tryd.func60, Tryd.ntmps60
    go_wp2_with (go_at_call 69; refine (HCUT.out _).mono ?_; rintro e w' ⟨rfl, rfl⟩)
    go_loopw [6] (fun n wr => ∃ p v : Nat, p ≤ t.size ∧ n = .int .i64 v ∧ v ≤ 999999999 ∧ Hid (wr.heap[w.heap.size]? = some (.stringIter t p)) ∧ Below w.heap.size w wr ∧ Hid (v = dval (t.data.toList.take p))) (fun _ wr => t.size - wr.iterPos w.heap.size)
    case atStart => exact ⟨0, 0, Nat.zero_le _, rfl, by omega, Lib.hid (iter_start w t), (Below.refl _ _).alloc (Nat.le_refl _) _, Lib.hid rfl⟩
    case round =>
      obtain ⟨p, v, hp, rfl, hv, hit, hbel, hvd⟩ := hrel
      by_cases hlt : p < t.size
      · by_cases ha : t[p].toNat < 128
        · have hnx := next_any (P := Tryd.prog) hit.out hlt
          rw [decode_ascii t p hlt ha] at hnx
          have hb2 := below_setIter (s := t) (p := p + 1) hbel (Nat.le_refl _)
          by_cases hd : dig t[p] = true
          · obtain ⟨r1, r2⟩ := (dig_iff t[p]).1 hd
            have HV : Hid (v * 10 + (t[p].toNat - 48) = dval (t.data.toList.take (p + 1))) := Lib.hid (by rw [dval_step t p hlt, if_pos hd, hvd.out])
            have HX := Lib.hid (cast_dig v t[p].toNat r1)
            have hv3 : v * 10 + (t[p].toNat - 48) ≤ 999999999 := by
              rw [HV.out]; refine dval_lt9 _ ?_
              have := dcnt_le (t.data.toList.take (p + 1)); rw [List.length_take] at this; omega
            have hit3 := setIter_get (p + 1) hit.out
            have HIT := Lib.hid hit3
            have HM := Lib.hid (iterPos_of hit.out)
            have HM3 := Lib.hid (iterPos_of hit3)
            clear hit3 hd hvd
            go_wp2_with (go_at_call 70; refine (isDigit_yes _ _ (by omega) (by omega)).mono ?_; rintro e w' ⟨rfl, rfl⟩)
            go_roundw
            case rel => exact ⟨p + 1, v * 10 + (t[p].toNat - 48), by omega, by rw [HX.out], hv3, HIT, hb2, HV⟩
            case measure => rw [HM.out, HM3.out]; omega
          · have hr : ¬ (48 ≤ (t[p].toNat : Int) ∧ (t[p].toNat : Int) ≤ 57) := fun g => hd ((dig_iff t[p]).2 ⟨by omega, by omega⟩)
            have H := Lib.hid (parI_digit (l := s.data.toList) (b := t[p]) (by rw [← HTS.out]; exact mem_byte t p hlt) (by simpa using hd))
            have HR := Lib.hid hr
            clear hr hd
            go_wp2_with (go_at_call 70; refine (isDigit_no _ _ HR.out).mono ?_; rintro e w' ⟨rfl, rfl⟩)
            go_ret2
            exact ⟨ret_par H.out rfl, hb2⟩
        · have hnx := next_any (P := Tryd.prog) hit.out hlt
          have hr := (decode_high t p hlt (by omega)).1
          have hb2 := below_setIter (s := t) (p := p + (Utf8.decode t p).2) hbel (Nat.le_refl _)
          have H := Lib.hid (parI_digit (l := s.data.toList) (b := t[p]) (by rw [← HTS.out]; exact mem_byte t p hlt) (by cases h : dig t[p] with | false => rfl | true => exact absurd ((dig_iff t[p]).1 h) (by omega)))
          generalize (Utf8.decode t p).1 = r at *
          generalize (Utf8.decode t p).2 = q at *
          go_wp2_with (go_at_call 70; refine (isDigit_no _ _ (by omega)).mono ?_; rintro e w' ⟨rfl, rfl⟩)
          go_ret2
          exact ⟨ret_par H.out rfl, hb2⟩
      · have hnx := next_end (P := Tryd.prog) hit.out hlt
        obtain rfl : p = t.size := by omega
        have HT : t.data.toList.take t.size = t.data.toList := List.take_of_length_le (by simp)
        have HVD : Hid (v = dval s.data.toList) := Lib.hid (by rw [hvd.out, HT, HTS.out, dval_trim])
        have HTB := Lib.hid (HTAB.out.on hbel)
        clear HT hvd
        cases b with
        | true =>
          have HA := Lib.hid (fun w h => implFmt (-(v : Int)) w (by omega) (by omega) h)
          have HN := Lib.hid (show sval s.data.toList = -(v : Int) by rw [sval_neg HB.out, ← HVD.out])
          by_cases hx : (⟨(Lib.itoa (-(v : Int))).toArray⟩ : ByteArray).toList = s.toList
          · have H := Lib.hid (parI_ok (l := s.data.toList) (by rw [HN.out]; exact (text_eq _ s).1 hx) hc9.out)
            have heq : (!(⟨(Lib.itoa (-(v : Int))).toArray⟩ : ByteArray).toList == s.toList) = false := by simp [hx]
            generalize (⟨(Lib.itoa (-(v : Int))).toArray⟩ : ByteArray) = X at HA heq hx
            clear hx
            go_wp2_with (go_at_call 54; refine (HA.out _ HTB.out).mono ?_; rintro e w1 ⟨rfl, hb1⟩)
            go_ret2
            exact ⟨ret_par (a := -(v : Int)) H.out HN.out.symm, hbel.trans (hb1.mono hbel.size)⟩
          · have H := Lib.hid (parI_text (l := s.data.toList) (fun g => hx ((text_eq _ s).2 (by rw [HN.out] at g; exact g))))
            have heq : (!(⟨(Lib.itoa (-(v : Int))).toArray⟩ : ByteArray).toList == s.toList) = true := by rw [Bool.not_eq_true', beq_eq_false_iff_ne]; exact hx
            generalize (⟨(Lib.itoa (-(v : Int))).toArray⟩ : ByteArray) = X at HA heq hx
            clear hx
            go_wp2_with (go_at_call 54; refine (HA.out _ HTB.out).mono ?_; rintro e w1 ⟨rfl, hb1⟩)
            go_ret2
            exact ⟨ret_par H.out rfl, hbel.trans (hb1.mono hbel.size)⟩
        | false =>
          have HA := Lib.hid (fun w h => implFmt (v : Int) w (by omega) (by omega) h)
          have HN := Lib.hid (show sval s.data.toList = (v : Int) by rw [sval_pos HB.out, ← HVD.out])
          by_cases hx : (⟨(Lib.itoa (v : Int)).toArray⟩ : ByteArray).toList = s.toList
          · have H := Lib.hid (parI_ok (l := s.data.toList) (by rw [HN.out]; exact (text_eq _ s).1 hx) hc9.out)
            have heq : (!(⟨(Lib.itoa (v : Int)).toArray⟩ : ByteArray).toList == s.toList) = false := by simp [hx]
            generalize (⟨(Lib.itoa (v : Int)).toArray⟩ : ByteArray) = X at HA heq hx
            clear hx
            go_wp2_with (go_at_call 54; refine (HA.out _ HTB.out).mono ?_; rintro e w1 ⟨rfl, hb1⟩)
            go_ret2
            exact ⟨ret_par (a := (v : Int)) H.out HN.out.symm, hbel.trans (hb1.mono hbel.size)⟩
          · have H := Lib.hid (parI_text (l := s.data.toList) (fun g => hx ((text_eq _ s).2 (by rw [HN.out] at g; exact g))))
            have heq : (!(⟨(Lib.itoa (v : Int)).toArray⟩ : ByteArray).toList == s.toList) = true := by rw [Bool.not_eq_true', beq_eq_false_iff_ne]; exact hx
            generalize (⟨(Lib.itoa (v : Int)).toArray⟩ : ByteArray) = X at HA heq hx
            clear hx
            go_wp2_with (go_at_call 54; refine (HA.out _ HTB.out).mono ?_; rintro e w1 ⟨rfl, hb1⟩)
            go_ret2
            exact ⟨ret_par H.out rfl, hbel.trans (hb1.mono hbel.size)⟩
end Go.Proofs.YtnfmhiephdhopaaDoor
namespace Go.Proofs.YtnfmhiephdhopaaDoor
open Go.RowKit
set_option linter.unusedVariables false
def tzL : List Int := Lib.deBruijn32tab.map fun n : Nat => (n : Int)
/-- The table of trailing zeros reads as its text lays it. -/
def TabZ (w : World) : Prop := Lib.TabIs Tryd.prog w "math/bits.deBruijn32tab" .u8 tzL
theorem TabZ.on {w w' : World} (h : TabZ w) (hb : Below w.heap.size w w') : TabZ w' := Lib.tabBelow_of_tabIs h w' hb
theorem zcell {w : World} (h : TabZ w) (i : Nat) (hi : i < 32) : w.cell? ⟨0, i, none⟩ = some (.int .u8 ((Lib.deBruijn32tab.getD i 0 : Nat) : Int)) := by
  have := Lib.TabIs.cell h (show Tryd.prog.globalNamed "math/bits.deBruijn32tab" = some 0 by kernel_rfl) i (by simpa [tzL, Lib.deBruijn32tab] using hi)
  rw [this]
  have hl : i < Lib.deBruijn32tab.length := by simpa [Lib.deBruijn32tab] using hi
  simp only [tzL, List.getD, List.getElem?_map, List.getElem?_eq_getElem hl, Option.map_some, Option.getD_some]
theorem tz32_zero (w : World) : Calls Tryd.prog 53 #[.int .u32 0] w fun e w' => e = .returned (.int .i64 32) ∧ w' = w := by
  go_enter Tryd.func53, Tryd.ntmps53
  go_wp2
  go_ret
  exact ⟨rfl, rfl⟩
theorem tz32_at (x k idx : Nat) (w : World) (hx0 : ((x : Int) == 0) = false)
    (key : bits BinOp.and IntKind.u32 (x : Int) (-(x : Int) % 4294967296) * 125613361 % 4294967296 / 134217728 = (idx : Int))
    (hi : idx < 32) (hk : k < 32) (hcell : w.cell? ⟨0, idx, none⟩ = some (.int .u8 k)) :
    Calls Tryd.prog 53 #[.int .u32 x] w fun e w' => e = .returned (.int .i64 k) ∧ w' = w := by
  go_enter Tryd.func53, Tryd.ntmps53
  go_wp2_with (simp only [key])
  go_ret
  exact ⟨rfl, rfl⟩
/-- math/bits.TrailingZeros32, at every x. -/
theorem tz32 (x : Nat) (hx : x < 4294967296) (w : World) (hT : TabZ w) : Calls Tryd.prog 53 #[.int .u32 x] w fun e w' => e = .returned (.int .i64 (Lib.ctz 32 x)) ∧ w' = w := by
  by_cases hx0 : x = 0
  · subst hx0
    exact tz32_zero w
  · obtain ⟨hlow, hk⟩ := Lib.lowest_bit 32 x hx0 hx
    obtain ⟨hi, htab⟩ := Lib.deBruijn32_at _ hk
    have hcell := zcell hT _ hi
    rw [htab] at hcell
    exact tz32_at x _ _ w (by simp; omega) (tz32_key x _ hx hx0 hlow) hi hk hcell
end Go.Proofs.YtnfmhiephdhopaaDoor
namespace Go.Proofs.YtnfmhiephdhopaaDoor
open Go.RowKit
set_option linter.unusedVariables false
theorem xor_max (y : Nat) (hy : y < 4294967296) : bits .xor .u32 IntKind.u32.max (y : Int) = ((4294967295 - y : Nat) : Int) := by
  have e : BitVec.ofInt 32 IntKind.u32.max = BitVec.allOnes 32 := by decide
  show IntKind.u32.wrap ((BitVec.ofInt 32 IntKind.u32.max ^^^ BitVec.ofInt 32 (y : Int)).toNat : Int) = _
  rw [e, BitVec.allOnes_xor, BitVec.toNat_not, nat_u32 y hy, IntKind.wrap_u32]
  omega
theorem pair_n {a b c d : Int} (h1 : a = b) (h2 : c = d) : Ending.returned (.tuple #[.int .i64 a, .int .i64 c]) = .returned (.tuple #[.int .i64 b, .int .i64 d]) := by rw [h1, h2]
set_option maxHeartbeats 1000000 in
set_option maxRecDepth 100000 in
theorem implFirstRun (m : Nat) (h0 : m ≠ 0) (h : m < 16777216) (w : World) (hT : TabZ w) :
    Calls Tryd.prog 41 #[.int .u32 (m : Nat)] w fun e w' => (∃ f n : Nat, FirstRun m f n ∧ e = .returned (.tuple #[.int .i64 (f : Int), .int .i64 ((f + n : Nat) : Int)])) ∧ w' = w := by
  obtain ⟨hn0, hn1, hf⟩ := firstRun_of h0 h
  obtain ⟨_, _, hf32⟩ := ctz_bits h0 (by omega)
  have H1 := Lib.hid (tz32 m (by omega) w hT)
  have hy : m / 2 ^ Lib.ctz 32 m < 16777216 := Nat.lt_of_le_of_lt (Nat.div_le_self _ _) h
  have hd : (m : Int) / 2 ^ Lib.ctz 32 m = ((m / 2 ^ Lib.ctz 32 m : Nat) : Int) := by norm_cast
  generalize Lib.ctz 32 m = f at *
  have H2 := Lib.hid (tz32 (4294967295 - m / 2 ^ f) (Nat.lt_of_le_of_lt (Nat.sub_le _ _) (by omega)) w hT)
  have HF := Lib.hid hf
  have HD := Lib.hid hd
  have HY := Lib.hid hy
  clear hf hd hy hT
  generalize m / 2 ^ f = y at *
  generalize Lib.ctz 32 (4294967295 - y) = n at *
  have HN := Lib.hid hn0
  clear hn0
  go_enter Tryd.func41, Tryd.ntmps41
  go_wp2_with fail
  refine H1.out.mono ?_
  rintro e w1 ⟨rfl, rfl⟩
  go_wp2_with fail
  rw [HD.out, xor_max y (by have := HY.out; omega)]
  refine H2.out.mono ?_
  rintro e w2 ⟨rfl, rfl⟩
  have b1 : (n : Int) ≤ 32 := by omega
  have b2 : (f : Int) < 32 := by omega
  go_wp2
  go_ret2
  exact ⟨⟨f, n - 1, HF.out, pair_n rfl (by have := HN.out; omega)⟩, rfl⟩
theorem fmtI (n : Nat) (w : World) (h1 : n ≤ 23) : Calls Tryd.prog 54 #[.int .i64 (n : Int)] w fun e w' => e = .returned (.string (strB (Lib.itoa (n : Int)))) ∧ Below w.heap.size w w' := by
  go_enter Tryd.func54, Tryd.ntmps54
  go_wp2_with fail
  refine (Tryd.strconv_Itoa_small n (by omega) _).mono ?_
  rintro e w1 ⟨rfl, rfl⟩
  have he : (⟨(Lib.decDigits n).toArray⟩ : ByteArray) = strB (Lib.itoa (n : Int)) := by
    unfold Lib.itoa strB
    rw [if_neg (by omega), Int.toNat_natCast]
  rw [he]
  go_wp2
  go_ret
  exact ⟨rfl, Below.refl _ _⟩
set_option maxHeartbeats 1000000 in
set_option maxRecDepth 100000 in
theorem implFormatRun (f t : Nat) (w : World) (hf : f ≤ 23) (ht : t ≤ 23) : Calls Tryd.prog 42 #[.int .i64 (f : Int), .int .i64 (t : Int)] w fun e w' => e = .returned (.string (strB (runText ((f : Int), (t : Int))))) ∧ Below w.heap.size w w' := by
  have F1 := Lib.hid (fun w => fmtI f w hf)
  have F2 := Lib.hid (fun w => fmtI t w ht)
  by_cases he : (f : Int) = (t : Int)
  · obtain rfl : f = t := by omega
    have HT := Lib.hid (text_one he)
    rw [HT.out]
    clear he F2
    go_enter Tryd.func42, Tryd.ntmps42
    go_wp2_with fail
    refine (F1.out _).mono ?_
    rintro e w1 ⟨rfl, b1⟩
    go_wp2
    go_ret
    exact ⟨rfl, b1⟩
  · have HT := Lib.hid (text_two he)
    rw [HT.out]
    have l1 := Lib.itoa_length_le (f : Int) (by omega) (by omega)
    have l2 := Lib.itoa_length_le (t : Int) (by omega) (by omega)
    generalize Lib.itoa (f : Int) = p at *
    generalize Lib.itoa (t : Int) = q at *
    have d1 : ∀ w, (Op.stringOp .add (strB p) ⟨#[45]⟩).run Tryd.prog w = .ok (.string (strB (p ++ [45]))) w := strB_add p [45] (by simp; omega)
    have d2 : ∀ w, (Op.stringOp .add (strB (p ++ [45])) (strB q)).run Tryd.prog w = .ok (.string (strB ((p ++ [45]) ++ q))) w := strB_add (p ++ [45]) q (by simp; omega)
    have D1 := Lib.hid d1
    have D2 := Lib.hid d2
    clear l1 l2 d1 d2
    go_enter Tryd.func42, Tryd.ntmps42
    go_wp2_with fail
    refine (F1.out _).mono ?_
    rintro e w1 ⟨rfl, b1⟩
    have d1 := D1.out
    go_wp2_with fail
    refine (F2.out _).mono ?_
    rintro e w2 ⟨rfl, b2⟩
    have b3 := b1.trans (b2.mono b1.size)
    have d2 := D2.out
    clear b1 b2 d1
    go_wp2
    go_ret
    exact ⟨ret_s (by simp), b3⟩
theorem ret_u {a b : Int} (h : a = b) : Ending.returned (.int .u32 a) = .returned (.int .u32 b) := by rw [h]
theorem rangeM_val {f t : Nat} (h : f ≤ t) (ht : t ≤ 23) : ((2 : Int) ^ (t + 1) % 4294967296 - 2 ^ f % 4294967296) % 4294967296 = ((rangeM f t : Nat) : Int) := by
  have h1 : 2 ^ (t + 1) ≤ 2 ^ 24 := Nat.pow_le_pow_right (by omega) (by omega)
  have h2 : 2 ^ f ≤ 2 ^ (t + 1) := Nat.pow_le_pow_right (by omega) (by omega)
  have c1 : (2 : Int) ^ (t + 1) = ((2 ^ (t + 1) : Nat) : Int) := by norm_cast
  have c2 : (2 : Int) ^ f = ((2 ^ f : Nat) : Int) := by norm_cast
  rw [c1, c2]
  unfold rangeM
  clear c1 c2
  generalize 2 ^ (t + 1) = a at *
  generalize 2 ^ f = b at *
  omega
set_option maxHeartbeats 1000000 in
theorem implRunMask (f t : Nat) (w : World) (h : f ≤ t) (ht : t ≤ 23) : Calls Tryd.prog 43 #[.int .i64 (f : Int), .int .i64 (t : Int)] w fun e w' => e = .returned (.int .u32 ((rangeM f t : Nat) : Int)) ∧ Below w.heap.size w w' := by
  go_enter Tryd.func43, Tryd.ntmps43
  have e1 : IntKind.i64.wrap ((t : Int) + 1) = (t : Int) + 1 := IntWalk.i64_in _ (by omega)
  have e2 : (0 : Int) ≤ (t : Int) + 1 := by omega
  have e3 : (0 : Int) ≤ (f : Int) := by omega
  go_wp2
  go_quiet (fail)
  have hv := rangeM_val h ht
  go_wp2
  go_ret
  exact ⟨ret_u hv, below_drewN (Below.refl _ _) _⟩
theorem join_texts (rs : List (Int × Int)) : Lib.join ((rs.map fun r => strB (runText r)).map (·.data.toList)) (⟨#[32]⟩ : ByteArray).data.toList = glue [] rs := by
  rw [List.map_map, ← join_glue]
  rfl
set_option maxHeartbeats 2000000 in
set_option maxRecDepth 100000 in
theorem implFormat (m : Nat) (h : m < 16777216) (w : World) (hT : TabZ w) :
    Calls Tryd.prog 31 #[.int .u32 (m : Nat)] w fun e w' => e = .returned (.string (strB (fmtRuns (memL m)))) ∧ Below w.heap.size w w' := by
  have HT := Lib.hid hT
  clear hT
  by_cases h0 : m = 0
  · subst h0
    have HE : Hid (fmtRuns (memL 0) = [110, 111, 110, 101]) := Lib.hid (by rw [memL_zero]; rfl)
    rw [HE.out]
    go_enter Tryd.func31, Tryd.ntmps31
    go_wp2
    go_ret
    exact ⟨rfl, Below.refl _ _⟩
  · have HE : Hid (fmtRuns (memL m) = glue [] (runs (memL m))) := Lib.hid (by unfold fmtRuns; rw [if_neg (memL_ne h0 h)])
    have HG := Lib.hid (memL_glue m)
    have HR : Hid (runs (memL m) ≠ []) := Lib.hid (by rw [runs_first h (firstRun_of h0 h).2.2]; simp)
    have HL := Lib.hid (Nat.le_trans (runs_len (memL m)) (memL_len m))
    have hb : ((m : Int) == 0) = false := by simp; omega
    rw [HE.out]
    clear h0
    go_enter Tryd.func31, Tryd.ntmps31
    go_wp2
    clear hb
    go_loopw [0, 3] (fun x v wr => ∃ (k : Nat) (done : List (Int × Int)), x = .int .u32 (k : Nat) ∧ k < 16777216 ∧ OwnsS wr w.heap.size v (done.map fun r => strB (runText r)) ∧ Below w.heap.size w wr ∧ Hid (done ++ runs (memL k) = runs (memL m))) (fun x _ _ => (intOf x).toNat)
    case atStart => exact ⟨m, [], rfl, h, ownsS_nil _ _, Below.refl _ _, Lib.hid rfl⟩
    case round =>
      obtain ⟨k, done, rfl, hk, hown, hbel, hdone⟩ := hrel
      clear h
      have hB := hbel.size
      by_cases hk0 : k = 0
      · subst hk0
        have hd : done = runs (memL m) := by have := hdone.out; rw [memL_zero] at this; simpa [runs] using this
        subst hd
        rcases ownsS_strs hown with ⟨hnil, _⟩ | ⟨b, off, cap, rfl, hcap, hblt, hcells⟩
        · exact absurd (List.map_eq_nil_iff.1 hnil) HR.out
        · have HJ := Lib.hid (Tryd.strings_Join b off cap ((runs (memL m)).map fun r => strB (runText r)) ⟨#[32]⟩ wr (fun j x hx => by
            obtain ⟨hj, rfl⟩ := List.getElem?_eq_some_iff.1 hx
            have := hcells j hj
            rw [List.getD, List.getElem?_eq_getElem hj] at this
            exact this) hblt (by have := HL.out; simp; omega) hcap (by rw [join_texts]; have := HG.out; omega))
          rw [join_texts] at HJ
          clear hcells hcap hown hdone
          generalize (runs (memL m)).map (fun r => strB (runText r)) = ts at *
          obtain ⟨txt, htx⟩ : ∃ txt, glue [] (runs (memL m)) = txt := ⟨_, rfl⟩
          rw [htx] at HJ
          have HTX := Lib.hid htx
          clear htx
          go_wp2_with fail
          refine HJ.out.mono ?_
          rintro e w5 ⟨rfl, b5⟩
          have b6 := hbel.trans (b5.mono hB)
          clear b5 hbel
          go_wp2
          go_ret
          exact ⟨ret_s HTX.out.symm, b6⟩
      · have hkb : ((k : Int) != 0) = true := by simp; omega
        have HFR := Lib.hid (implFirstRun k hk0 hk)
        go_wp2_with fail
        refine (HFR.out _ (HT.out.on hbel)).mono ?_
        rintro e w1 ⟨⟨f, n, hfr, rfl⟩, rfl⟩
        have h23 := hfr.1
        have HN := Lib.hid (runs_first hk hfr)
        have HS := Lib.hid (restM_less hk hfr)
        have HK := Lib.hid (restM_lt f n hk)
        have hand := andNot_u32 k (rangeM f (f + n)) (by omega) (by have := rangeM_lt (f := f) (t := f + n) h23; omega)
        have HA : Hid (bits .andNot .u32 (k : Int) ((rangeM f (f + n) : Nat) : Int) = ((restM k f n : Nat) : Int)) := Lib.hid hand
        clear hand hfr hkb HFR
        have hlen : Hid ((done.map fun r => strB (runText r)).length + 1 ≤ 8796093022208) := Lib.hid (by
          have e := congrArg List.length hdone.out
          have := HL.out
          simp at e ⊢
          omega)
        go_wp2_with fail
        refine (implFormatRun f (f + n) _ (by omega) h23).mono ?_
        rintro e w2 ⟨rfl, b2⟩
        have hown2 := ownsS_below hown b2
        have hbel2 := hbel.trans (b2.mono hB)
        have hB2 := hbel2.size
        clear hown hbel b2 hB
        go_wp2_with (at_builtin; refine append_strs rfl (.tmp 15) (.tmp 19) rfl w.heap.size _ _ rfl hown2 hB2 _ [strB (runText ((f : Int), ((f + n : Nat) : Int)))] 1 _ rfl (by first | rfl | (simp; done)) rfl (by have := hlen.out; simp at this ⊢; omega) ?_)
        intro v' w3 hown3 hb3
        have hbel3 := hbel2.trans hb3
        have hB3 := hbel3.size
        clear hown2 hbel2 hB2 hb3
        go_wp2_with fail
        refine (implRunMask f (f + n) _ (by omega) h23).mono ?_
        rintro e w4 ⟨rfl, b4⟩
        have hown4 := ownsS_below hown3 b4
        have hbel4 := hbel3.trans (b4.mono hB3)
        clear hown3 hbel3 hB3 b4
        go_wp2
        go_roundw
        case rel => exact ⟨restM k f n, done ++ [((f : Int), ((f + n : Nat) : Int))], by rw [HA.out], HK.out, by simpa using hown4, hbel4, Lib.hid (by rw [← hdone.out, HN.out]; simp)⟩
        case measure => rw [HA.out]; simpa [intOf] using HS.out
theorem implFormatSet (va : Value) (a : List Int) (w : World) (h : Ints w va a) (hT : TabZ w) (hn : a.length ≤ 1048576) :
    Calls Tryd.prog 16 #[va] w fun e w' => e = .returned (.string (strB (fmtSet a))) ∧ Below w.heap.size w w' := by
  have HM := Lib.hid (implMaskOf va a w h (by omega))
  have HT := Lib.hid hT
  have HF := Lib.hid (implFormat (maskL a) (maskL_lt a))
  clear h hT hn
  cases hs : setB a with
  | true =>
    have HE : Hid (fmtSet a = fmtRuns (memL (maskL a))) := Lib.hid (by rw [memL_set ((setB_iff a).1 hs)]; unfold fmtSet; rw [hs]; rfl)
    rw [hs] at HM
    rw [HE.out]
    clear hs HE
    generalize fmtRuns (memL (maskL a)) = r at *
    generalize maskL a = m at *
    go_enter Tryd.func16, Tryd.ntmps16
    go_wp2_with fail
    refine HM.out.mono ?_
    rintro e w1 ⟨rfl, b1⟩
    go_wp2_with fail
    refine (HF.out _ (HT.out.on b1)).mono ?_
    rintro e w2 ⟨rfl, b2⟩
    have b3 := b1.trans (b2.mono b1.size)
    clear b1 b2
    go_wp2
    go_ret
    exact ⟨rfl, b3⟩
  | false =>
    have HE := Lib.hid (fmtSet_no hs)
    rw [hs] at HM
    rw [HE.out]
    clear hs HE HF
    generalize maskL a = m at *
    go_enter Tryd.func16, Tryd.ntmps16
    go_wp2_with fail
    refine HM.out.mono ?_
    rintro e w1 ⟨rfl, b1⟩
    go_wp2
    go_ret
    exact ⟨rfl, b1⟩
end Go.Proofs.YtnfmhiephdhopaaDoor
namespace Go.Proofs.YtnfmhiephdhopaaDoor
open Go.RowKit
set_option linter.unusedVariables false
set_option maxHeartbeats 1000000 in
set_option maxRecDepth 100000 in
theorem cut1_no (q : List UInt8) (w : World) (h : (45 : UInt8) ∉ q) : Calls Tryd.prog 68 #[.string (strB q), .string ⟨#[45]⟩] w fun e w' => e = .returned (.tuple #[.string (strB q), .string (strB []), .bool false]) ∧ w' = w := by
  have hi : Lib.indexByte (strB q).data.toList 45 = -1 := by
    rcases index_cases q 45 with ⟨_, e⟩ | ⟨a, r, e, _⟩
    · exact e
    · exact absurd (by rw [e]; simp) h
  have HI := Lib.hid (Tryd.stringslite_Index_one (strB q) 45 w)
  rw [hi] at HI
  clear hi
  go_enter Tryd.func68, Tryd.ntmps68
  go_wp2_with fail
  refine HI.out.mono ?_
  rintro e w1 ⟨rfl, rfl⟩
  go_wp2
  go_ret3
  exact ⟨rfl, rfl⟩
set_option maxHeartbeats 1000000 in
set_option maxRecDepth 100000 in
theorem cut1_yes (a b : List UInt8) (w : World) (h : (45 : UInt8) ∉ a) (hl : (a ++ 45 :: b).length ≤ 1048576) : Calls Tryd.prog 68 #[.string (strB (a ++ 45 :: b)), .string ⟨#[45]⟩] w fun e w' => e = .returned (.tuple #[.string (strB a), .string (strB b), .bool true]) ∧ Below w.heap.size w w' := by
  have hi : Lib.indexByte (strB (a ++ 45 :: b)).data.toList 45 = (a.length : Int) := by
    rcases index_cases (a ++ 45 :: b) 45 with ⟨g, _⟩ | ⟨c, r, e, hc, e2⟩
    · exact absurd (by simp) g
    · show Lib.indexByte (a ++ 45 :: b) 45 = _
      have h1 := cutL_app b h
      have h2 := cutL_app r hc
      rw [← e, h1] at h2
      rw [e2, (List.cons.inj h2).1]
  have HI := Lib.hid (Tryd.stringslite_Index_one (strB (a ++ 45 :: b)) 45 w)
  rw [hi] at HI
  have hsz : ((strB (a ++ 45 :: b)).size : Int) = (a.length : Int) + 1 + (b.length : Int) := by rw [strB_size]; simp; omega
  have H1 := Lib.hid (strB_take a (45 :: b))
  have H2 := Lib.hid (strB_drop a 45 b)
  have hs2 : (strB (a ++ 45 :: b)).size = (a ++ 45 :: b).length := strB_size _
  rw [← hs2] at H2
  have hl2 : (a.length : Int) ≤ 1048576 := by simp at hl; omega
  clear hi hl hs2
  generalize strB (a ++ 45 :: b) = s at *
  have h0 : (0 : Int) ≤ (a.length : Int) := by omega
  have e1 : IntKind.i64.wrap ((a.length : Int) + 1) = (a.length : Int) + 1 := IntWalk.i64_in _ (by omega)
  have e2 : (0 : Int) ≤ (a.length : Int) + 1 := by omega
  have e3 : (a.length : Int) + 1 ≤ (s.size : Int) := by omega
  have e4 : (a.length : Int) ≤ (s.size : Int) := by omega
  have e5 : ((a.length : Int) + 1).toNat = a.length + 1 := by omega
  go_enter Tryd.func68, Tryd.ntmps68
  go_wp2_with fail
  refine HI.out.mono ?_
  rintro e w1 ⟨rfl, rfl⟩
  go_wp2
  go_quiet (fail)
  go_wp2
  go_ret3
  exact ⟨triple' H1.out H2.out, below_drewN (Below.refl _ _) _⟩
set_option maxHeartbeats 1000000 in
theorem cut_no (q : List UInt8) (w : World) (h : (45 : UInt8) ∉ q) : Calls Tryd.prog 59 #[.string (strB q), .string ⟨#[45]⟩] w fun e w' => e = .returned (.tuple #[.string (strB q), .string (strB []), .bool false]) ∧ Below w.heap.size w w' := by
  have HI := Lib.hid (cut1_no q w h)
  go_enter Tryd.func59, Tryd.ntmps59
  go_wp2_with fail
  refine HI.out.mono ?_
  rintro e w1 ⟨rfl, rfl⟩
  go_wp2
  go_ret3
  exact ⟨rfl, Below.refl _ _⟩
set_option maxHeartbeats 1000000 in
theorem cut_yes (a b : List UInt8) (w : World) (h : (45 : UInt8) ∉ a) (hl : (a ++ 45 :: b).length ≤ 1048576) : Calls Tryd.prog 59 #[.string (strB (a ++ 45 :: b)), .string ⟨#[45]⟩] w fun e w' => e = .returned (.tuple #[.string (strB a), .string (strB b), .bool true]) ∧ Below w.heap.size w w' := by
  have HI := Lib.hid (cut1_yes a b w h hl)
  clear hl
  generalize strB (a ++ 45 :: b) = s at *
  go_enter Tryd.func59, Tryd.ntmps59
  go_wp2_with fail
  refine HI.out.mono ?_
  rintro e w1 ⟨rfl, b1⟩
  go_wp2
  go_ret3
  exact ⟨rfl, b1⟩
/-- What parseRun answers of a piece. -/
def runAns (q : List UInt8) : Value := if partOk (cutL 45 q) = true then .tuple #[.int .u32 ((partMask (cutL 45 q) : Nat) : Int), .bool true] else .tuple #[.int .u32 0, .bool false]
theorem ret_v {a b : Value} (h : a = b) : Ending.returned a = .returned b := by rw [h]
set_option maxHeartbeats 4000000 in
set_option maxRecDepth 100000 in
theorem implParseRun (q : List UInt8) (w : World) (hl : q.length ≤ 1048576) (hT : Tab w) :
    Calls Tryd.prog 46 #[.string (strB q)] w fun e w' => e = .returned (runAns q) ∧ Below w.heap.size w w' := by
  -- the two texts, and what the pieces' words say of them
  obtain ⟨a, b, found, hcut, hfb, hla, hlb, hkey, hval⟩ : ∃ (a b : List UInt8) (found : Bool), Hid (Calls Tryd.prog 59 #[.string (strB q), .string ⟨#[45]⟩] w fun e w' => e = .returned (.tuple #[.string (strB a), .string (strB (if found = true then b else [])), .bool found]) ∧ Below w.heap.size w w') ∧ (found = false → b = a) ∧ a.length ≤ 1048576 ∧ b.length ≤ 1048576 ∧ (partOk (cutL 45 q) = true ↔ progOk a b) ∧ (progOk a b → numL ((cutL 45 q).getD 0 []) = (parI a).1 ∧ partTo (cutL 45 q) = (parI b).1) := by
    rcases index_cases q 45 with ⟨h, _⟩ | ⟨a, b, rfl, h, _⟩
    · exact ⟨q, q, false, Lib.hid (cut_no q w h), fun _ => rfl, hl, hl, (part_one h).1, (part_one h).2⟩
    · have hl' := hl
      simp at hl'
      exact ⟨a, b, true, Lib.hid (cut_yes a b w h hl), fun g => Bool.noConfusion g, by omega, by omega, (part_two h).1, (part_two h).2⟩
  have HT := Lib.hid hT
  have P1 := Lib.hid (fun w h => implPar (strB a) w (by rw [strB_size]; exact hla) h)
  have P2 := Lib.hid (fun w h => implPar (strB b) w (by rw [strB_size]; exact hlb) h)
  have HYES : Hid (progOk a b → runAns q = .tuple #[.int .u32 ((rangeM (parI a).1.toNat (parI b).1.toNat : Nat) : Int), .bool true]) := Lib.hid (fun g => by
    unfold runAns partMask
    rw [if_pos (hkey.2 g), (hval g).1, (hval g).2])
  have HNO : Hid (¬ progOk a b → runAns q = .tuple #[.int .u32 0, .bool false]) := Lib.hid (fun g => by
    unfold runAns
    rw [if_neg (fun h => g (hkey.1 h))])
  have e1 : (strB a).data.toList = a := rfl
  have e2 : (strB b).data.toList = b := rfl
  rw [e1] at P1
  rw [e2] at P2
  clear e1 e2 hkey hval hl hT hla hlb
  unfold progOk at HYES HNO
  generalize runAns q = ans at *
  cases found with
  | false =>
    obtain rfl := hfb rfl
    clear P2 hfb
    generalize strB q = s at *
    generalize (parI b).1 = x at *
    obtain ⟨y, hy0⟩ : ∃ y, y = x := ⟨_, rfl⟩
    generalize (parI b).2 = p at *
    go_enter Tryd.func46, Tryd.ntmps46
    go_wp2_with fail
    refine hcut.out.mono ?_
    rintro e w1 ⟨rfl, b1⟩
    go_wp2_with fail
    refine (P1.out _ (HT.out.on b1)).mono ?_
    rintro e w2 ⟨rfl, b2⟩
    have b3 := b1.trans (b2.mono b1.size)
    clear b1 b2
    go_wp2_with fail
    refine (P1.out _ (HT.out.on b3)).mono ?_
    rintro e w3 ⟨rfl, b4⟩
    have b5 := b3.trans (b4.mono b3.size)
    clear b3 b4 P1 HT
    cases p with
    | false =>
      have HN := Lib.hid (HNO.out (by rintro ⟨h, _⟩; cases h))
      clear HYES HNO
      go_wp2
      go_ret2
      exact ⟨ret_v HN.out.symm, b5⟩
    | true =>
      by_cases hxy : x ≤ x
      · have hgt : decide (x < x) = false := by rw [decide_eq_false_iff_not]; omega
        have hgt2 : ¬ x < x := by omega
        by_cases hx : 0 ≤ x ∧ x ≤ 23
        · have HQ1 := Lib.hid (decide_eq_true hx)
          by_cases hy : 0 ≤ x ∧ x ≤ 23
          · have HQ2 := Lib.hid (decide_eq_true hy)
            have HN := Lib.hid (HYES.out ⟨rfl, rfl, hxy, hx, hy⟩)
            obtain ⟨f, rfl⟩ := Int.eq_ofNat_of_zero_le hx.1
            have hfu : f ≤ f := by omega
            have hu : f ≤ 23 := by omega
            have HRM := Lib.hid (fun w => implRunMask f f w hfu hu)
            clear HYES HNO hx hy hxy hfu hu
            go_wp2_with fail
            refine (isQuery _ _).mono ?_
            rintro e wx ⟨rfl, rfl⟩
            rw [HQ1.out]
            go_wp2_with fail
            refine (isQuery _ _).mono ?_
            rintro e wx ⟨rfl, rfl⟩
            rw [HQ2.out]
            go_wp2_with fail
            refine (HRM.out _).mono ?_
            rintro e w6 ⟨rfl, b6⟩
            have b7 := b5.trans (b6.mono b5.size)
            go_wp2
            go_ret2
            exact ⟨ret_v HN.out.symm, b7⟩
          · have HQ2 := Lib.hid (decide_eq_false hy)
            have HN := Lib.hid (HNO.out (by rintro ⟨_, _, _, _, h⟩; exact hy h))
            clear HYES HNO hx hy hxy
            go_wp2_with fail
            refine (isQuery _ _).mono ?_
            rintro e wx ⟨rfl, rfl⟩
            rw [HQ1.out]
            go_wp2_with fail
            refine (isQuery _ _).mono ?_
            rintro e wx ⟨rfl, rfl⟩
            rw [HQ2.out]
            go_wp2
            go_ret2
            exact ⟨ret_v HN.out.symm, b5⟩
        · have HQ1 := Lib.hid (decide_eq_false hx)
          have HN := Lib.hid (HNO.out (by rintro ⟨_, _, _, h, _⟩; exact hx h))
          clear HYES HNO hx hxy
          go_wp2_with fail
          refine (isQuery _ _).mono ?_
          rintro e wx ⟨rfl, rfl⟩
          rw [HQ1.out]
          go_wp2
          go_ret2
          exact ⟨ret_v HN.out.symm, b5⟩
      · have hgt : decide (x < x) = true := by rw [decide_eq_true_iff]; omega
        have hgt2 : x < x := by omega
        have HN := Lib.hid (HNO.out (by rintro ⟨_, _, h, _⟩; exact hxy h))
        clear HYES HNO hxy
        go_wp2
        go_ret2
        exact ⟨ret_v HN.out.symm, b5⟩
  | true =>
    clear hfb
    have hcut2 : Hid (Calls Tryd.prog 59 #[.string (strB q), .string ⟨#[45]⟩] w fun e w' => e = .returned (.tuple #[.string (strB a), .string (strB b), .bool true]) ∧ Below w.heap.size w w') := hcut
    clear hcut
    generalize strB q = s at *
    generalize strB a = sa at *
    generalize strB b = sb at *
    generalize (parI a).1 = x at *
    generalize (parI b).1 = y at *
    generalize (parI a).2 = p at *
    generalize (parI b).2 = r at *
    go_enter Tryd.func46, Tryd.ntmps46
    go_wp2_with fail
    refine hcut2.out.mono ?_
    rintro e w1 ⟨rfl, b1⟩
    go_wp2_with fail
    refine (P1.out _ (HT.out.on b1)).mono ?_
    rintro e w2 ⟨rfl, b2⟩
    have b3 := b1.trans (b2.mono b1.size)
    clear b1 b2
    go_wp2_with fail
    refine (P2.out _ (HT.out.on b3)).mono ?_
    rintro e w3 ⟨rfl, b4⟩
    have b5 := b3.trans (b4.mono b3.size)
    clear b3 b4 P1 P2 HT
    cases p with
    | false =>
      have HN := Lib.hid (HNO.out (by rintro ⟨h, _⟩; cases h))
      clear HYES HNO
      go_wp2
      go_ret2
      exact ⟨ret_v HN.out.symm, b5⟩
    | true =>
      cases r with
      | false =>
        have HN := Lib.hid (HNO.out (by rintro ⟨_, h, _⟩; cases h))
        clear HYES HNO
        go_wp2
        go_ret2
        exact ⟨ret_v HN.out.symm, b5⟩
      | true =>
        by_cases hxy : x ≤ y
        · have hgt : decide (y < x) = false := by rw [decide_eq_false_iff_not]; omega
          have hgt2 : ¬ y < x := by omega
          by_cases hx : 0 ≤ x ∧ x ≤ 23
          · have HQ1 := Lib.hid (decide_eq_true hx)
            by_cases hy : 0 ≤ y ∧ y ≤ 23
            · have HQ2 := Lib.hid (decide_eq_true hy)
              have HN := Lib.hid (HYES.out ⟨rfl, rfl, hxy, hx, hy⟩)
              obtain ⟨f, rfl⟩ := Int.eq_ofNat_of_zero_le hx.1
              obtain ⟨u, rfl⟩ := Int.eq_ofNat_of_zero_le hy.1
              have hfu : f ≤ u := by omega
              have hu : u ≤ 23 := by omega
              have HRM := Lib.hid (fun w => implRunMask f u w hfu hu)
              clear HYES HNO hx hy hxy hfu hu
              go_wp2_with fail
              refine (isQuery _ _).mono ?_
              rintro e wx ⟨rfl, rfl⟩
              rw [HQ1.out]
              go_wp2_with fail
              refine (isQuery _ _).mono ?_
              rintro e wx ⟨rfl, rfl⟩
              rw [HQ2.out]
              go_wp2_with fail
              refine (HRM.out _).mono ?_
              rintro e w6 ⟨rfl, b6⟩
              have b7 := b5.trans (b6.mono b5.size)
              go_wp2
              go_ret2
              exact ⟨ret_v HN.out.symm, b7⟩
            · have HQ2 := Lib.hid (decide_eq_false hy)
              have HN := Lib.hid (HNO.out (by rintro ⟨_, _, _, _, h⟩; exact hy h))
              clear HYES HNO hx hy hxy
              go_wp2_with fail
              refine (isQuery _ _).mono ?_
              rintro e wx ⟨rfl, rfl⟩
              rw [HQ1.out]
              go_wp2_with fail
              refine (isQuery _ _).mono ?_
              rintro e wx ⟨rfl, rfl⟩
              rw [HQ2.out]
              go_wp2
              go_ret2
              exact ⟨ret_v HN.out.symm, b5⟩
          · have HQ1 := Lib.hid (decide_eq_false hx)
            have HN := Lib.hid (HNO.out (by rintro ⟨_, _, _, h, _⟩; exact hx h))
            clear HYES HNO hx hxy
            go_wp2_with fail
            refine (isQuery _ _).mono ?_
            rintro e wx ⟨rfl, rfl⟩
            rw [HQ1.out]
            go_wp2
            go_ret2
            exact ⟨ret_v HN.out.symm, b5⟩
        · have hgt : decide (y < x) = true := by rw [decide_eq_true_iff]; omega
          have hgt2 : y < x := by omega
          have HN := Lib.hid (HNO.out (by rintro ⟨_, _, h, _⟩; exact hxy h))
          clear HYES HNO hxy
          go_wp2
          go_ret2
          exact ⟨ret_v HN.out.symm, b5⟩
end Go.Proofs.YtnfmhiephdhopaaDoor
namespace Go.Proofs.YtnfmhiephdhopaaDoor
open Go.RowKit Go.Shelf
attribute [local go_sem] Oper.semAt_some
set_option linter.unusedVariables false
/-- How long the text in the box is. -/
def boxLen (B : Nat) (W : World) : Nat := match W.cell? ⟨B, 0, none⟩ with
  | some (.string s) => s.size
  | _ => 0
theorem boxLen_of {B : Nat} {W : World} {t : TypeId} {s : ByteArray} (h : Boxed W B t (.string s)) : boxLen B W = s.size := by unfold boxLen; rw [h.cell]
/-! ### The law of the loop -/
/-- All blocks from B on lie as they lay. -/
def Stays (B : Nat) (W W' : World) : Prop := W.heap.size ≤ W'.heap.size ∧ ∀ j, B ≤ j → j < W.heap.size → W'.heap[j]? = W.heap[j]?
theorem stays_below {B : Nat} {W W' : World} (h : Below W.heap.size W W') : Stays B W W' := ⟨h.size, fun j _ hj => h.block j hj⟩
theorem Stays.trans {B : Nat} {W W' W'' : World} (h : Stays B W W') (h' : Stays B W' W'') : Stays B W W'' :=
  ⟨Nat.le_trans h.1 h'.1, fun j hb hj => (h'.2 j hb (Nat.lt_of_lt_of_le hj h.1)).trans (h.2 j hb hj)⟩
theorem stays_set {B : Nat} {W : World} {b : Nat} (h : b < B) (v : Value) : Stays B W (W.setCell ⟨b, 0, none⟩ v) :=
  ⟨by simp [World.setCell], fun j hb _ => Below.heap_setCell W _ v j (fun e => by have : j = b := e; omega)⟩
/-- How a round's body may end. -/
def roundEnd (B : Nat) (I : Nat → World → Prop) (Ix : World → Prop) (k : Nat) (W : World) : Exit → Act → World → Prop
  | .normal, _, W' => Stays B W W' ∧ I (k + 1) W'
  | .ret, _, W' => Stays B W W' ∧ Ix W'
  | _, _, _ => False
theorem below_put {B : Nat} (W : World) {l : Nat} {o : Obj} (o' : Obj) (h : W.heap[l]? = some o) (hl : B ≤ l) : Below B W (W.putObj l o') :=
  ⟨rfl, rfl, rfl, by simp, fun k hk => World.putObj_heap_other (by omega)⟩
/-- What a call of the iterator asks of the rounds, and what it answers. -/
def SplitStops (n : Nat) (Bs Bp Bv : Nat) (P : List (List UInt8)) (s : List UInt8) : Prop :=
  ∀ (l : Nat) (J : Nat → World → Prop) (Jx : World → Prop),
    (∀ k W v, J k W → J k (W.setCell ⟨Bs, 0, none⟩ v)) →
    (∀ k W, J k W → Boxed W Bp 9 (.string ⟨#[32]⟩) ∧ Boxed W Bv 3 (.int .i64 0)) →
    (∀ (k : Nat) (W : World) (r : ByteArray), k < P.length → J k W → Boxed W Bs 9 (.string r) →
      YieldAt Fence.wide (n - 1) Tryd.prog l #[.string (strB (P.getD k []))] W fun e W' => (e = .returned (.bool true) ∧ J (k + 1) W' ∧ Boxed W' Bs 9 (.string r)) ∨ (e = .returned (.bool false) ∧ Jx W')) →
    ∀ W, J 0 W → Boxed W Bs 9 (.string (strB s)) →
    CallsIn Fence.wide n Tryd.prog 65 #[.func (.yield l) #[] #[], .pointer (some ⟨Bp, 0, none⟩), .pointer (some ⟨Bs, 0, none⟩), .pointer (some ⟨Bv, 0, none⟩)] W fun e W' => (∃ v, e = .returned v) ∧ (J P.length W' ∨ Jx W')
theorem rangeSplit {g : Operand} {ps : Array Tmp} {assign body : Code} {Q : Exit → Act → World → Prop} {a : Act} {w : World} {n : Nat} (h1 : 1 ≤ n) (B : Nat) (s : List UInt8)
    (hg : a.eval g = .func (.func 65) #[] #[.pointer (some ⟨B + 1, 0, none⟩), .pointer (some ⟨B, 0, none⟩), .pointer (some ⟨B + 2, 0, none⟩)])
    (hB : w.heap.size = B + 3) (hstops : SplitStops (n - 1) B (B + 1) (B + 2) (cutL 32 s) s)
    (hs : Boxed w B 9 (.string (strB s))) (hp : Boxed w (B + 1) 9 (.string ⟨#[32]⟩)) (hv : Boxed w (B + 2) 3 (.int .i64 0))
    (I : Nat → World → Prop) (Ix : World → Prop) (hI : ∀ k W W', I k W → Below B W W' → I k W') (hIx : ∀ W W', Ix W → Below B W W' → Ix W') (h0 : I 0 w)
    (a₁ : List UInt8 → Act) (hps : ps.size = 1)
    (hassign : ∀ (l : Nat) (x : List UInt8) (W : World) (K : Act → World → Prop), K (a₁ x) W →
      assign.wpIn (Fence.wide.inRound l) (n - 1 - 1) Tryd.prog (Exit.then K (fun _ _ _ => False)) { tmps := (ps.zip #[Value.string (strB x)]).foldl (fun t (p, v) => t.setIfInBounds p v) a.tmps, defers := [] } W)
    (hbody : ∀ (l k : Nat) (W : World), k < (cutL 32 s).length → I k W → body.wpIn (Fence.wide.inRound l) (n - 1 - 1) Tryd.prog (roundEnd B I Ix k W) (a₁ ((cutL 32 s).getD k [])) W)
    (hdone : ∀ (D : Nat) (W : World), B ≤ D → I (cutL 32 s).length W → W.heap[D]? = some (.deferred (some [])) → Q .normal { a with defers := { target := .collected D, args := #[] } :: a.defers } W)
    (hstop : ∀ (D : Nat) (W : World), B ≤ D → Ix W → W.heap[D]? = some (.deferred (some [])) → Code.ret.wpIn Fence.wide n Tryd.prog Q { a with defers := { target := .collected D, args := #[] } :: a.defers } W) :
    (Code.rangeFunc g ps assign body).wpIn Fence.wide n Tryd.prog Q a w := by
  refine wpIn_rangeFunc fun fn hfn => ?_
  let rec0 : LoopState → Option Code → Loop := fun st pe => { state := st, pending := pe, fn := fn, tmps := a.tmps, params := ps, assign := assign, body := body, defers := B + 3 }
  obtain ⟨rec, hrec⟩ : ∃ r, r = rec0 := ⟨_, rfl⟩
  have hst : ∀ st pe, (rec st pe).state = st := fun st pe => by rw [hrec]
  have hpe : ∀ st pe, (rec st pe).pending = pe := fun st pe => by rw [hrec]
  have hpa : ∀ st pe, (rec st pe).params = ps := fun st pe => by rw [hrec]
  -- the two blocks of the loop: what its rounds defer, and its record
  obtain ⟨W1, hW1⟩ : ∃ W1, (w.alloc (.deferred (some []))).alloc (.loop (rec .ready none)) = W1 := ⟨_, rfl⟩
  have hD1 : W1.heap[B + 3]? = some (.deferred (some [])) := by
    rw [← hW1, Below.heap_alloc _ _ _ (by simp; omega), ← hB]; exact World.alloc_heap_new w _
  have hL1 : W1.heap[B + 4]? = some (.loop (rec .ready none)) := by
    have := World.alloc_heap_new (w.alloc (.deferred (some []))) (.loop (rec .ready none))
    rw [World.size_alloc, hB] at this
    rw [← hW1]; exact this
  have hup : Below w.heap.size w W1 := by rw [← hW1]; exact ((Below.refl _ w).alloc (Nat.le_refl _) _).alloc (by simp) _
  have hs1 : Boxed W1 B 9 (.string (strB s)) := by rw [← hW1]; exact (hs.alloc _).alloc _
  have hp1 : Boxed W1 (B + 1) 9 (.string ⟨#[32]⟩) := by rw [← hW1]; exact (hp.alloc _).alloc _
  have hv1 : Boxed W1 (B + 2) 3 (.int .i64 0) := by rw [← hW1]; exact (hv.alloc _).alloc _
  have hI1 : I 0 W1 := hI 0 w W1 h0 (hup.mono (by omega))
  refine ⟨B + 4, [{ target := .collected (B + 3), args := #[] }], W1, { target := .fn (.func 65) #[.pointer (some ⟨B + 1, 0, none⟩), .pointer (some ⟨B, 0, none⟩), .pointer (some ⟨B + 2, 0, none⟩)], args := #[.func (.yield (B + 4)) #[] #[]] }, W1, 65,
    #[.func (.yield (B + 4)) #[] #[], .pointer (some ⟨B + 1, 0, none⟩), .pointer (some ⟨B, 0, none⟩), .pointer (some ⟨B + 2, 0, none⟩)], W1, ?_, ?_, ?_, ?_, fun _ => h1, ?_⟩
  · have := run_enterLoop_outer (P := Tryd.prog) (w := w) fn a.tmps ps assign body
    rw [hB] at this
    rw [← hW1, hrec]
    exact this
  · simp only [resolve, hg]
    simp [go_sem]
  · intro f' _; trivial
  · simp [invoke, go_sem]
  · refine (hstops (B + 4)
      (fun k W => (I k W ∧ Boxed W (B + 1) 9 (.string ⟨#[32]⟩) ∧ Boxed W (B + 2) 3 (.int .i64 0)) ∧ W.heap[B + 3]? = some (.deferred (some [])) ∧ W.heap[B + 4]? = some (.loop (rec .ready none)))
      (fun W => Ix W ∧ W.heap[B + 3]? = some (.deferred (some [])) ∧ W.heap[B + 4]? = some (.loop (rec .done (some .ret))))
      ?_ ?_ ?_ W1 ⟨⟨hI1, hp1, hv1⟩, hD1, hL1⟩ hs1).mono ?_
    · rintro k W v ⟨⟨hi, hp, hv⟩, hd, hl⟩
      have hne : ∀ j, j ≠ B → (W.setCell ⟨B, 0, none⟩ v).heap[j]? = W.heap[j]? := fun j hj => Below.heap_setCell W _ v j hj
      exact ⟨⟨hI k W _ hi ((Below.refl B W).setCell (p := ⟨B, 0, none⟩) (Nat.le_refl _) v), (hne _ (by omega)).trans hp, (hne _ (by omega)).trans hv⟩, (hne _ (by omega)).trans hd, (hne _ (by omega)).trans hl⟩
    · rintro k W ⟨⟨_, hp, hv⟩, _⟩
      exact ⟨hp, hv⟩
    · -- one round
      rintro k W r hk ⟨⟨hi, hp, hv⟩, hd, hl⟩ hbs
      have hy := run_yield (P := Tryd.prog) (args := #[Value.string (strB ((cutL 32 s).getD k []))]) hl (by rw [hpa, hps]; rfl)
      rw [hrec] at hy
      refine ⟨fn, _, assign, body, hy, roundIn_of_wpIn hfn (hassign _ _ W _ ⟨_, run_beginRound hl (hst _ _), ?_⟩)⟩
      have e2 : ({ rec .ready none with state := .busy } : Loop) = rec .busy none := by rw [hrec]
      rw [e2]
      obtain ⟨W2, hW2⟩ : ∃ W2, W.putObj (B + 4) (.loop (rec .busy none)) = W2 := ⟨_, rfl⟩
      rw [hW2]
      have hlt : B + 4 < W.heap.size := (Array.getElem?_eq_some_iff.1 hl).1
      have hsz : W2.heap.size = W.heap.size := by rw [← hW2]; exact World.putObj_size
      have hne : ∀ j, j ≠ B + 4 → W2.heap[j]? = W.heap[j]? := fun j hj => by rw [← hW2]; exact World.putObj_heap_other hj
      have hl2 : W2.heap[B + 4]? = some (.loop (rec .busy none)) := by rw [← hW2]; exact World.putObj_heap_same hlt
      have hi2 : I k W2 := hI k W W2 hi (by rw [← hW2]; exact below_put W _ hl (by omega))
      refine wpIn_mono (hbody _ k W2 hk hi2) ?_
      rintro e a3 W3 hq
      have fin : ∀ (jump : Option Code), Stays B W2 W3 → ∃ W4, (Instr.endRound (B + 4) jump).run Tryd.prog W3 = .ok (.bool jump.isNone) W4 ∧ Below B W3 W4 ∧ (∀ j, B ≤ j → j < B + 4 → W4.heap[j]? = W.heap[j]?) ∧ W4.heap[B + 4]? = some (.loop (rec (if jump.isNone then .ready else .done) jump)) := fun jump h3 => by
        have hl3 : W3.heap[B + 4]? = some (.loop (rec .busy none)) := (h3.2 _ (by omega) (by omega)).trans hl2
        have := run_endRound (P := Tryd.prog) jump hl3
        have e3 : ({ rec .busy none with state := if jump.isNone then .ready else .done, pending := jump } : Loop) = rec (if jump.isNone then .ready else .done) jump := by rw [hrec]
        rw [e3] at this
        exact ⟨_, this, below_put W3 _ hl3 (by omega), fun j hb hj => (World.putObj_heap_other (by omega)).trans ((h3.2 j hb (by omega)).trans (hne j (by omega))), World.putObj_heap_same (Array.getElem?_eq_some_iff.1 hl3).1⟩
      cases e with
      | normal =>
        obtain ⟨W4, hr, hb4, hj4, hl4⟩ := fin none hq.1
        exact ⟨_, W4, hr, .inl ⟨rfl, ⟨⟨hI _ W3 W4 hq.2 hb4, (hj4 _ (by omega) (by omega)).trans hp, (hj4 _ (by omega) (by omega)).trans hv⟩, (hj4 _ (by omega) (by omega)).trans hd, hl4⟩, (hj4 _ (by omega) (by omega)).trans hbs⟩⟩
      | ret =>
        obtain ⟨W4, hr, hb4, hj4, hl4⟩ := fin (some .ret) hq.1
        exact ⟨_, W4, hr, .inr ⟨rfl, hIx W3 W4 hq.2 hb4, (hj4 _ (by omega) (by omega)).trans hd, hl4⟩⟩
      | exit id => exact hq.elim
      | goto t => exact hq.elim
      | panic ch => exact hq.elim
      | outgrown => exact hq.elim
    · -- behind the iterator
      rintro e W2 ⟨⟨v, rfl⟩, (⟨⟨hi, _, _⟩, hd, hl⟩ | ⟨hi, hd, hl⟩)⟩
      · have := run_endLoop (P := Tryd.prog) hl (by rw [hst]; simp)
        rw [hpe] at this
        exact ⟨none, _, this, hdone (B + 3) _ (by omega) (hI _ _ _ hi (below_put W2 _ hl (by omega))) ((World.putObj_heap_other (by omega)).trans hd)⟩
      · have := run_endLoop (P := Tryd.prog) hl (by rw [hst]; simp)
        rw [hpe] at this
        exact ⟨some .ret, _, this, hstop (B + 3) _ (by omega) (hIx _ _ hi (below_put W2 _ hl (by omega))) ((World.putObj_heap_other (by omega)).trans hd)⟩
/-! ### The iterator -/
set_option maxHeartbeats 4000000 in
set_option maxRecDepth 100000 in
theorem splitStops (n Bs Bp Bv : Nat) (hn : 1 ≤ n) (s : List UInt8) (hl : s.length ≤ 1048576) : SplitStops n Bs Bp Bv (cutL 32 s) s := by
  intro l J Jx hJs hbox hY W h0 hs
  have HL := Lib.hid hl
  clear hl
  generalize hPP : cutL 32 s = P at *
  have HP := Lib.hid hPP
  clear hPP
  refine callsIn_of_wp Tryd.func65 rfl trivial ?_ rfl
  simp only [Tryd.ntmps65, List.size_toArray, List.length_cons, List.length_nil, Nat.reduceAdd, Nat.reduceSub, Array.replicate_succ, Array.replicate_zero, List.push_toArray, List.append_toArray, List.nil_append, List.cons_append]
  have c1 := (hbox 0 W h0).1.cell
  have hP0 := cut_pos 32 s
  have hPl := cut_len 32 s
  rw [HP.out] at hP0 hPl
  gi_wp2
  clear c1
  gi_loopw [7] (fun _ wr => ∃ (k : Nat) (r : List UInt8), k < P.length ∧ J k wr ∧ Boxed wr Bs 9 (.string (strB r)) ∧ r.length ≤ 1048576 ∧ Hid (P.drop k = cutL 32 r)) (fun _ wr => boxLen Bs wr)
  case atStart => exact ⟨0, s, hP0, h0, hs, HL.out, Lib.hid HP.out.symm⟩
  case round =>
    obtain ⟨k, r, hk, hj, hb, hrl, hcut⟩ := hrel
    clear h0 hs hP0 hPl
    have c1 := (hbox k _ hj).1.cell
    have c3 := (hbox k _ hj).2.cell
    have c2 := hb.cell
    rcases index_cases r 32 with ⟨hno, hi⟩ | ⟨a, b, hab, ha, hi⟩
    · have HI := Lib.hid (Tryd.strings_Index_one (strB r) 32 wr)
      have hi' : Lib.indexByte (strB r).data.toList 32 = -1 := hi
      rw [hi'] at HI
      have hd := hcut.out
      rw [cutL_no hno] at hd
      have HK : Hid (k + 1 = P.length) := Lib.hid (by have := congrArg List.length hd; simp at this; omega)
      have hg : P.getD k [] = r := by
        rw [List.drop_eq_getElem_cons hk] at hd
        have := (List.cons.inj hd).1
        rw [← this]; simp [List.getD, hk]
      obtain ⟨fn, tmps, assign, body, hy, hR⟩ := hY k _ _ hk hj hb
      rw [hg] at hy
      clear hi hi' hno hd hg hcut hY hj
      generalize strB r = sr at *
      gi_wp2_with (refine ⟨trivial, ?_⟩; gi_at_call 67; refine (callsIn_wide.2 HI.out).mono ?_; rintro e w' ⟨rfl, rfl⟩)
      refine hR.mono ?_
      rintro e W3 (⟨rfl, hJ3, _⟩ | ⟨rfl, hJx3⟩)
      · gi_wp2
        go_end0
        exact ⟨⟨_, rfl⟩, .inl (by rw [← HK.out]; exact hJ3)⟩
      · gi_wp2
        go_end0
        exact ⟨⟨_, rfl⟩, .inr hJx3⟩
    · subst hab
      have HI := Lib.hid (Tryd.strings_Index_one (strB (a ++ 32 :: b)) 32 wr)
      have hi' : Lib.indexByte (strB (a ++ 32 :: b)).data.toList 32 = (a.length : Int) := hi
      rw [hi'] at HI
      have hd := hcut.out
      rw [cutL_app b ha] at hd
      have hd2 : P.drop (k + 1) = cutL 32 b := by
        rw [List.drop_eq_getElem_cons hk] at hd
        exact (List.cons.inj hd).2
      have hk2 : k + 1 < P.length := by
        have := congrArg List.length hd2
        have h2 := cut_pos 32 b
        rw [List.length_drop] at this
        omega
      have HD2 := Lib.hid hd2
      have hg : P.getD k [] = a := by
        rw [List.drop_eq_getElem_cons hk] at hd
        have := (List.cons.inj hd).1
        rw [← this]; simp [List.getD, hk]
      obtain ⟨fn, tmps, assign, body, hy, hR⟩ := hY k _ _ hk hj hb
      have hsz : ((strB (a ++ 32 :: b)).size : Int) = (a.length : Int) + 1 + (b.length : Int) := by rw [strB_size]; simp; omega
      have hszn : (strB (a ++ 32 :: b)).size = a.length + 1 + b.length := by rw [strB_size]; simp; omega
      have HSZ := Lib.hid hszn
      have hbl : b.length ≤ 1048576 := by simp at hrl; omega
      have hal : (a.length : Int) ≤ 1048576 := by simp at hrl; omega
      have H1 := strB_take a (32 :: b)
      have H2 := Lib.hid (strB_drop a 32 b)
      have hs2 : (strB (a ++ 32 :: b)).size = (a ++ 32 :: b).length := strB_size _
      rw [← hs2] at H2
      rw [hg, ← H1] at hy
      clear hi hi' hd hd2 hg hcut hj hszn hs2 H1 hY hrl
      generalize strB (a ++ 32 :: b) = sr at *
      have x0 : (0 : Int) ≤ (a.length : Int) := by omega
      have x3 : (a.length : Int) + 1 ≤ (sr.size : Int) := by omega
      have x4 : (a.length : Int) ≤ (sr.size : Int) := by omega
      have x5 : ((a.length : Int) + 1).toNat = a.length + 1 := by omega
      gi_wp2_with (refine ⟨trivial, ?_⟩; gi_at_call 67; refine (callsIn_wide.2 HI.out).mono ?_; rintro e w' ⟨rfl, rfl⟩)
      refine hR.mono ?_
      rintro e W3 (⟨rfl, hJ3, hb3⟩ | ⟨rfl, hJx3⟩)
      · have d1 := (hbox _ _ hJ3).1.cell
        have d2 := hb3.cell
        have d4 := hb3.frozen
        clear c1 c2 c3
        gi_wp2
        exact ⟨⟨k + 1, b, hk2, hJs _ _ _ hJ3, by rw [H2.out]; exact hb3.set _, hbl, HD2⟩, by rw [H2.out, boxLen_of (hb3.set _), boxLen_of hb, strB_size, HSZ.out]; omega⟩
      · gi_wp2
        refine bodyPost_ret (results_none rfl _ _ _) rfl ?_
        exact ⟨⟨_, rfl⟩, .inr hJx3⟩
/-! ### The program's parseMask -/
set_option maxHeartbeats 1000000 in
theorem splitSeq1 (s p : ByteArray) (w : World) : Calls Tryd.prog 58 #[.string s, .string p, .int .i64 0] w fun e w' => e = .returned (.func (.func 65) #[] #[.pointer (some ⟨w.heap.size + 1, 0, none⟩), .pointer (some ⟨w.heap.size, 0, none⟩), .pointer (some ⟨w.heap.size + 2, 0, none⟩)]) ∧ w' = ((w.alloc (.cells #[.string s] 9)).alloc (.cells #[.string p] 9)).alloc (.cells #[.int .i64 0] 3) := by
  go_enter Tryd.func58, Tryd.ntmps58
  go_wp2
  go_ret
  exact ⟨rfl, rfl⟩
set_option maxHeartbeats 1000000 in
theorem splitSeq0 (s p : ByteArray) (w : World) : Calls Tryd.prog 45 #[.string s, .string p] w fun e w' => e = .returned (.func (.func 65) #[] #[.pointer (some ⟨w.heap.size + 1, 0, none⟩), .pointer (some ⟨w.heap.size, 0, none⟩), .pointer (some ⟨w.heap.size + 2, 0, none⟩)]) ∧ w' = ((w.alloc (.cells #[.string s] 9)).alloc (.cells #[.string p] 9)).alloc (.cells #[.int .i64 0] 3) := by
  have H := Lib.hid (splitSeq1 s p w)
  go_enter Tryd.func45, Tryd.ntmps45
  go_wp2_with fail
  refine H.out.mono ?_
  rintro e w1 ⟨rfl, rfl⟩
  go_wp2
  go_ret
  exact ⟨rfl, rfl⟩
end Go.Proofs.YtnfmhiephdhopaaDoor
namespace Go.Proofs.YtnfmhiephdhopaaDoor
open Go.RowKit Go.Shelf
attribute [local go_sem] Oper.semAt_some
set_option linter.unusedVariables false
/-- What parseMask answers. -/
def mskAns (l : List UInt8) : Value := if l = [110, 111, 110, 101] then .tuple #[.int .u32 0, .bool true] else match mskGo 0 (cutL 32 l) with
  | none => .tuple #[.int .u32 0, .bool false]
  | some m => .tuple #[.int .u32 (m : Nat), .bool true]
theorem boxed_below {W W' : World} {C j : Nat} {t : TypeId} {v : Value} (h : Boxed W j t v) (hj : j < C) (hb : Below C W W') : Boxed W' j t v := (hb.block j hj).trans h
theorem mskAns_no {l : List UInt8} (h : ¬ l = [110, 111, 110, 101]) (hg : mskGo 0 (cutL 32 l) = none) : mskAns l = .tuple #[.int .u32 0, .bool false] := by unfold mskAns; rw [if_neg h, hg]
theorem mskAns_yes {l : List UInt8} {m : Nat} (h : ¬ l = [110, 111, 110, 101]) (hg : mskGo 0 (cutL 32 l) = some m) : mskAns l = .tuple #[.int .u32 (m : Nat), .bool true] := by unfold mskAns; rw [if_neg h, hg]
theorem mskGo_hit {m : Nat} {P : List (List UInt8)} {k : Nat} (hk : k < P.length) (h : partOk (cutL 45 (P.getD k [])) = true) : mskGo m (P.drop k) = mskGo (m ||| partMask (cutL 45 (P.getD k []))) (P.drop (k + 1)) := by
  have e : P.getD k [] = P[k] := by simp [List.getD, hk]
  rw [e] at h
  rw [List.drop_eq_getElem_cons hk, e]
  show (if partOk (cutL 45 P[k]) = true then _ else _) = _
  rw [if_pos h]
theorem mskGo_miss {m : Nat} {P : List (List UInt8)} {k : Nat} (hk : k < P.length) (h : partOk (cutL 45 (P.getD k [])) = false) : mskGo m (P.drop k) = none := by
  have e : P.getD k [] = P[k] := by simp [List.getD, hk]
  rw [e] at h
  rw [List.drop_eq_getElem_cons hk]
  show (if partOk (cutL 45 P[k]) = true then _ else _) = _
  rw [h]; rfl
theorem partMask_lt {ps : List (List UInt8)} (h : partOk ps = true) : partMask ps < 16777216 := by
  obtain ⟨f, t, _, h2, _, _, h5, _⟩ := partOk_range h
  rw [h5]; exact rangeM_lt h2
set_option maxHeartbeats 4000000 in
set_option maxRecDepth 100000 in
theorem implParseMask (l : List UInt8) (w : World) (hl : l.length ≤ 1048576) (hT : Tab w) :
    Calls Tryd.prog 32 #[.string (strB l)] w fun e w' => e = .returned (mskAns l) ∧ Below w.heap.size w w' := by
  refine (callsIn_wide (n := 6)).1 ?_
  by_cases hnone : l = [110, 111, 110, 101]
  · have HA : Hid (mskAns l = .tuple #[.int .u32 0, .bool true]) := Lib.hid (by unfold mskAns; rw [if_pos hnone])
    have e0 : strB l = ⟨#[110, 111, 110, 101]⟩ := by rw [hnone]; rfl
    rw [e0]
    clear hnone e0 hl hT
    refine callsIn_of_wp_marks Tryd.func32 rfl trivial ?_ rfl
    simp only [Tryd.ntmps32, List.size_toArray, List.length_cons, List.length_nil, Nat.reduceAdd, Nat.reduceSub, Array.replicate_succ, Array.replicate_zero, List.push_toArray, List.append_toArray, List.nil_append, List.cons_append]
    gi_wp2
    have k0 : Boxed (((w.alloc (.cells #[.int .u32 0] 37)).alloc (.cells #[.bool true] 4)).alloc (.cells #[.int .u32 0] 37)) w.heap.size 37 (.int .u32 0) := ((Boxed.new w _ _).alloc _).alloc _
    have k1 : Boxed (((w.alloc (.cells #[.int .u32 0] 37)).alloc (.cells #[.bool true] 4)).alloc (.cells #[.int .u32 0] 37)) (w.heap.size + 1) 4 (.bool true) := by
      have := Boxed.new (w.alloc (.cells #[.int .u32 0] 37)) 4 (.bool true)
      simp only [World.size_alloc] at this
      exact this.alloc _
    have kb : Below w.heap.size w (((w.alloc (.cells #[.int .u32 0] 37)).alloc (.cells #[.bool true] 4)).alloc (.cells #[.int .u32 0] 37)) := (((Below.refl _ w).alloc (Nat.le_refl _) _).alloc (by simp) _).alloc (by simp; omega) _
    generalize (((w.alloc (.cells #[.int .u32 0] 37)).alloc (.cells #[.bool true] 4)).alloc (.cells #[.int .u32 0] 37)) = W5 at *
    have e0 := k0.cell
    have e1 := k1.cell
    refine ⟨_, ?_, ret_v HA.out.symm, kb⟩
    simp [results, Tryd.f32, go_sem, e0, e1]
  · have f1 : ((strB l).toList == [110, 111, 110, 101]) = false := by rw [strB_toList, beq_eq_false_iff_ne]; exact hnone
    refine callsIn_of_wp_marks Tryd.func32 rfl trivial ?_ rfl
    simp only [Tryd.ntmps32, List.size_toArray, List.length_cons, List.length_nil, Nat.reduceAdd, Nat.reduceSub, Array.replicate_succ, Array.replicate_zero, List.push_toArray, List.append_toArray, List.nil_append, List.cons_append]
    gi_wp2_with (refine ⟨trivial, ?_⟩; gi_at_call 45; refine (callsIn_wide.2 (splitSeq0 _ _ _)).mono ?_; rintro e w' ⟨rfl, rfl⟩)
    have HNO := Lib.hid hnone
    have HT := Lib.hid hT
    have HQ : Hid (∀ k, ((cutL 32 l).getD k []).length ≤ 1048576) := Lib.hid (fun k => Nat.le_trans (cut_piece 32 l k) hl)
    have HSP := splitStops 5 (w.heap.size + 1 + 1 + 1) (w.heap.size + 1 + 1 + 1 + 1) (w.heap.size + 1 + 1 + 1 + 2) (by omega) l hl
    obtain ⟨W0, hW0⟩ : ∃ W0, ((((((w.alloc (.cells #[.int .u32 0] 37)).alloc (.cells #[.bool false] 4)).alloc (.cells #[.int .u32 0] 37)).alloc (.cells #[.string (strB l)] 9)).alloc (.cells #[.string ⟨#[32]⟩] 9)).alloc (.cells #[.int .i64 0] 3)) = W0 := ⟨_, rfl⟩
    rw [hW0]
    have x0 : Boxed W0 w.heap.size 37 (.int .u32 0) := by rw [← hW0]; exact (((((Boxed.new w _ _).alloc _).alloc _).alloc _).alloc _).alloc _
    have x1 : Boxed W0 (w.heap.size + 1) 4 (.bool false) := by
      have := Boxed.new (w.alloc (.cells #[.int .u32 0] 37)) 4 (.bool false)
      simp only [World.size_alloc] at this
      rw [← hW0]; exact ((((this.alloc _).alloc _).alloc _).alloc _)
    have x2 : Boxed W0 (w.heap.size + 1 + 1) 37 (.int .u32 ((0 : Nat) : Int)) := by
      have := Boxed.new ((w.alloc (.cells #[.int .u32 0] 37)).alloc (.cells #[.bool false] 4)) 37 (.int .u32 0)
      simp only [World.size_alloc] at this
      rw [← hW0]; exact (((this.alloc _).alloc _).alloc _)
    have x3 : Boxed W0 (w.heap.size + 1 + 1 + 1) 9 (.string (strB l)) := by
      have := Boxed.new (((w.alloc (.cells #[.int .u32 0] 37)).alloc (.cells #[.bool false] 4)).alloc (.cells #[.int .u32 0] 37)) 9 (.string (strB l))
      simp only [World.size_alloc] at this
      rw [← hW0]; exact ((this.alloc _).alloc _)
    have x4 : Boxed W0 (w.heap.size + 1 + 1 + 1 + 1) 9 (.string ⟨#[32]⟩) := by
      have := Boxed.new ((((w.alloc (.cells #[.int .u32 0] 37)).alloc (.cells #[.bool false] 4)).alloc (.cells #[.int .u32 0] 37)).alloc (.cells #[.string (strB l)] 9)) 9 (.string ⟨#[32]⟩)
      simp only [World.size_alloc] at this
      rw [← hW0]; exact this.alloc _
    have x5 : Boxed W0 (w.heap.size + 1 + 1 + 1 + 2) 3 (.int .i64 0) := by
      have := Boxed.new (((((w.alloc (.cells #[.int .u32 0] 37)).alloc (.cells #[.bool false] 4)).alloc (.cells #[.int .u32 0] 37)).alloc (.cells #[.string (strB l)] 9)).alloc (.cells #[.string ⟨#[32]⟩] 9)) 3 (.int .i64 0)
      simp only [World.size_alloc] at this
      rw [← hW0]; exact this
    have xs : W0.heap.size = w.heap.size + 1 + 1 + 1 + 3 := by rw [← hW0]; simp [World.size_alloc]
    have xb : Below w.heap.size w W0 := by
      rw [← hW0]
      exact ((((((Below.refl _ w).alloc (Nat.le_refl _) _).alloc (by simp) _).alloc (by simp; omega) _).alloc (by simp; omega) _).alloc (by simp; omega) _).alloc (by simp; omega) _
    clear hW0 hnone hT f1 hl
    refine rangeSplit (by omega) (w.heap.size + 1 + 1 + 1) l rfl xs HSP x3 x4 x5
      (fun k W => ∃ m : Nat, m < 16777216 ∧ Hid (mskGo m ((cutL 32 l).drop k) = mskGo 0 (cutL 32 l)) ∧ Boxed W w.heap.size 37 (.int .u32 0) ∧ Boxed W (w.heap.size + 1) 4 (.bool false) ∧ Boxed W (w.heap.size + 1 + 1) 37 (.int .u32 (m : Int)) ∧ Below w.heap.size w W)
      (fun W => Hid (mskGo 0 (cutL 32 l) = none) ∧ Boxed W w.heap.size 37 (.int .u32 0) ∧ Boxed W (w.heap.size + 1) 4 (.bool false) ∧ Below w.heap.size w W)
      ?hI ?hIx ⟨0, by omega, Lib.hid rfl, x0, x1, x2, xb⟩
      (fun x => { tmps := #[.string (strB l), undef, .pointer (some ⟨w.heap.size, 0, none⟩), .pointer (some ⟨w.heap.size + 1, 0, none⟩), .pointer (some ⟨w.heap.size + 1 + 1, 0, none⟩), .string (strB x), undef, undef, .string (strB l), .bool false, undef, .string (strB l), .func (.func 65) #[] #[.pointer (some ⟨w.heap.size + 1 + 1 + 1 + 1, 0, none⟩), .pointer (some ⟨w.heap.size + 1 + 1 + 1, 0, none⟩), .pointer (some ⟨w.heap.size + 1 + 1 + 1 + 2, 0, none⟩)], .string (strB x), undef, undef, undef, undef, undef, undef, undef, undef, undef, undef, undef], defers := [] })
      rfl ?assign ?body ?done ?stop
    case hI =>
      rintro k W W' ⟨m, hm, hgo, b0, b1, b2, hbel⟩ hb
      exact ⟨m, hm, hgo, boxed_below b0 (by omega) hb, boxed_below b1 (by omega) hb, boxed_below b2 (by omega) hb, hbel.trans (hb.mono (by omega))⟩
    case hIx =>
      rintro W W' ⟨hgo, b0, b1, hbel⟩ hb
      exact ⟨hgo, boxed_below b0 (by omega) hb, boxed_below b1 (by omega) hb, hbel.trans (hb.mono (by omega))⟩
    case assign =>
      intro L x W K hK
      gi_wp2
      exact hK
    case body =>
      rintro L k W hk ⟨m, hm, hgo, b0, b1, b2, hbel⟩
      clear x0 x1 x2 x3 x4 x5 xs xb HSP
      have hsz : w.heap.size + 1 + 1 < W.heap.size := b2.lt
      have hQ := HQ.out k
      have HITK : Hid (partOk (cutL 45 ((cutL 32 l).getD k [])) = true → mskGo (m ||| partMask (cutL 45 ((cutL 32 l).getD k []))) ((cutL 32 l).drop (k + 1)) = mskGo 0 (cutL 32 l)) := Lib.hid (fun h => by rw [← mskGo_hit hk h]; exact hgo.out)
      have HMISS : Hid (partOk (cutL 45 ((cutL 32 l).getD k [])) = false → mskGo 0 (cutL 32 l) = none) := Lib.hid (fun h => by rw [← hgo.out]; exact mskGo_miss hk h)
      generalize (cutL 32 l).getD k [] = q at *
      have HRUN := Lib.hid (implParseRun q W hQ (HT.out.on hbel))
      cases hpo : partOk (cutL 45 q) with
      | true =>
        have hra : runAns q = .tuple #[.int .u32 ((partMask (cutL 45 q) : Nat) : Int), .bool true] := by unfold runAns; rw [if_pos hpo]
        have hpm := partMask_lt hpo
        have HG := Lib.hid (HITK.out hpo)
        have HOR := Lib.hid (or_u32 m (partMask (cutL 45 q)) (by omega) (by omega))
        have HLT : Hid (m ||| partMask (cutL 45 q) < 16777216) := Lib.hid (Nat.or_lt_two_pow (n := 24) hm hpm)
        rw [hra] at HRUN
        clear hra hpm hpo HITK HMISS hgo hQ
        generalize partMask (cutL 45 q) = pm at *
        gi_wp2_with (refine ⟨trivial, ?_⟩; gi_at_call 46; refine (CallsIn.inRound L (callsIn_wide.2 HRUN.out)).mono ?_; rintro e w1 ⟨rfl, hb⟩; have k0 := boxed_below b0 (by omega) hb; have k1 := boxed_below b1 (by omega) hb; have k2 := boxed_below b2 (by omega) hb; have c2 := k2.cell; have f2 := k2.frozen)
        exact ⟨(stays_below hb).trans (stays_set (by omega) _), m ||| pm, HLT.out, HG, k0.other (by omega) _, k1.other (by omega) _, by rw [HOR.out]; exact k2.set _, (hbel.trans (hb.mono (by omega))).setCell (p := ⟨_, 0, none⟩) (by simp; omega) _⟩
      | false =>
        have hra : runAns q = .tuple #[.int .u32 0, .bool false] := by unfold runAns; rw [if_neg (by rw [hpo]; exact Bool.noConfusion)]
        have HG := Lib.hid (HMISS.out hpo)
        rw [hra] at HRUN
        clear hra hpo HITK HMISS hgo hQ
        gi_wp2_with (refine ⟨trivial, ?_⟩; gi_at_call 46; refine (CallsIn.inRound L (callsIn_wide.2 HRUN.out)).mono ?_; rintro e w1 ⟨rfl, hb⟩; have k0 := boxed_below b0 (by omega) hb; have k1 := boxed_below b1 (by omega) hb; have c0 := k0.cell; have f0 := k0.frozen; have c1 := k1.cell; have f1 := k1.frozen)
        exact ⟨((stays_below hb).trans (stays_set (by omega) _)).trans (stays_set (by omega) _), HG, (k0.set _).other (by omega) _, (k1.other (by omega) _).set _, ((hbel.trans (hb.mono (by omega))).setCell (p := ⟨_, 0, none⟩) (by simp) _).setCell (p := ⟨_, 0, none⟩) (by simp) _⟩
    case done =>
      rintro D W hD ⟨m, hm, hgo, b0, b1, b2, hbel⟩ hK
      clear x0 x1 x2 x3 x4 x5 xs xb HSP
      have HA : Hid (mskAns l = .tuple #[.int .u32 (m : Nat), .bool true]) := Lib.hid (mskAns_yes HNO.out (by have := hgo.out; rw [List.drop_eq_nil_of_le (Nat.le_refl _)] at this; exact this.symm))
      have c0 := b0.cell
      have f0 := b0.frozen
      have c1 := b1.cell
      have f1 := b1.frozen
      have c2 := b2.cell
      clear hgo
      gi_wp2
      have k0 := (b0.set (.int .u32 (m : Int))).other (B' := w.heap.size + 1) (by omega) (.bool true)
      have k1 := (b1.other (B' := w.heap.size) (by omega) (.int .u32 (m : Int))).set (.bool true)
      have hKD : ((W.setCell ⟨w.heap.size, 0, none⟩ (.int .u32 (m : Int))).setCell ⟨w.heap.size + 1, 0, none⟩ (.bool true)).heap[D]? = some (.deferred (some [])) :=
        ((Below.heap_setCell _ _ _ D (by simp; omega)).trans (Below.heap_setCell _ _ _ D (by simp; omega))).trans hK
      have hbel5 : Below w.heap.size w ((W.setCell ⟨w.heap.size, 0, none⟩ (.int .u32 (m : Int))).setCell ⟨w.heap.size + 1, 0, none⟩ (.bool true)) := (hbel.setCell (p := ⟨w.heap.size, 0, none⟩) (by simp) _).setCell (p := ⟨w.heap.size + 1, 0, none⟩) (by simp) _
      clear c0 f0 c1 f1 c2 hK hbel b0 b1 b2
      generalize (W.setCell ⟨w.heap.size, 0, none⟩ (.int .u32 (m : Int))).setCell ⟨w.heap.size + 1, 0, none⟩ (.bool true) = W5 at *
      refine ⟨by simp, .inl ⟨_, _, rfl, run_takeDeferred hKD, ?_⟩⟩
      have hput := below_put (B := w.heap.size + 1 + 1 + 1) W5 (.deferred none) hKD hD
      have e0 := (boxed_below k0 (by omega) hput).cell
      have e1 := (boxed_below k1 (by omega) hput).cell
      refine ⟨_, ?_, ret_v HA.out.symm, hbel5.trans (hput.mono (by omega))⟩
      simp [results, Tryd.f32, go_sem, e0, e1]
    case stop =>
      rintro D W hD ⟨hgo, b0, b1, hbel⟩ hK
      clear x0 x1 x2 x3 x4 x5 xs xb HSP
      have HA : Hid (mskAns l = .tuple #[.int .u32 0, .bool false]) := Lib.hid (mskAns_no HNO.out hgo.out)
      gi_wp2
      refine ⟨by simp, .inl ⟨_, _, rfl, run_takeDeferred hK, ?_⟩⟩
      have hput := below_put (B := w.heap.size + 1 + 1 + 1) W (.deferred none) hK hD
      have e0 := (boxed_below b0 (by omega) hput).cell
      have e1 := (boxed_below b1 (by omega) hput).cell
      refine ⟨_, ?_, ret_v HA.out.symm, hbel.trans (hput.mono (by omega))⟩
      simp [results, Tryd.f32, go_sem, e0, e1]
end Go.Proofs.YtnfmhiephdhopaaDoor
namespace Go.Proofs.YtnfmhiephdhopaaDoor
open Go.RowKit
set_option linter.unusedVariables false
theorem ret_ps {l : List UInt8} {v : Value} {xs : List Int} {b : Bool} (h : parSet l = (xs, b)) : Ending.returned (.tuple #[v, .bool b]) = .returned (.tuple #[v, .bool (parSet l).2]) := by rw [h]
theorem own_ps {l : List UInt8} {w : World} {B : Nat} {v : Value} {xs : List Int} {b : Bool} (h : parSet l = (xs, b)) (ho : OwnsN w B v xs) : OwnsN w B v (parSet l).1 := by rw [h]; exact ho
end Go.Proofs.YtnfmhiephdhopaaDoor
