/-
  Plain facts: what the pieces of a text of runs spell, as a mask and as numbers; the text of a set spells the set.
-/
import Derived.Test.YtecfhgfjfnjagaaDoorParSetMath
import Derived.Test.YtecfhgfjfnjagaaDoorMaskRuns
import Derived.Lib.Bytealg
namespace Go.Proofs.YtecfhgfjfnjagaaDoor
set_option linter.unusedVariables false
theorem cutGo_no {b : UInt8} : ∀ (l p : List UInt8), b ∉ l → cutGo b p l = [p ++ l] := by
  intro l
  induction l with
  | nil => intro p _; simp [cutGo]
  | cons c r ih =>
    intro p h
    rw [List.mem_cons, not_or] at h
    unfold cutGo
    rw [if_neg (fun e => h.1 e.symm), ih _ h.2]
    simp
theorem cutGo_app {b : UInt8} : ∀ (a p l : List UInt8), b ∉ a → cutGo b p (a ++ b :: l) = (p ++ a) :: cutGo b [] l := by
  intro a
  induction a with
  | nil => intro p l _; simp [cutGo]
  | cons c r ih =>
    intro p l h
    rw [List.mem_cons, not_or] at h
    rw [List.cons_append]
    show (if c = b then _ else cutGo b (p ++ [c]) (r ++ b :: l)) = _
    rw [if_neg (fun e => h.1 e.symm), ih _ _ h.2]
    simp
theorem cutL_no {b : UInt8} {l : List UInt8} (h : b ∉ l) : cutL b l = [l] := by unfold cutL; rw [cutGo_no l [] h]; rfl
theorem cutL_app {b : UInt8} {a : List UInt8} (l : List UInt8) (h : b ∉ a) : cutL b (a ++ b :: l) = a :: cutL b l := by unfold cutL; rw [cutGo_app a [] l h]; rfl
theorem index_cases (l : List UInt8) (c : UInt8) : (c ∉ l ∧ Lib.indexByte l c = -1) ∨ ∃ a r, l = a ++ c :: r ∧ c ∉ a ∧ Lib.indexByte l c = (a.length : Int) := by
  induction l with
  | nil => left; exact ⟨by simp, rfl⟩
  | cons b l ih =>
    by_cases h : b = c
    · right; exact ⟨[], l, by rw [h]; rfl, by simp, by unfold Lib.indexByte; rw [if_pos (by simpa using h)]; rfl⟩
    · have hb : (b == c) = false := by rw [beq_eq_false_iff_ne]; exact h
      rcases ih with ⟨h1, h2⟩ | ⟨a, r, h1, h2, h3⟩
      · left
        refine ⟨by rw [List.mem_cons, not_or]; exact ⟨fun e => h e.symm, h1⟩, ?_⟩
        unfold Lib.indexByte; rw [hb, h2]; rfl
      · right
        refine ⟨b :: a, r, by rw [h1]; rfl, by rw [List.mem_cons, not_or]; exact ⟨fun e => h e.symm, h2⟩, ?_⟩
        unfold Lib.indexByte
        rw [hb, h3]
        have : ((a.length : Int) == -1) = false := by rw [beq_eq_false_iff_ne]; omega
        rw [this]
        simp
/-! ### Numerals -/
theorem parI_is {l : List UInt8} (h : (parI l).2 = true) : Lib.itoa (parI l).1 = l := by
  unfold parI at h ⊢
  by_cases hc : Lib.itoa (sval l) = l ∧ dcnt l ≤ 9
  · rw [if_pos hc]; exact hc.1
  · rw [if_neg hc] at h; cases h
theorem itoa_dig {n : Int} (h : 0 ≤ n) : ∀ b ∈ Lib.itoa n, dig b = true := by
  unfold Lib.itoa
  rw [if_neg (by omega)]
  exact (digits_dec n.toNat).2
theorem dig_no45 : dig 45 = false := by decide
theorem dig_no32 : dig 32 = false := by decide
theorem itoa_no {n : Int} (h : 0 ≤ n) {c : UInt8} (hc : dig c = false) : c ∉ Lib.itoa n := fun g => by
  have := itoa_dig h c g; rw [hc] at this; cases this
theorem parI_minus {l : List UInt8} (hm : (45 : UInt8) ∈ l) (h : (parI l).2 = true) : (parI l).1 < 0 := by
  apply Int.not_le.1
  intro g
  have e := parI_is h
  rw [← e] at hm
  exact itoa_no g dig_no45 hm
theorem parI_itoa {n : Int} (h0 : 0 ≤ n) (h1 : n ≤ 23) : parI (Lib.itoa n) = (n, true) := by
  obtain ⟨u, rfl⟩ := Int.eq_ofNat_of_zero_le h0
  have hi : Lib.itoa (u : Int) = Lib.decDigits u := by unfold Lib.itoa; rw [if_neg (by omega), Int.toNat_natCast]
  have hneg : neg (Lib.itoa (u : Int)) = false := by
    cases hn : neg (Lib.itoa (u : Int)) with
    | false => rfl
    | true =>
      obtain ⟨r, hr⟩ := neg_cons hn
      exact absurd (by rw [hr]; exact List.mem_cons_self ..) (itoa_no (n := (u : Int)) (by omega) dig_no45)
  have hs : sval (Lib.itoa (u : Int)) = (u : Int) := by
    unfold sval
    rw [hneg, hi, (digits_dec u).1]
    rfl
  have hlen : (Lib.decDigits u).length ≤ 9 := by
    by_cases h : u < 10
    · rw [Lib.decDigits_one h]; simp
    · rw [Lib.decDigits, dif_neg h, List.length_append, Lib.decDigits_one (by omega)]; simp
  have hd : dcnt (Lib.itoa (u : Int)) ≤ 9 := by rw [hi]; exact Nat.le_trans (dcnt_le _) hlen
  exact (parI_ok (by rw [hs]) hd).trans (by rw [hs])
theorem numL_itoa {n : Int} (h0 : 0 ≤ n) (h1 : n ≤ 23) : numL (Lib.itoa n) = n := by unfold numL; rw [parI_itoa h0 h1]; rfl
theorem numL_yes {q : List UInt8} (h : (parI q).2 = true) : numL q = (parI q).1 := by unfold numL; rw [h]; rfl
theorem numL_no {q : List UInt8} (h : ¬ (parI q).2 = true) : numL q = -100000 := by unfold numL; rw [if_neg h]
/-! ### One piece -/
/-- What the program asks of a piece: a and b are what stands ahead of its first minus and behind it. -/
def progOk (a b : List UInt8) : Prop := (parI a).2 = true ∧ (parI b).2 = true ∧ (parI a).1 ≤ (parI b).1 ∧ (0 ≤ (parI a).1 ∧ (parI a).1 ≤ 23) ∧ (0 ≤ (parI b).1 ∧ (parI b).1 ≤ 23)
theorem part_of {ps : List (List UInt8)} {a b : List UInt8} (hl : ps.length ≤ 2) (h0 : ps.getD 0 [] = a) (ht : partTo ps = numL b) :
    (partOk ps = true ↔ progOk a b) ∧ (progOk a b → numL (ps.getD 0 []) = (parI a).1 ∧ partTo ps = (parI b).1) := by
  have key : partOk ps = true ↔ progOk a b := by
    unfold partOk progOk
    rw [decide_eq_true_eq, h0, ht]
    constructor
    · rintro ⟨_, h1, h2⟩
      have ha : (parI a).2 = true := by
        by_cases h : (parI a).2 = true
        · exact h
        · rw [numL_no h] at h1; omega
      have hb : (parI b).2 = true := by
        by_cases h : (parI b).2 = true
        · exact h
        · rw [numL_no h] at h2; omega
      rw [numL_yes ha] at h1 h2
      rw [numL_yes hb] at h2
      exact ⟨ha, hb, h2.1, h1, by omega, h2.2⟩
    · rintro ⟨ha, hb, h1, h2, h3⟩
      rw [numL_yes ha, numL_yes hb]
      exact ⟨hl, h2, h1, h3.2⟩
  refine ⟨key, fun h => ?_⟩
  rw [h0, ht, numL_yes h.1, numL_yes h.2.1]
  exact ⟨rfl, rfl⟩
theorem part_one {q : List UInt8} (h : (45 : UInt8) ∉ q) : (partOk (cutL 45 q) = true ↔ progOk q q) ∧ (progOk q q → numL ((cutL 45 q).getD 0 []) = (parI q).1 ∧ partTo (cutL 45 q) = (parI q).1) := by
  rw [cutL_no h]
  exact part_of (by simp) rfl rfl
theorem part_two {a b : List UInt8} (h : (45 : UInt8) ∉ a) : (partOk (cutL 45 (a ++ 45 :: b)) = true ↔ progOk a b) ∧ (progOk a b → numL ((cutL 45 (a ++ 45 :: b)).getD 0 []) = (parI a).1 ∧ partTo (cutL 45 (a ++ 45 :: b)) = (parI b).1) := by
  rw [cutL_app b h]
  rcases index_cases b 45 with ⟨hb, _⟩ | ⟨c, d, hb, hc, _⟩
  · rw [cutL_no hb]
    exact part_of (by simp) rfl rfl
  · have hno : ¬ progOk a b := by
      rintro ⟨_, h1, _, _, h2⟩
      have := parI_minus (by rw [hb]; simp) h1
      omega
    refine ⟨⟨fun g => ?_, fun g => absurd g hno⟩, fun g => absurd g hno⟩
    exfalso
    rw [hb, cutL_app d hc] at g
    unfold partOk at g
    rw [decide_eq_true_eq] at g
    have h1 := cut_pos 45 d
    have h2 := g.1
    simp only [List.length_cons] at h2
    omega
/-! ### All pieces -/
/-- The mask of a piece. -/
def partMask (ps : List (List UInt8)) : Nat := rangeM (numL (ps.getD 0 [])).toNat (partTo ps).toNat
def mskGo : Nat → List (List UInt8) → Option Nat
  | m, [] => some m
  | m, q :: r => if partOk (cutL 45 q) then mskGo (m ||| partMask (cutL 45 q)) r else none
theorem partOk_range {ps : List (List UInt8)} (h : partOk ps = true) : ∃ f t : Nat, f ≤ t ∧ t ≤ 23 ∧ numL (ps.getD 0 []) = (f : Int) ∧ partTo ps = (t : Int) ∧ partMask ps = rangeM f t ∧ partNums ps = upN (f : Int) (t + 1 - f) := by
  unfold partOk at h
  rw [decide_eq_true_eq] at h
  obtain ⟨_, h1, h2⟩ := h
  refine ⟨(numL (ps.getD 0 [])).toNat, (partTo ps).toNat, by omega, by omega, by omega, by omega, rfl, ?_⟩
  unfold partNums
  rw [show (partTo ps - numL (ps.getD 0 []) + 1).toNat = (partTo ps).toNat + 1 - (numL (ps.getD 0 [])).toNat by omega, show (((numL (ps.getD 0 [])).toNat : Nat) : Int) = numL (ps.getD 0 []) by omega]
/-- The mask has just the numbers of the list. -/
def RelM (out : List Int) (m : Nat) : Prop := m < 16777216 ∧ (∀ i : Nat, m.testBit i = true ↔ (i : Int) ∈ out) ∧ ∀ x ∈ out, 0 ≤ x ∧ x ≤ 23
theorem relM_nil : RelM [] 0 := ⟨by omega, fun i => by simp, fun x h => by simp at h⟩
theorem relM_step {out : List Int} {m : Nat} {ps : List (List UInt8)} (h : RelM out m) (hp : partOk ps = true) : RelM (out ++ partNums ps) (m ||| partMask ps) := by
  obtain ⟨f, t, h1, h2, _, _, h5, h6⟩ := partOk_range hp
  rw [h5, h6]
  refine ⟨Nat.or_lt_two_pow (n := 24) h.1 (rangeM_lt h2), fun i => ?_, fun x hx => ?_⟩
  · rw [Nat.testBit_or, Bool.or_eq_true, h.2.1 i, bit_rangeM h1, List.mem_append, decide_eq_true_eq, mem_upN]
    constructor
    · rintro (g | g)
      · exact Or.inl g
      · exact Or.inr ⟨i - f, by omega, by omega⟩
    · rintro (g | ⟨j, hj, e⟩)
      · exact Or.inl g
      · exact Or.inr (by omega)
  · rcases List.mem_append.1 hx with g | g
    · exact h.2.2 x g
    · obtain ⟨j, hj, rfl⟩ := mem_upN.1 g; omega
theorem go_rel : ∀ (P : List (List UInt8)) (out : List Int) (m : Nat), RelM out m → (parGo out P = none ∧ mskGo m P = none) ∨ ∃ o k, parGo out P = some o ∧ mskGo m P = some k ∧ RelM o k := by
  intro P
  induction P with
  | nil => intro out m h; exact Or.inr ⟨out, m, rfl, rfl, h⟩
  | cons q P ih =>
    intro out m h
    unfold parGo mskGo
    cases hp : partOk (cutL 45 q) with
    | false => exact Or.inl ⟨rfl, rfl⟩
    | true => exact ih _ _ (relM_step h hp)
theorem relM_set {out : List Int} {m : Nat} (h : RelM out m) (hs : SetL out) : memL m = out := by
  refine asc_eq (memTo_asc _ _) (set_asc hs) fun x => ?_
  unfold memL
  rw [mem_memTo]
  constructor
  · rintro ⟨i, _, g, rfl⟩; exact (h.2.1 i).1 g
  · intro g
    have := h.2.2 x g
    exact ⟨x.toNat, by omega, (h.2.1 _).2 (by rw [show ((x.toNat : Nat) : Int) = x by omega]; exact g), by omega⟩
/-! ### The text of a set spells the set -/
def blk (r : Int × Int) : List Int := upN r.1 (r.2 - r.1 + 1).toNat
theorem runs_flat : ∀ l : List Int, (runs l).flatMap blk = l ∧ ∀ r ∈ runs l, r.1 ≤ r.2 := by
  intro l
  induction l with
  | nil => exact ⟨rfl, fun r h => by simp [runs] at h⟩
  | cons x l ih =>
    have hb : ∀ x : Int, blk (x, x) = [x] := by
      intro x
      unfold blk
      rw [show (x - x + 1).toNat = 0 + 1 by omega, upN_cons]
      rfl
    cases l with
    | nil =>
      have : runs [x] = [(x, x)] := rfl
      rw [this]
      refine ⟨by simp [hb], ?_⟩
      intro r hr
      rw [List.mem_singleton] at hr
      rw [hr]
      exact Int.le_refl _
    | cons y l =>
      obtain ⟨b, t, e⟩ := runs_cons y l
      by_cases h : y = x + 1
      · rw [runs_join h e]
        rw [e] at ih
        have hle := ih.2 (y, b) (List.mem_cons_self ..)
        have hx : blk (x, b) = x :: blk (y, b) := by
          unfold blk
          simp only at hle ⊢
          rw [show (b - x + 1).toNat = (b - y + 1).toNat + 1 by omega, upN_cons, h]
        refine ⟨?_, ?_⟩
        · rw [List.flatMap_cons, hx, List.cons_append, ← List.flatMap_cons, ih.1]
        · intro r hr
          rcases List.mem_cons.1 hr with rfl | hr
          · simp only at hle ⊢; omega
          · exact ih.2 r (List.mem_cons_of_mem _ hr)
      · rw [runs_part h]
        refine ⟨?_, ?_⟩
        · rw [List.flatMap_cons, hb, ih.1]; rfl
        · intro r hr
          rcases List.mem_cons.1 hr with rfl | hr
          · exact Int.le_refl _
          · exact ih.2 r hr
def RunIn (r : Int × Int) : Prop := 0 ≤ r.1 ∧ r.1 ≤ r.2 ∧ r.2 ≤ 23
theorem runs_in {l : List Int} (h : ∀ x ∈ l, 0 ≤ x ∧ x ≤ 23) : ∀ r ∈ runs l, RunIn r := fun r hr =>
  ⟨(h _ (runs_mem l r hr).1).1, (runs_flat l).2 r hr, (h _ (runs_mem l r hr).2).2⟩
theorem text_no32 {r : Int × Int} (h : RunIn r) : (32 : UInt8) ∉ runText r := by
  have a := itoa_no h.1 dig_no32
  have b := itoa_no (n := r.2) (by have := h.2.1; have := h.1; omega) dig_no32
  unfold runText
  split
  · exact a
  · rw [List.mem_append, List.mem_cons]
    rintro (g | g | g)
    · exact a g
    · exact absurd g (by decide)
    · exact b g
theorem text_part {r : Int × Int} (h : RunIn r) : partOk (cutL 45 (runText r)) = true ∧ partNums (cutL 45 (runText r)) = blk r := by
  obtain ⟨h1, h2, h3⟩ := h
  have a := itoa_no h1 dig_no45
  have b := itoa_no (n := r.2) (by omega) dig_no45
  unfold runText
  by_cases he : r.1 = r.2
  · rw [if_pos he, cutL_no a]
    have hn : numL (([Lib.itoa r.1] : List (List UInt8)).getD 0 []) = r.1 := numL_itoa h1 (by omega)
    have ht : partTo [Lib.itoa r.1] = r.2 := by rw [← he]; exact hn
    unfold partOk partNums blk
    rw [hn, ht]
    exact ⟨decide_eq_true ⟨by simp, by omega, by omega⟩, rfl⟩
  · rw [if_neg he, cutL_app _ a, cutL_no b]
    have hn : numL (([Lib.itoa r.1, Lib.itoa r.2] : List (List UInt8)).getD 0 []) = r.1 := numL_itoa h1 (by omega)
    have ht : partTo [Lib.itoa r.1, Lib.itoa r.2] = r.2 := numL_itoa (by omega) h3
    unfold partOk partNums blk
    rw [hn, ht]
    exact ⟨decide_eq_true ⟨by simp, by omega, by omega⟩, rfl⟩
theorem cut_texts : ∀ (t : List (Int × Int)) (r : Int × Int), RunIn r → (∀ q ∈ t, RunIn q) → cutL 32 (runText r ++ Lib.joinTail [32] (t.map runText)) = runText r :: t.map runText := by
  intro t
  induction t with
  | nil =>
    intro r hr _
    have : runText r ++ Lib.joinTail [32] (([] : List (Int × Int)).map runText) = runText r := by simp [Lib.joinTail]
    rw [this, cutL_no (text_no32 hr)]
    rfl
  | cons q t ih =>
    intro r hr ht
    have : runText r ++ Lib.joinTail [32] ((q :: t).map runText) = runText r ++ 32 :: (runText q ++ Lib.joinTail [32] (t.map runText)) := by simp [Lib.joinTail]
    rw [this, cutL_app _ (text_no32 hr), ih q (ht q (List.mem_cons_self ..)) (fun x hx => ht x (List.mem_cons_of_mem _ hx))]
    rfl
theorem parGo_texts : ∀ (t : List (Int × Int)) (out : List Int), (∀ q ∈ t, RunIn q) → parGo out (t.map runText) = some (out ++ t.flatMap blk) := by
  intro t
  induction t with
  | nil => intro out _; simp [parGo]
  | cons q t ih =>
    intro out h
    obtain ⟨h1, h2⟩ := text_part (h q (List.mem_cons_self ..))
    rw [List.map_cons]
    unfold parGo
    rw [if_pos h1, h2, ih _ (fun x hx => h x (List.mem_cons_of_mem _ hx))]
    simp
theorem par_fmt {l : List Int} (h : ∀ x ∈ l, 0 ≤ x ∧ x ≤ 23) (h0 : l ≠ []) : parGo [] (cutL 32 (fmtRuns l)) = some l := by
  have hin := runs_in h
  have hf := (runs_flat l).1
  unfold fmtRuns
  rw [if_neg h0]
  cases hr : runs l with
  | nil => rw [hr] at hf; exact absurd hf.symm h0
  | cons r t =>
    rw [hr] at hin hf
    rw [← join_glue, List.map_cons, Lib.join_cons, cut_texts t r (hin r (List.mem_cons_self ..)) (fun x hx => hin x (List.mem_cons_of_mem _ hx)), ← List.map_cons, parGo_texts _ _ hin, hf]
    rfl
theorem fmtRuns_not_none {l : List Int} (h : ∀ x ∈ l, 0 ≤ x ∧ x ≤ 23) (h0 : l ≠ []) : fmtRuns l ≠ [110, 111, 110, 101] := by
  intro e
  have := par_fmt h h0
  rw [e] at this
  have hc : cutL 32 [110, 111, 110, 101] = [[110, 111, 110, 101]] := cutL_no (by decide)
  rw [hc] at this
  unfold parGo at this
  have hp : partOk (cutL 45 [110, 111, 110, 101]) = false := by
    cases hp : partOk (cutL 45 [110, 111, 110, 101]) with
    | false => rfl
    | true =>
      have hk := (part_one (q := [110, 111, 110, 101]) (by decide)).1.1 hp
      have e := parI_is hk.1
      have := itoa_dig hk.2.2.2.1.1 110 (by rw [e]; simp)
      exact absurd this (by decide)
  rw [hp] at this
  cases this
theorem parGo_empty : parGo [] (cutL 32 []) = none := by
  have hc : cutL 32 ([] : List UInt8) = [[]] := cutL_no (by simp)
  rw [hc]
  unfold parGo
  have hp : partOk (cutL 45 ([] : List UInt8)) = false := by
    cases hp : partOk (cutL 45 ([] : List UInt8)) with
    | false => rfl
    | true =>
      have hk := (part_one (q := []) (by simp)).1.1 hp
      exact absurd (parI_is hk.1) (itoa_ne _)
  rw [hp]
  rfl
theorem fmtSet_set {l : List Int} (h : SetL l) : fmtSet l = fmtRuns l := by unfold fmtSet; rw [(setB_iff l).2 h]; rfl
/-- The program's way and the specification's lead to the same. -/
theorem parSet_mask {l : List UInt8} (h : ¬ l = [110, 111, 110, 101]) :
    (mskGo 0 (cutL 32 l) = none ∧ parSet l = ([], false)) ∨ ∃ m, mskGo 0 (cutL 32 l) = some m ∧ m < 16777216 ∧ (fmtRuns (memL m) = l → parSet l = (memL m, true)) ∧ (¬ fmtRuns (memL m) = l → parSet l = ([], false)) := by
  rcases go_rel (cutL 32 l) [] 0 relM_nil with ⟨h1, h2⟩ | ⟨o, m, h1, h2, hr⟩
  · exact Or.inl ⟨h2, parSet_bad h h1⟩
  · refine Or.inr ⟨m, h2, hr.1, fun he => ?_, fun he => ?_⟩
    · have hne : memL m ≠ [] := by
        intro g
        rw [g] at he
        exact h he.symm
      have hp := par_fmt (fun x hx => set_range (set_memL m) hx) hne
      rw [he, h1] at hp
      obtain rfl := Option.some.inj hp
      exact parSet_yes h h1 (by rw [fmtSet_set (set_memL m)]; exact he)
    · refine parSet_no h h1 fun g => ?_
      by_cases hs : SetL o
      · rw [fmtSet_set hs, ← relM_set hr hs] at g
        exact he g
      · rw [fmtSet_no (setB_no hs)] at g
        rw [← g, parGo_empty] at h1
        cases h1
/-- The text of a set is read back; the empty text is none. -/
theorem parSet_fmt {l : List Int} (h : SetL l) : parSet (fmtSet l) = (l, true) := by
  rw [fmtSet_set h]
  by_cases h0 : l = []
  · subst h0; exact parSet_none rfl
  · exact parSet_yes (fmtRuns_not_none (fun x hx => set_range h hx) h0) (par_fmt (fun x hx => set_range h hx) h0) (fmtSet_set h)
theorem parSet_empty : parSet [] = ([], false) := parSet_bad (by decide) parGo_empty
end Go.Proofs.YtecfhgfjfnjagaaDoor
