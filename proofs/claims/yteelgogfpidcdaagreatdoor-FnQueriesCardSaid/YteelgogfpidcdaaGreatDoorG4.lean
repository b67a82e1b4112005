/-
  Texts of the proof, merged: ParMath, NumMath, ParWalks, ParSetMath, QueryCut, RowFmt, QueryFmt, QuerySl, QueryParM, ParPart, RowParM, QueryProgM.
-/
import Derived.Test.YteelgogfpidcdaaGreatDoorG3
import Derived.Lib.Strings
import Derived.Laws.BitsLemmas
import Derived.WalkKit
import Derived.Maps.AppendAt
import Derived.Lib.Split
import Derived.Lib.IndexMore
namespace Go.Proofs.YteelgogfpidcdaaGreatDoor
/-- Is the byte a decimal digit? -/
def dig (b : UInt8) : Bool := decide (48 ≤ b.toNat) && decide (b.toNat ≤ 57)
/-- The number that the digits among the bytes spell. -/
def dval (l : List UInt8) : Nat := l.foldl (fun n b => if dig b then n * 10 + (b.toNat - 48) else n) 0
/-- How many digits are among the bytes. -/
def dcnt (l : List UInt8) : Nat := (l.filter dig).length
theorem dval_snoc (l : List UInt8) (b : UInt8) : dval (l ++ [b]) = if dig b then dval l * 10 + (b.toNat - 48) else dval l := by simp [dval]
theorem dcnt_snoc (l : List UInt8) (b : UInt8) : dcnt (l ++ [b]) = if dig b then dcnt l + 1 else dcnt l := by
  simp only [dcnt, List.filter_append, List.length_append]
  cases h : dig b <;> simp [h]
theorem dig_iff (b : UInt8) : dig b = true ↔ 48 ≤ b.toNat ∧ b.toNat ≤ 57 := by simp [dig]
theorem dval_lt (l : List UInt8) : dval l < 10 ^ dcnt l := by
  have h : ∀ r : List UInt8, dval r.reverse < 10 ^ dcnt r.reverse := by
    intro r
    induction r with
    | nil => simp [dval, dcnt]
    | cons b r ih =>
      rw [List.reverse_cons, dval_snoc, dcnt_snoc]
      by_cases hb : dig b = true
      · rw [if_pos hb, if_pos hb, Nat.pow_succ]; have := (dig_iff b).1 hb; omega
      · rw [if_neg hb, if_neg hb]; exact ih
  have := h l.reverse
  simpa using this
theorem dcnt_le (l : List UInt8) : dcnt l ≤ l.length := List.length_filter_le _ _
theorem dval_lt9 (l : List UInt8) (h : dcnt l ≤ 9) : dval l ≤ 999999999 := by
  have h1 := dval_lt l
  have h2 : 10 ^ dcnt l ≤ 10 ^ 9 := Nat.pow_le_pow_right (by omega) h
  omega
theorem dval_lt11 (l : List UInt8) (h : l.length ≤ 11) : dval l ≤ 99999999999 := by
  have h1 := dval_lt l
  have h2 : 10 ^ dcnt l ≤ 10 ^ 11 := Nat.pow_le_pow_right (by omega) (by have := dcnt_le l; omega)
  omega
theorem digits_dec (u : Nat) : dval (Lib.decDigits u) = u ∧ (∀ b ∈ Lib.decDigits u, dig b = true) := by
  induction u using Nat.strongRecOn with
  | _ u ih =>
    by_cases h : u < 10
    · rw [Lib.decDigits_one h]
      have hb : dig (UInt8.ofNat (48 + u)) = true := by rw [dig_iff, UInt8.toNat_ofNat']; omega
      refine ⟨?_, by intro b hb'; rw [List.mem_singleton] at hb'; rw [hb']; exact hb⟩
      have := dval_snoc [] (UInt8.ofNat (48 + u))
      rw [if_pos hb] at this
      rw [List.nil_append] at this
      rw [this, UInt8.toNat_ofNat']
      simp [dval]; omega
    · obtain ⟨h1, h2⟩ := ih (u / 10) (by omega)
      have hb : dig (UInt8.ofNat (48 + u % 10)) = true := by rw [dig_iff, UInt8.toNat_ofNat']; omega
      rw [Lib.decDigits, dif_neg h]
      refine ⟨?_, ?_⟩
      · rw [dval_snoc, if_pos hb, h1, UInt8.toNat_ofNat']; omega
      · intro b hb'
        rcases List.mem_append.1 hb' with h3 | h3
        · exact h2 b h3
        · rw [List.mem_singleton] at h3; rw [h3]; exact hb
theorem dcnt_all (l : List UInt8) (h : ∀ b ∈ l, dig b = true) : dcnt l = l.length := by
  unfold dcnt; rw [List.filter_eq_self.2 h]
theorem dec_ne (u : Nat) : Lib.decDigits u ≠ [] := by
  rw [← decI_digits]
  intro h
  have h1 := congrArg List.length h
  by_cases h2 : u < 10
  · rw [decI_small u h2] at h1; simp at h1
  · rw [decI_big u (by omega)] at h1; simp at h1
/-- Does the text begin with a minus? -/
def neg (l : List UInt8) : Bool := l.head? == some 45
/-- The text behind a leading minus. -/
def trim (l : List UInt8) : List UInt8 := if neg l then l.tail else l
/-- The number that the text spells, if it spells one. -/
def sval (l : List UInt8) : Int := if neg l then -(dval l : Int) else dval l
theorem neg_cons {l : List UInt8} (h : neg l = true) : ∃ r, l = 45 :: r := by
  cases l with
  | nil => simp [neg] at h
  | cons a r => simp [neg] at h; exact ⟨r, by rw [h]⟩
theorem dval_minus (r : List UInt8) : dval (45 :: r) = dval r := rfl
theorem dcnt_minus (r : List UInt8) : dcnt (45 :: r) = dcnt r := rfl
theorem dval_trim (l : List UInt8) : dval (trim l) = dval l := by
  unfold trim; split
  · obtain ⟨r, rfl⟩ := neg_cons (by assumption); rfl
  · rfl
theorem dcnt_trim (l : List UInt8) : dcnt (trim l) = dcnt l := by
  unfold trim; split
  · obtain ⟨r, rfl⟩ := neg_cons (by assumption); rfl
  · rfl
/-- ParseInt. -/
def parI (l : List UInt8) : Int × Bool := if Lib.itoa (sval l) = l ∧ dcnt l ≤ 9 then (sval l, true) else (0, false)
theorem par_facts {l : List UInt8} (h : Lib.itoa (sval l) = l) (hc : dcnt l ≤ 9) : l.length ≤ 10 ∧ (trim l).length ≤ 9 ∧ ∀ b ∈ trim l, dig b = true := by
  have key : ∃ u, (trim l = Lib.decDigits u) ∧ l.length ≤ (trim l).length + 1 := by
    unfold Lib.itoa at h
    split at h
    · refine ⟨(sval l).natAbs, ?_, ?_⟩
      · generalize (sval l).natAbs = q at h ⊢; rw [← h]; rfl
      · generalize (sval l).natAbs = q at h ⊢; rw [← h]; simp [trim, neg]
    · refine ⟨(sval l).toNat, ?_, ?_⟩
      · have hn : neg l = false := by
          rw [← h]
          cases hd : Lib.decDigits (sval l).toNat with
          | nil => exact absurd hd (dec_ne _)
          | cons a r =>
            have := (digits_dec (sval l).toNat).2 a (by rw [hd]; simp)
            have h2 := (dig_iff a).1 this
            simp only [neg, List.head?_cons]
            have : a ≠ 45 := by intro e; rw [e] at h2; simp at h2
            simp [this]
        unfold trim; rw [hn]; simp [h]
      · unfold trim; split <;> simp; omega
  obtain ⟨u, hu, hl⟩ := key
  have hall : ∀ b ∈ trim l, dig b = true := by rw [hu]; exact (digits_dec u).2
  have h9 : (trim l).length ≤ 9 := by rw [← dcnt_all _ hall, dcnt_trim]; exact hc
  exact ⟨by omega, h9, hall⟩
theorem parI_ok {l : List UInt8} (h : Lib.itoa (sval l) = l) (hc : dcnt l ≤ 9) : parI l = (sval l, true) := by unfold parI; rw [if_pos ⟨h, hc⟩]
theorem parI_text {l : List UInt8} (h : Lib.itoa (sval l) ≠ l) : parI l = (0, false) := by unfold parI; rw [if_neg (fun g => h g.1)]
theorem parI_many {l : List UInt8} (h : 9 < dcnt l) : parI l = (0, false) := by unfold parI; rw [if_neg (fun g => by omega)]
theorem parI_long {l : List UInt8} (h : 10 < l.length) : parI l = (0, false) := by unfold parI; rw [if_neg (fun g => by have := (par_facts g.1 g.2).1; omega)]
theorem parI_long' {l : List UInt8} (h : 9 < (trim l).length) : parI l = (0, false) := by unfold parI; rw [if_neg (fun g => by have := (par_facts g.1 g.2).2.1; omega)]
theorem parI_digit {l : List UInt8} {b : UInt8} (hb : b ∈ trim l) (h : dig b = false) : parI l = (0, false) := by
  unfold parI; rw [if_neg (fun g => by have := (par_facts g.1 g.2).2.2 b hb; rw [h] at this; cases this)]
theorem trim_cut (l : List UInt8) : Lib.trimPrefix l [45] = trim l ∧ Lib.hasPrefix l [45] = neg l := by
  unfold Lib.trimPrefix trim Lib.hasPrefix neg
  cases l with
  | nil => simp
  | cons a r =>
    simp only [List.head?_cons, List.isPrefixOf]
    by_cases h : a = 45
    · subst h; simp
    · have h1 : (45 == a) = false := by rw [beq_eq_false_iff_ne]; exact Ne.symm h
      have h2 : (a == 45) = false := by rw [beq_eq_false_iff_ne]; exact h
      simp [h1, h2]
end Go.Proofs.YteelgogfpidcdaaGreatDoor
namespace Go.Proofs.YteelgogfpidcdaaGreatDoor
/-- The number that a list of bytes encodes, most significant byte first. -/
def be (l : List UInt8) : Nat := l.foldl (fun n b => n * 256 + b.toNat) 0
theorem be_snoc (l : List UInt8) (b : UInt8) : be (l ++ [b]) = be l * 256 + b.toNat := by simp [be]
theorem be_lt (l : List UInt8) : be l < 256 ^ l.length := by
  have h : ∀ (r : List UInt8), be r.reverse < 256 ^ r.length := by
    intro r
    induction r with
    | nil => simp [be]
    | cons b r ih => rw [List.reverse_cons, be_snoc]; have := b.toNat_lt; simp only [List.length_cons, Nat.pow_succ]; omega
  have := h l.reverse
  simpa using this
theorem be_lt6 (l : List UInt8) (h : l.length ≤ 6) : be l < 281474976710656 := by
  have := be_lt l
  have : 256 ^ l.length ≤ 256 ^ 6 := Nat.pow_le_pow_right (by omega) h
  omega
theorem be_lt7 (l : List UInt8) (h : l.length ≤ 7) : be l < 72057594037927936 := by
  have := be_lt l
  have : 256 ^ l.length ≤ 256 ^ 7 := Nat.pow_le_pow_right (by omega) h
  omega
theorem take_snoc (s : ByteArray) (k : Nat) (h : k < s.size) : s.data.toList.take (k + 1) = s.data.toList.take k ++ [s[k]] := by
  rw [List.take_succ_eq_append_getElem (by simpa using h)]; rfl
theorem ret_int {k : IntKind} {a b : Int} (h : a = b) : Ending.returned (.int k a) = .returned (.int k b) := by rw [h]
theorem wraps_i64 (n : Int) (h₀ : 0 ≤ n) (h₁ : n < 2 ^ 62) : IntKind.i64.wrap n = n := by rw [IntKind.wrap_i64]; omega
theorem i64_or8 (x y : Int) (h0 : 0 ≤ x) (h1 : x < 281474976710656) (h2 : 0 ≤ y) (h3 : y < 256) : bits .or .i64 (x * 256) y = x * 256 + y :=
  bits_join .i64 62 (by decide) wraps_i64 8 _ _ (by omega) (by omega) (by omega) h2 (by omega) (by omega)
/-- DecodeFixed. -/
def decF (l : List UInt8) (a : Int) : Nat × Bool := if 1 ≤ a ∧ a ≤ 7 ∧ a ≤ (l.length : Int) then (be (l.take a.toNat), true) else (0, false)
/-- The bytes of a varint. -/
def evI (n : Nat) : List Int := if n < 128 then [(n : Int)] else ((n % 128 + 128 : Nat) : Int) :: evI (n / 128)
  termination_by n
  decreasing_by omega
theorem evI_small (n : Nat) (h : n < 128) : evI n = [(n : Int)] := by rw [evI, if_pos h]
theorem evI_big (n : Nat) (h : 128 ≤ n) : evI n = ((n % 128 + 128 : Nat) : Int) :: evI (n / 128) := by rw [evI, if_neg (by omega)]
theorem evI_length (n : Nat) : (evI n).length ≤ n / 128 + 1 := by
  induction n using Nat.strongRecOn with
  | _ n ih =>
    by_cases h : n < 128
    · rw [evI_small n h]; simp
    · rw [evI_big n (by omega)]; have := ih (n / 128) (by omega); simp only [List.length_cons]; omega
theorem evI_step {xs : List Int} {k m : Nat} (h : xs ++ evI k = evI m) (hk : 128 ≤ k) : (xs ++ [((k % 128 + 128 : Nat) : Int)]) ++ evI (k / 128) = evI m := by
  rw [← h, evI_big k hk]; simp
theorem evI_end {xs : List Int} {k m : Nat} (h : xs ++ evI k = evI m) (hk : k < 128) : xs ++ [(k : Int)] = evI m := by
  rw [← h, evI_small k hk]
theorem evI_len {xs : List Int} {k m : Nat} (h : xs ++ evI k = evI m) (hm : m ≤ 562949953421311) : xs.length + 1 ≤ 140737488355328 := by
  have h1 := congrArg List.length h
  have h2 := evI_length m
  simp only [List.length_append] at h1
  omega
/-- The last a bytes of n, most significant byte first. -/
def beI : Nat → Nat → List Int
  | 0, _ => []
  | a + 1, n => beI a (n / 256) ++ [((n % 256 : Nat) : Int)]
theorem beI_length (a n : Nat) : (beI a n).length = a := by
  induction a generalizing n with
  | zero => rfl
  | succ a ih => simp [beI, ih]
theorem beI_cons (a n : Nat) : beI (a + 1) n = ((n / 256 ^ a % 256 : Nat) : Int) :: beI a n := by
  induction a generalizing n with
  | zero => simp [beI]
  | succ a ih =>
    rw [beI, ih (n / 256), Nat.div_div_eq_div_mul, show 256 * 256 ^ a = 256 ^ (a + 1) by rw [Nat.pow_succ]; omega]
    rfl
theorem div_step {n k m : Nat} (h : m = n / 256 ^ k) : m / 256 = n / 256 ^ (k + 1) := by
  rw [h, Nat.div_div_eq_div_mul, Nat.pow_succ]
theorem beI_step {n k m : Nat} (h : m = n / 256 ^ k) : beI (k + 1) n = ((m % 256 : Nat) : Int) :: beI k n := by
  rw [beI_cons, h]
/-- EncodeFixed. -/
def encF (n a : Int) : List Int := if 0 ≤ n ∧ 1 ≤ a ∧ a ≤ 7 ∧ n.toNat < 256 ^ a.toNat then beI a.toNat n.toNat else []
theorem encF_ok (n a : Nat) (h1 : 1 ≤ a) (h2 : a ≤ 7) (h : n < 256 ^ a) : encF n a = beI a n := by
  unfold encF; rw [if_pos ⟨by omega, by omega, by omega, by simpa using h⟩]; simp
theorem encF_bad (n a : Int) (h : ¬ (0 ≤ n ∧ 1 ≤ a ∧ a ≤ 7)) : encF n a = [] := by
  unfold encF; rw [if_neg (by omega)]
theorem encF_big (n a : Nat) (h : ¬ n < 256 ^ a) : encF n a = [] := by
  unfold encF; rw [if_neg (fun g => h (by simpa using g.2.2.2))]
theorem pow_256 (a : Nat) : (2 : Int) ^ (8 * a) = ((256 ^ a : Nat) : Int) := by
  rw [Int.pow_mul]; simp
theorem shr_zero (n a : Nat) (h : n < 256 ^ a) : ((n : Int) / 2 ^ (8 * a) != 0) = false := by
  rw [pow_256, ← Int.natCast_ediv, Nat.div_eq_of_lt h]; rfl
theorem shr_pos (n a : Nat) (h : ¬ n < 256 ^ a) : ((n : Int) / 2 ^ (8 * a) != 0) = true := by
  rw [pow_256, ← Int.natCast_ediv]
  have : 0 < n / 256 ^ a := Nat.div_pos (by omega) (Nat.pow_pos (by decide))
  rw [bne_iff_ne]; omega
theorem rep_set (j a n m : Nat) (h : m = n / 256 ^ (a - (j + 1))) (hj : j < a) :
    (List.replicate (j + 1) (0 : Int) ++ beI (a - (j + 1)) n).set j ((m % 256 : Nat) : Int) = List.replicate j 0 ++ beI (a - j) n := by
  rw [show a - j = a - (j + 1) + 1 by omega, beI_step h, List.replicate_succ', List.append_assoc, List.set_append_right _ _ (by simp)]
  simp
end Go.Proofs.YteelgogfpidcdaaGreatDoor
namespace Go.Proofs.YteelgogfpidcdaaGreatDoor
open Go.RowKit
set_option linter.unusedVariables false
theorem ret_par {l : List UInt8} {n : Int} {b : Bool} (h : parI l = (n, b)) {a : Int} (ha : a = n) : Ending.returned (.tuple #[.int .i64 a, .bool b]) = .returned (.tuple #[.int .i64 (parI l).1, .bool (parI l).2]) := by rw [h, ha]
theorem neg_at (s : ByteArray) (h : 0 < s.size) : neg s.data.toList = decide (s[0].toNat = 45) := by
  obtain ⟨⟨l⟩⟩ := s
  cases l with
  | nil => simp [ByteArray.size] at h
  | cons a r =>
    show (some a == some 45) = decide (a.toNat = 45)
    have e : (a = 45) ↔ a.toNat = 45 := ⟨fun e => by rw [e]; rfl, fun e => UInt8.toNat_inj.1 (by rw [e]; rfl)⟩
    by_cases h1 : a = 45
    · rw [decide_eq_true (e.1 h1), h1]; rfl
    · rw [decide_eq_false (fun g => h1 (e.2 g))]; simp [h1]
theorem neg_nil (s : ByteArray) (h : s.size = 0) : neg s.data.toList = false := by
  obtain ⟨⟨l⟩⟩ := s
  cases l with
  | nil => rfl
  | cons a r => simp [ByteArray.size] at h
theorem text_eq (x : List UInt8) (s : ByteArray) : (⟨x.toArray⟩ : ByteArray).toList = s.toList ↔ x = s.data.toList := by
  rw [ByteArray.toList_eq, ByteArray.toList_eq]
theorem sval_pos {l : List UInt8} (h : neg l = false) : sval l = (dval l : Int) := by unfold sval; rw [h]; rfl
theorem sval_neg {l : List UInt8} (h : neg l = true) : sval l = -(dval l : Int) := by unfold sval; rw [h]; rfl
theorem dval_step (s : ByteArray) (m : Nat) (h : m < s.size) : dval (s.data.toList.take (m + 1)) = if dig s[m] then dval (s.data.toList.take m) * 10 + (s[m].toNat - 48) else dval (s.data.toList.take m) := by
  rw [take_snoc s m h, dval_snoc]
theorem dcnt_step (s : ByteArray) (m : Nat) (h : m < s.size) : dcnt (s.data.toList.take (m + 1)) = if dig s[m] then dcnt (s.data.toList.take m) + 1 else dcnt (s.data.toList.take m) := by
  rw [take_snoc s m h, dcnt_snoc]
theorem cast_dig (v b : Nat) (h : 48 ≤ b) : ((v * 10 + (b - 48) : Nat) : Int) = (v : Int) * 10 + ((b : Int) - 48) := by omega
end Go.Proofs.YteelgogfpidcdaaGreatDoor
namespace Go.Proofs.YteelgogfpidcdaaGreatDoor
open Go.RowKit
set_option linter.unusedVariables false
/-- 'append(out, x..)', with what else stays: all blocks but out's own; and where the result lies. -/
theorem append_ints_at {w : World} {ops : Array Oper} {rest : List Oper} {o : Oper} {a : Act} {Q : Exit → Act → World → Prop} (hgd : o.guard = none) (s x : Operand)
    (ho : o.op = .call { callee := .builtin .append, args := #[s, x], argTypes := #[25, 25] })
    (B : Nat) (v : Value) (xs : List Int) (hs : a.eval s = v) (hown : OwnsN w B v xs) (hB : B ≤ w.heap.size)
    (C : Array Value) (ys : List Int) (m c : Nat) (hx : a.eval x = .slice (some ⟨w.heap.size, 0, none⟩) m c) (hC : C.toList = ys.map (Value.int .i64)) (hm : m = ys.length)
    (h63 : xs.length + ys.length ≤ 17592186044416)
    (h : ∀ v' w', OwnsN w' B v' (xs ++ ys) → Below B w w' → w.grownBy w' v.ownBlock → (v'.ownBlock = v.ownBlock ∨ ∃ k, v'.ownBlock = some k ∧ w.heap.size ≤ k) → wpList Tryz.prog ops Q rest (a.put o.dst v') w') : wpList Tryz.prog ops Q (o :: rest) a (w.alloc (.cells C 3)) := by
  obtain ⟨i0, hi, hz0, hz1, hz2⟩ := info_parts Tryz.infoI64
  subst hm
  refine wpList_append_own_at _ hgd s x 25 ho B 3 i0 (.int .i64 0) 1 8 Tryz.underlying25 hi hz0 hz1 hz2 rfl (by decide) v xs.length _ hs (hown.alloc _) ⟨w.heap.size, 0, none⟩ ys.length c (ys.map (Value.int .i64)) hx (by simp) ?_ (by intro u hu; simp at hu; obtain ⟨y, _, rfl⟩ := hu; rfl) (by unfold maxLen; omega) (by omega) (by simp; omega) ?_
  · intro j u hj
    have e : (⟨w.heap.size, 0, none⟩ : Addr).add j = ⟨w.heap.size, j, none⟩ := by unfold Addr.add; split <;> simp_all
    rw [e, cell_lit]
    rw [← hC] at hj
    simpa using hj
  · intro v' w' h1 h2 _ h4
    refine h v' w' ?_ ?_ ?_ ?_
    · unfold OwnsN
      simpa using h1
    · exact ((Below.refl B w).alloc hB _).grown h2 (by simp; omega) (fun k hk => (hown.lt k hk).1)
    · have hg := World.grownBy_alloc w (.cells C 3) v.ownBlock
      exact ⟨h2.os.trans hg.os, h2.tape.trans hg.tape, h2.output.trans hg.output, Nat.le_trans hg.size h2.size, fun k hk hne => (h2.block k (Nat.lt_of_lt_of_le hk hg.size) hne).trans (hg.block k hk hne)⟩
    · rcases h4 with h4 | h4
      · exact Or.inl h4
      · exact Or.inr ⟨_, h4, by simp⟩
/-- Two slices of the call's own lie in blocks of their own. -/
def Apart (v u : Value) : Prop := u.ownBlock = none ∨ v.ownBlock ≠ u.ownBlock
theorem ownsS_kept {w w' : World} {B : Nat} {v u : Value} {ts : List ByteArray} (h : OwnsS w B u ts) (hg : w.grownBy w' v.ownBlock) (hp : Apart v u) : OwnsS w' B u ts := by
  refine h.kept hg ?_
  rcases hp with e | e
  · exact Or.inl e
  · exact Or.inr (fun g => e g.symm)
theorem apart_step {w : World} {B : Nat} {v v' u : Value} {ts : List ByteArray} (h : OwnsS w B u ts) (hp : Apart v u) (hat : v'.ownBlock = v.ownBlock ∨ ∃ k, v'.ownBlock = some k ∧ w.heap.size ≤ k) : Apart v' u := by
  rcases hp with e | e
  · exact Or.inl e
  · rcases hat with g | ⟨k, g, hk⟩
    · exact Or.inr (by rw [g]; exact e)
    · cases hu : u.ownBlock with
      | none => exact Or.inl hu
      | some j =>
        refine Or.inr ?_
        rw [g, hu]
        have := (h.lt j hu).2
        intro e2
        simp at e2
        omega
def numL (q : List UInt8) : Int := if (parI q).2 then (parI q).1 else -100000
def partTo (ps : List (List UInt8)) : Int := if ps.length = 2 then numL (ps.getD 1 []) else numL (ps.getD 0 [])
def partOk (ps : List (List UInt8)) : Bool := decide (ps.length ≤ 2 ∧ (0 ≤ numL (ps.getD 0 []) ∧ numL (ps.getD 0 []) ≤ 23) ∧ (numL (ps.getD 0 []) ≤ partTo ps ∧ partTo ps ≤ 23))
def partNums (ps : List (List UInt8)) : List Int := upN (numL (ps.getD 0 [])) (partTo ps - numL (ps.getD 0 []) + 1).toNat
def parGo : List Int → List (List UInt8) → Option (List Int)
  | out, [] => some out
  | out, q :: r => if partOk (cutL 45 q) then parGo (out ++ partNums (cutL 45 q)) r else none
def parSet (l : List UInt8) : List Int × Bool :=
  if l = [110, 111, 110, 101] then ([], true)
  else match parGo [] (cutL 32 l) with
    | none => ([], false)
    | some out => if fmtSet out = l then (out, true) else ([], false)
theorem parSet_none {l : List UInt8} (h : l = [110, 111, 110, 101]) : parSet l = ([], true) := by unfold parSet; rw [if_pos h]
theorem parSet_bad {l : List UInt8} (h : ¬ l = [110, 111, 110, 101]) (hg : parGo [] (cutL 32 l) = none) : parSet l = ([], false) := by unfold parSet; rw [if_neg h, hg]
theorem parSet_yes {l : List UInt8} {out : List Int} (h : ¬ l = [110, 111, 110, 101]) (hg : parGo [] (cutL 32 l) = some out) (hf : fmtSet out = l) : parSet l = (out, true) := by unfold parSet; rw [if_neg h, hg]; exact if_pos hf
theorem parSet_no {l : List UInt8} {out : List Int} (h : ¬ l = [110, 111, 110, 101]) (hg : parGo [] (cutL 32 l) = some out) (hf : ¬ fmtSet out = l) : parSet l = ([], false) := by unfold parSet; rw [if_neg h, hg]; exact if_neg hf
theorem parGo_hit {out : List Int} {P : List (List UInt8)} {k : Nat} (hk : k < P.length) (h : partOk (cutL 45 (P.getD k [])) = true) : parGo out (P.drop k) = parGo (out ++ partNums (cutL 45 (P.getD k []))) (P.drop (k + 1)) := by
  rw [List.drop_eq_getElem_cons hk]
  have e : P.getD k [] = P[k] := by simp [List.getD, hk]
  rw [e] at h ⊢
  show (if partOk (cutL 45 P[k]) then _ else _) = _
  rw [if_pos h]
theorem parGo_miss {out : List Int} {P : List (List UInt8)} {k : Nat} (hk : k < P.length) (h : partOk (cutL 45 (P.getD k [])) = false) : parGo out (P.drop k) = none := by
  rw [List.drop_eq_getElem_cons hk]
  have e : P.getD k [] = P[k] := by simp [List.getD, hk]
  rw [e] at h
  show (if partOk (cutL 45 P[k]) then _ else _) = _
  rw [h]; rfl
theorem cutGo_piece (b : UInt8) : ∀ (l p : List UInt8), ∀ q ∈ cutGo b p l, q.length ≤ p.length + l.length := by
  intro l
  induction l with
  | nil => intro p q hq; simp [cutGo] at hq; subst hq; simp
  | cons c r ih =>
    intro p q hq
    unfold cutGo at hq
    split at hq
    · rcases List.mem_cons.1 hq with e | e
      · subst e; simp
      · have := ih [] q e; simp at this ⊢; omega
    · have := ih (p ++ [c]) q hq; simp at this ⊢; omega
theorem cut_piece (b : UInt8) (l : List UInt8) (k : Nat) : ((cutL b l).getD k []).length ≤ l.length := by
  by_cases hk : k < (cutL b l).length
  · have e : (cutL b l).getD k [] = (cutL b l)[k] := by simp [List.getD, hk]
    have := cutGo_piece b l [] _ (List.getElem_mem hk)
    rw [e]
    simpa using this
  · have e : (cutL b l).getD k [] = [] := by rw [List.getD, List.getElem?_eq_none (Nat.le_of_not_lt hk)]; rfl
    rw [e]; simp
theorem cut_len (b : UInt8) (l : List UInt8) : (cutL b l).length ≤ l.length + 1 := cutGo_len b l []
theorem cutGo_pos (b : UInt8) : ∀ (l p : List UInt8), 0 < (cutGo b p l).length := by
  intro l
  induction l with
  | nil => intro p; simp [cutGo]
  | cons c r ih => intro p; unfold cutGo; split; · simp
                   · exact ih _
theorem cut_pos (b : UInt8) (l : List UInt8) : 0 < (cutL b l).length := cutGo_pos b l []
theorem ret_n {a b : Int} (h : a = b) : Ending.returned (.int .i64 a) = .returned (.int .i64 b) := by rw [h]
end Go.Proofs.YteelgogfpidcdaaGreatDoor
namespace Go.Proofs.YteelgogfpidcdaaGreatDoor
open Go.RowKit
set_option linter.unusedVariables false
set_option linter.unusedSimpArgs false
/-- The number behind the letter b. -/
def aftL (b : UInt8) (l : List UInt8) : Int := if 2 ≤ l.length ∧ l.getD 0 0 = b then numL (l.drop 1) else -100000
theorem drop_strB (s : ByteArray) (m : Nat) : s.extract m s.size = strB (s.data.toList.drop m) := by
  apply ByteArray.ext
  apply Array.ext'
  simp [strB]
  exact List.take_of_length_le (by simp)
theorem take_strB (s : ByteArray) (m : Nat) (h : m ≤ s.size) : s.extract 0 m = strB (s.data.toList.take m) := by
  apply ByteArray.ext
  apply Array.ext'
  simp [strB]
/-- The two numbers apart by the first two dots behind the bytes p. -/
def rngGo (p : List UInt8) : List UInt8 → Int × Int
  | a :: b :: r => if a = 46 ∧ b = 46 then (numL p, numL r) else rngGo (p ++ [a]) (b :: r)
  | _ => (-100000, -100000)
def rngL (l : List UInt8) : Int × Int := rngGo [] l
theorem rng_hit {p : List UInt8} {s : ByteArray} {m : Nat} (h : m + 1 < s.size) (h0 : s[m] = 46) (h1 : s[m + 1] = 46) : rngGo p (s.data.toList.drop m) = (numL p, numL (s.data.toList.drop (m + 2))) := by
  rw [drop_at s m (by omega), drop_at s (m + 1) h]
  unfold rngGo
  rw [if_pos ⟨h0, h1⟩]
theorem rng_miss {p : List UInt8} {s : ByteArray} {m : Nat} (h : m + 1 < s.size) (hn : ¬ (s[m] = 46 ∧ s[m + 1] = 46)) : rngGo p (s.data.toList.drop m) = rngGo (p ++ [s[m]]) (s.data.toList.drop (m + 1)) := by
  rw [drop_at s m (by omega), drop_at s (m + 1) h]
  conv => lhs; unfold rngGo
  rw [if_neg hn]
theorem rng_end {p : List UInt8} {s : ByteArray} {m : Nat} (h : ¬ m + 1 < s.size) : rngGo p (s.data.toList.drop m) = (-100000, -100000) := by
  by_cases h1 : m < s.size
  · rw [drop_at s m h1, List.drop_eq_nil_of_le (by simp; omega)]; rfl
  · rw [List.drop_eq_nil_of_le (by simp; omega)]; rfl
theorem ext_two (s : ByteArray) (m : Nat) (h : m + 1 < s.size) : s.extract m (m + 2) = strB [s[m], s[m + 1]] := by
  apply ByteArray.ext
  apply Array.ext'
  have e : s.data.toList.drop m = s[m] :: s[m + 1] :: s.data.toList.drop (m + 2) := by rw [drop_at s m (by omega), drop_at s (m + 1) h]
  simp only [ByteArray.data_extract, Array.toList_extract, List.extract_eq_take_drop, strB]
  rw [e, show m + 2 - m = 2 by omega]
  rfl
theorem take_next (s : ByteArray) (m : Nat) (h : m < s.size) : s.data.toList.take m ++ [s[m]] = s.data.toList.take (m + 1) := by
  rw [List.take_succ_eq_append_getElem (by simpa using h)]
  rfl
theorem ret_2i {a b c d : Int} (h : a = b) (g : c = d) : Ending.returned (.tuple #[.int .i64 a, .int .i64 c]) = .returned (.tuple #[.int .i64 b, .int .i64 d]) := by rw [h, g]
end Go.Proofs.YteelgogfpidcdaaGreatDoor
namespace Go.Proofs.YteelgogfpidcdaaGreatDoor
open Go.RowKit
set_option linter.unusedVariables false
set_option linter.unusedSimpArgs false
/-- The text of the first k numbers. -/
def listTo (xs : List Int) : Nat → List UInt8
  | 0 => []
  | k + 1 => (if k = 0 then [] else listTo xs k ++ [44]) ++ Lib.itoa (xs.getD k 0)
def fmtRow (r : RowD) : List UInt8 := if rowB r then Lib.itoa r.1 ++ [58] ++ listTo r.2 r.2.length else []
theorem row_parts {id : Int} {xs : List Int} (h : rowB (id, xs) = true) : (0 ≤ id ∧ id ≤ 999) ∧ xs.length = 3 ∧ ∀ j, j < xs.length → 0 ≤ xs.getD j 0 ∧ xs.getD j 0 ≤ 99 := by
  unfold rowB at h
  simp only [Bool.and_eq_true, decide_eq_true_eq, List.all_eq_true] at h
  obtain ⟨h1, h2, h3⟩ := h
  refine ⟨h1, h3, fun j hj => ?_⟩
  have e : xs.getD j 0 = xs[j] := by simp [List.getD, hj]
  rw [e]
  exact h2 _ (List.getElem_mem hj)
theorem fmtAny (n : Int) (w : World) (h0 : 0 ≤ n) (h1 : n ≤ 999) : Calls Tryz.prog 38 #[.int .i64 n] w fun e w' => e = .returned (.string (strB (Lib.itoa n))) ∧ Below w.heap.size w w' := specFmt n w (by omega) (by omega)
set_option maxHeartbeats 8000000 in
set_option maxRecDepth 100000 in
theorem l3List_any (v : Value) (xs : List Int) (w : World) (h : Ints w v xs) (hn : xs.length ≤ 1000) (hr : ∀ j, j < xs.length → 0 ≤ xs.getD j 0 ∧ xs.getD j 0 ≤ 999) :
    Calls Tryz.prog 39 #[v] w fun e w' => e = .returned (.string (strB (listTo xs xs.length))) ∧ Below w.heap.size w w' ∧ (listTo xs xs.length).length ≤ 45 * xs.length := by
  have H := Lib.hid h
  have HR := Lib.hid hr
  obtain ⟨a, cap, rfl⟩ := ints_len h
  clear h hr
  go_enter Tryz.func39, Tryz.ntmps39
  go_wp2
  go_loopw [3, 4] (fun s i wr => ∃ k : Nat, k ≤ xs.length ∧ i = .int .i64 k ∧ s = .string (strB (listTo xs k)) ∧ (listTo xs k).length ≤ 45 * k ∧ Below w.heap.size w wr) (fun _ i _ => xs.length - (intOf i).toNat)
  case atStart => exact ⟨0, Nat.zero_le _, rfl, rfl, by simp [listTo], Below.refl _ _⟩
  case round =>
    obtain ⟨k, hk, rfl, rfl, hll, hbel⟩ := hrel
    by_cases hlt : k < xs.length
    · obtain ⟨b, off, cap', hv, hbl, hc⟩ := ints_cell H.out (by omega)
      simp only [Value.slice.injEq] at hv
      obtain ⟨rfl, _, rfl⟩ := hv
      have hcell := (hbel.cell (p := ⟨b, off + k, none⟩) hbl).trans (hc k hlt)
      have i1 : (0 : Int) ≤ (k : Int) := by omega
      have i2 : (k : Int) < (xs.length : Int) := by omega
      have hx := HR.out k hlt
      have hlx := Lib.hid (Lib.itoa_length_le (xs.getD k 0) (by omega) (by omega))
      have HF := Lib.hid (fun w => fmtAny (xs.getD k 0) w hx.1 hx.2)
      have HS : Hid (listTo xs (k + 1) = (if k = 0 then [] else listTo xs k ++ [44]) ++ Lib.itoa (xs.getD k 0)) := Lib.hid rfl
      clear hc hx
      generalize listTo xs k = t at *
      generalize xs.getD k 0 = x at *
      by_cases hz : k = 0
      · have hg : decide ((0 : Int) < (k : Int)) = false := decide_eq_false (by omega)
        have hgn : decide (0 < k) = false := decide_eq_false (by omega)
        have ht : t = [] := List.eq_nil_of_length_eq_zero (by omega)
        have HS2 : Hid (listTo xs (k + 1) = t ++ Lib.itoa x) := Lib.hid (by rw [HS.out, if_pos hz, ht])
        have d1 := strB_add t (Lib.itoa x) (by have := hlx.out; omega)
        have HLEN : Hid ((t ++ Lib.itoa x).length ≤ 45 * (k + 1)) := Lib.hid (by have := hlx.out; simp; omega)
        clear hz ht HS
        go_wp2_with fail
        refine (HF.out _).mono ?_
        rintro e w5 ⟨rfl, hb5⟩
        have hb6 := hbel.trans (hb5.mono hbel.size)
        go_wp2
        go_roundw
        case rel => exact ⟨k + 1, by omega, by go_num, by rw [HS2.out], by rw [HS2.out]; exact HLEN.out, hb6⟩
        case measure => simp [intOf]; omega
      · have hg : decide ((0 : Int) < (k : Int)) = true := decide_eq_true (by omega)
        have hgn : decide (0 < k) = true := decide_eq_true (by omega)
        have HS2 : Hid (listTo xs (k + 1) = (t ++ [44]) ++ Lib.itoa x) := Lib.hid (by rw [HS.out, if_neg hz])
        have d0 := strB_add t [44] (by simp; omega)
        have d1 := strB_add (t ++ [44]) (Lib.itoa x) (by have := hlx.out; simp; omega)
        have HLEN : Hid (((t ++ [44]) ++ Lib.itoa x).length ≤ 45 * (k + 1)) := Lib.hid (by have := hlx.out; simp; omega)
        have e44 : (⟨#[44]⟩ : ByteArray) = strB [44] := rfl
        clear hz HS
        go_wp2_with fail
        refine (HF.out _).mono ?_
        rintro e w5 ⟨rfl, hb5⟩
        have hb6 := hbel.trans (hb5.mono hbel.size)
        go_wp2
        go_roundw
        case rel => exact ⟨k + 1, by omega, by go_num, by rw [HS2.out, List.append_assoc]; rfl, by rw [HS2.out]; exact HLEN.out, hb6⟩
        case measure => simp [intOf]; omega
    · obtain rfl : k = xs.length := by omega
      go_wp2
      go_ret
      exact ⟨rfl, hbel, hll⟩
end Go.Proofs.YteelgogfpidcdaaGreatDoor
namespace Go.Proofs.YteelgogfpidcdaaGreatDoor
open Go.RowKit
set_option linter.unusedVariables false
set_option linter.unusedSimpArgs false
/-- The text of a condition, and of the first k conditions. -/
def condT (t : List UInt8) (c : CondD) : List UInt8 := t ++ [32, 102] ++ Lib.itoa c.1 ++ [32] ++ Lib.itoa c.2.1 ++ [46, 46] ++ Lib.itoa c.2.2
def condsT (t : List UInt8) (cs : List CondD) : Nat → List UInt8
  | 0 => t
  | k + 1 => condT (condsT t cs k) (cs.getD k c0D)
def headT (id tn : Int) : List UInt8 := 113 :: Lib.itoa id ++ [32, 116] ++ Lib.itoa tn
def fmtQ (id tn : Int) (cs : List CondD) (os : List Int) : List UInt8 := if queryB id tn cs os then condsT (headT id tn) cs cs.length ++ [32, 111, 117, 116, 32] ++ listTo os os.length else []
theorem query_parts {id tn : Int} {cs : List CondD} {os : List Int} (h : queryB id tn cs os = true) : (0 ≤ id ∧ id ≤ 23) ∧ (0 ≤ tn ∧ tn ≤ 3) ∧ cs.length ≤ 3 ∧ (∀ k, k < cs.length → 0 ≤ (cs.getD k c0D).1 ∧ (cs.getD k c0D).1 ≤ 2 ∧ 0 ≤ (cs.getD k c0D).2.1 ∧ (cs.getD k c0D).2.1 ≤ 99 ∧ 0 ≤ (cs.getD k c0D).2.2 ∧ (cs.getD k c0D).2.2 ≤ 99) ∧ os.length ≤ 3 ∧ ∀ k, k < os.length → 0 ≤ os.getD k 0 ∧ os.getD k 0 ≤ 2 := by
  unfold queryB at h
  simp only [Bool.and_eq_true, decide_eq_true_eq] at h
  obtain ⟨h1, h2, h3, h4, h5⟩ := h
  refine ⟨h2, h3, h4, fun k hk => ?_, ?_, fun k hk => ?_⟩
  · unfold condsB at h1
    rw [List.all_eq_true] at h1
    have := h1 k (List.mem_range.2 hk)
    rw [Bool.and_eq_true] at this
    have h6 := this.1
    unfold condB at h6
    simp only [Bool.and_eq_true, decide_eq_true_eq] at h6
    omega
  · unfold fieldsB at h5
    simp only [Bool.and_eq_true, decide_eq_true_eq] at h5
    omega
  · unfold fieldsB at h5
    simp only [Bool.and_eq_true, decide_eq_true_eq, List.all_eq_true] at h5
    have e : os.getD k 0 = os[k] := by simp [List.getD, hk]
    rw [e]
    exact h5.1 _ (List.getElem_mem hk)
set_option maxHeartbeats 16000000 in
set_option maxRecDepth 100000 in
theorem specFormatQuery (id tn : Int) (cv ov : Value) (cs : List CondD) (os : List Int) (w : World) (h : CondsR w cv cs) (hn : cs.length ≤ 1048576) (g : Ints w ov os) (hm : os.length ≤ 1048576) :
    Calls Tryz.prog 14 #[qV id tn cv ov] w fun e w' => e = .returned (.string (strB (fmtQ id tn cs os))) ∧ Below w.heap.size w w' := by
  obtain ⟨ca, ccap, rfl⟩ := condsR_len h
  obtain ⟨oa, ocap, rfl⟩ := ints_len g
  have hb0 : Below w.heap.size w (w.alloc (.cells #[.int .i64 id, .int .i64 tn, .slice ca cs.length ccap, .slice oa os.length ocap] 27)) := (Below.refl _ w).alloc (Nat.le_refl _) _
  have HG := Lib.hid (heap_alloc_new w (.cells #[.int .i64 id, .int .i64 tn, .slice ca cs.length ccap, .slice oa os.length ocap] 27))
  have HC := Lib.hid (condsR_below h hb0)
  have HO := Lib.hid (ints_below g hb0)
  have HZ : Hid (w.heap.size < (w.alloc (.cells #[.int .i64 id, .int .i64 tn, .slice ca cs.length ccap, .slice oa os.length ocap] 27)).heap.size) := Lib.hid (by simp)
  have HQ := Lib.hid (fun w h g => specIsQuery id tn (.slice ca cs.length ccap) (.slice oa os.length ocap) cs os w h hn g hm)
  have HB0 := Lib.hid hb0
  clear h g hb0
  cases hq : queryB id tn cs os with
  | false =>
    have HF : Hid (fmtQ id tn cs os = []) := Lib.hid (by unfold fmtQ; rw [hq]; rfl)
    rw [hq] at HQ
    clear hq hn hm
    go_enter Tryz.func14, Tryz.ntmps14
    go_wp2_with fail
    refine (HQ.out _ HC.out HO.out).mono ?_
    rintro e w2 ⟨rfl, b2⟩
    have b3 := HB0.out.trans (b2.mono HB0.out.size)
    go_wp2
    go_ret
    exact ⟨ret_s HF.out.symm, b3⟩
  | true =>
    obtain ⟨hi, ht, hcl, hcr, hol, hor⟩ := query_parts hq
    have HF : Hid (fmtQ id tn cs os = condsT (headT id tn) cs cs.length ++ [32, 111, 117, 116, 32] ++ listTo os os.length) := Lib.hid (by unfold fmtQ; rw [hq]; rfl)
    have HA := Lib.hid (fun w => fmtAny id w hi.1 (by omega))
    have HT := Lib.hid (fun w => fmtAny tn w ht.1 (by omega))
    have HL := Lib.hid (fun w h => l3List_any (.slice oa os.length ocap) os w h (by omega) (fun j hj => ⟨(hor j hj).1, by have := (hor j hj).2; omega⟩))
    have HCR := Lib.hid hcr
    have hla := Lib.hid (Lib.itoa_length_le id (by omega) (by omega))
    have hlt := Lib.hid (Lib.itoa_length_le tn (by omega) (by omega))
    have HCL := Lib.hid hcl
    have HOL := Lib.hid hol
    rw [hq] at HQ
    clear hq hi ht hcr hor hcl hol
    obtain ⟨h1, hh1⟩ : ∃ h1, h1 = [113] ++ Lib.itoa id := ⟨_, rfl⟩
    have h1l : h1.length ≤ 22 := by rw [hh1]; have := hla.out; simp; omega
    have HH : Hid (headT id tn = h1 ++ [32, 116] ++ Lib.itoa tn) := Lib.hid (by rw [hh1]; rfl)
    have hhl : Hid ((headT id tn).length ≤ 45) := Lib.hid (by rw [HH.out]; have := hlt.out; simp; omega)
    have dA : ∀ w, (Op.stringOp .add ⟨#[113]⟩ (strB (Lib.itoa id))).run Tryz.prog w = .ok (.string (strB h1)) w := by rw [hh1]; exact strB_add [113] (Lib.itoa id) (by have := hla.out; simp; omega)
    have dB : ∀ w, (Op.stringOp .add (strB h1) ⟨#[32, 116]⟩).run Tryz.prog w = .ok (.string (strB (h1 ++ [32, 116]))) w := strB_add h1 [32, 116] (by simp; omega)
    have dC := strB_add (h1 ++ [32, 116]) (Lib.itoa tn) (by have := hlt.out; simp; omega)
    clear hh1
    rw [← HH.out] at dC
    go_enter Tryz.func14, Tryz.ntmps14
    go_wp2_with fail
    generalize w.alloc (.cells #[.int .i64 id, .int .i64 tn, .slice ca cs.length ccap, .slice oa os.length ocap] 27) = W at *
    refine (HQ.out _ HC.out HO.out).mono ?_
    rintro e w2 ⟨rfl, b2⟩
    have g2 := Lib.hid ((b2.block w.heap.size HZ.out).trans HG.out)
    have q0 := (cell_of_row w2 _ 0 _ _ _ g2.out).trans (show _ = some (Value.int .i64 id) from rfl)
    have q1 := (cell_of_row w2 _ 1 _ _ _ g2.out).trans (show _ = some (Value.int .i64 tn) from rfl)
    have hz2 := Lib.hid (Nat.lt_of_lt_of_le HZ.out b2.size)
    have B2 := Lib.hid b2
    clear b2
    go_wp2
    refine wp_region_held_drew (S := fun w' => w'.cell? ⟨w.heap.size, 0, none⟩ = some (.int .i64 id) ∧ w'.cell? ⟨w.heap.size, 1, none⟩ = some (.int .i64 tn)) (by kernel_rfl) ⟨q0, q1⟩ (fun hHeld => ?_)
    have e0 := below_drew (Below.refl w2.heap.size w2)
    refine take_runs (i := 0) (v := ?_) (by simp only [List.getElem?_toArray, List.getElem?_cons_succ, List.getElem?_cons_zero]; rfl) (by kernel_rfl) (by kernel_rfl) (by kernel_rfl) rfl (by exact fun _ _ _ h => h) (by rfl) ?_ (by assumption) ?_
    rotate_left
    · intro w hSw; (try dsimp only at hSw); go_simp; try (with_reducible rfl)
    try simp only [Act.put, List.setIfInBounds_toArray, List.set_cons_zero, List.set_cons_succ]
    refine take_runs (i := 1) (v := ?_) (by simp only [List.getElem?_toArray, List.getElem?_cons_succ, List.getElem?_cons_zero]; rfl) (by kernel_rfl) (by kernel_rfl) (by kernel_rfl) rfl (by exact fun _ _ _ h => h) (by rfl) ?_ (by assumption) ?_
    rotate_left
    · intro w hSw; (try dsimp only at hSw); go_simp; try (with_reducible rfl)
    try simp only [Act.put, List.setIfInBounds_toArray, List.set_cons_zero, List.set_cons_succ]
    refine take_runs (i := 5) (v := ?_) (by simp only [List.getElem?_toArray, List.getElem?_cons_succ, List.getElem?_cons_zero]; rfl) (by kernel_rfl) (by kernel_rfl) (by kernel_rfl) rfl (by exact fun _ _ _ h => h) (by rfl) ?_ (by assumption) ?_
    rotate_left
    · intro w hSw; (try dsimp only at hSw); go_simp; try (with_reducible rfl)
    try simp only [Act.put, List.setIfInBounds_toArray, List.set_cons_zero, List.set_cons_succ]
    refine take_runs (i := 6) (v := ?_) (by simp only [List.getElem?_toArray, List.getElem?_cons_succ, List.getElem?_cons_zero]; rfl) (by kernel_rfl) (by kernel_rfl) (by kernel_rfl) rfl (by exact fun _ _ _ h => h) (by rfl) ?_ (by assumption) ?_
    rotate_left
    · intro w hSw; (try dsimp only at hSw); go_simp; try (with_reducible rfl)
    try simp only [Act.put, List.setIfInBounds_toArray, List.set_cons_zero, List.set_cons_succ]
    refine wpAnyH_ready (rs := [2]) (by kernel_rfl) (by simp) ?_
    refine AllReadyH.cons (o := _) (by simp only [List.getElem?_toArray, List.getElem?_cons_succ, List.getElem?_cons_zero]; rfl) (fun K hK => ?_) AllReadyH.nil
    go_simp
    refine (HA.out _).mono ?_
    rintro e x1 ⟨rfl, c1⟩
    have e1 := e0.trans (c1.mono e0.size)
    refine hK.out _ _ ⟨(e1.cell (p := ⟨w.heap.size, 0, none⟩) hz2.out).trans q0, (e1.cell (p := ⟨w.heap.size, 1, none⟩) hz2.out).trans q1⟩ (fun hHeld => ?_)
    clear hK K
    try simp only [Act.put, List.setIfInBounds_toArray, List.set_cons_zero, List.set_cons_succ]
    refine take_runs (i := 3) (v := ?_) (by simp only [List.getElem?_toArray, List.getElem?_cons_succ, List.getElem?_cons_zero]; rfl) (by kernel_rfl) (by kernel_rfl) (by kernel_rfl) rfl (by exact fun _ _ _ h => h) (by rfl) ?_ (by assumption) ?_
    rotate_left
    · intro w hSw; (try dsimp only at hSw); go_simp; try (with_reducible rfl)
    try simp only [Act.put, List.setIfInBounds_toArray, List.set_cons_zero, List.set_cons_succ]
    refine take_runs (i := 4) (v := ?_) (by simp only [List.getElem?_toArray, List.getElem?_cons_succ, List.getElem?_cons_zero]; rfl) (by kernel_rfl) (by kernel_rfl) (by kernel_rfl) rfl (by exact fun _ _ _ h => h) (by rfl) ?_ (by assumption) ?_
    rotate_left
    · intro w hSw; (try dsimp only at hSw); go_simp; try (with_reducible rfl)
    try simp only [Act.put, List.setIfInBounds_toArray, List.set_cons_zero, List.set_cons_succ]
    refine wpAnyH_ready (rs := [7]) (by kernel_rfl) (by simp) ?_
    refine AllReadyH.cons (o := _) (by simp only [List.getElem?_toArray, List.getElem?_cons_succ, List.getElem?_cons_zero]; rfl) (fun K hK => ?_) AllReadyH.nil
    go_simp
    refine (HT.out _).mono ?_
    rintro e x2 ⟨rfl, c2⟩
    have e2 := e1.trans (c2.mono e1.size)
    refine hK.out _ _ ⟨(e2.cell (p := ⟨w.heap.size, 0, none⟩) hz2.out).trans q0, (e2.cell (p := ⟨w.heap.size, 1, none⟩) hz2.out).trans q1⟩ (fun hHeld => ?_)
    clear hK K
    try simp only [Act.put, List.setIfInBounds_toArray, List.set_cons_zero, List.set_cons_succ]
    refine take_runs (i := 8) (v := ?_) (by simp only [List.getElem?_toArray, List.getElem?_cons_succ, List.getElem?_cons_zero]; rfl) (by kernel_rfl) (by kernel_rfl) (by kernel_rfl) rfl (by exact fun _ _ _ h => h) (by rfl) ?_ (by assumption) ?_
    rotate_left
    · intro w hSw; (try dsimp only at hSw); go_simp; try (with_reducible rfl)
    try simp only [Act.put, List.setIfInBounds_toArray, List.set_cons_zero, List.set_cons_succ]
    refine take_runs (i := 9) (v := ?_) (by simp only [List.getElem?_toArray, List.getElem?_cons_succ, List.getElem?_cons_zero]; rfl) (by kernel_rfl) (by kernel_rfl) (by kernel_rfl) rfl (by exact fun _ _ _ h => h) (by rfl) ?_ (by assumption) ?_
    rotate_left
    · intro w hSw; (try dsimp only at hSw); go_simp; try (with_reducible rfl)
    try simp only [Act.put, List.setIfInBounds_toArray, List.set_cons_zero, List.set_cons_succ]
    refine wpAnyH_done (by kernel_rfl) ?_ _
    have b3 := B2.out.trans (e2.mono B2.out.size)
    clear hHeld e0 e1 e2 c1 c2 q0 q1 dA dB dC g2 hz2 B2
    go_wp2
    go_loopw [3, 4] (fun s i wr => ∃ (k : Nat) (t : List UInt8), k ≤ cs.length ∧ i = .int .i64 k ∧ s = .string (strB t) ∧ Hid (t = condsT (headT id tn) cs k) ∧ t.length ≤ 45 + 80 * k ∧ Below W.heap.size W wr) (fun _ i _ => cs.length - (intOf i).toNat)
    case atStart => exact ⟨0, _, Nat.zero_le _, rfl, rfl, Lib.hid rfl, by have := hhl.out; omega, b3⟩
    case round =>
      obtain ⟨k, t, hk, rfl, rfl, hT, hll, hbel⟩ := hrel
      have hz := Lib.hid (Nat.lt_of_lt_of_le HZ.out hbel.size)
      have gq := Lib.hid ((hbel.block w.heap.size HZ.out).trans HG.out)
      have q2 := (cell_of_row wr _ 2 _ _ _ gq.out).trans (show _ = some (Value.slice ca cs.length ccap) from rfl)
      have q3 := (cell_of_row wr _ 3 _ _ _ gq.out).trans (show _ = some (Value.slice oa os.length ocap) from rfl)
      have hkl : k ≤ 3 := Nat.le_trans hk HCL.out
      by_cases hlt : k < cs.length
      · obtain ⟨b, off, cap', hv, hbl, hc1, hc2, hc3⟩ := condsR_at (condsR_below HC.out hbel) hlt
        simp only [Value.slice.injEq] at hv
        obtain ⟨rfl, _, rfl⟩ := hv
        have hcr := HCR.out k hlt
        have hst : Hid (condsT (headT id tn) cs (k + 1) = condT t (cs.getD k c0D)) := Lib.hid (by rw [hT.out]; rfl)
        have i1 : (0 : Int) ≤ (k : Int) := by omega
        have i2 : (k : Int) < (cs.length : Int) := by omega
        change wr.cell? _ = some (.int .i64 (cs.getD k c0D).1) at hc1
        change wr.cell? _ = some (.int .i64 (cs.getD k c0D).2.1) at hc2
        change wr.cell? _ = some (.int .i64 (cs.getD k c0D).2.2) at hc3
        generalize cs.getD k c0D = c at *
        obtain ⟨f, lo, hi⟩ := c
        simp only at hc1 hc2 hc3 hcr
        have H1 := Lib.hid (fun w => fmtAny f w hcr.1 (by omega))
        have H2 := Lib.hid (fun w => fmtAny lo w hcr.2.2.1 (by omega))
        have H3 := Lib.hid (fun w => fmtAny hi w hcr.2.2.2.2.1 (by omega))
        have l1 := Lib.hid (Lib.itoa_length_le f (by omega) (by omega))
        have l2 := Lib.hid (Lib.itoa_length_le lo (by omega) (by omega))
        have l3 := Lib.hid (Lib.itoa_length_le hi (by omega) (by omega))
        clear hcr hT
        have hbh := Lib.hid hbl
        have hll2 : t.length ≤ 285 := by omega
        obtain ⟨t1, ht1⟩ : ∃ t1, t1 = t ++ [32, 102] := ⟨_, rfl⟩
        have hl1 : t1.length ≤ 287 := by rw [ht1, List.length_append]; have := hll2; simp only [List.length_cons, List.length_nil]; omega
        have d1 : ∀ w, (Op.stringOp .add (strB t) ⟨#[32, 102]⟩).run Tryz.prog w = .ok (.string (strB t1)) w := by rw [ht1]; exact strB_add t ([32, 102]) (by have := hll2; simp only [List.length_cons, List.length_nil]; omega)
        obtain ⟨t2, ht2⟩ : ∃ t2, t2 = t1 ++ Lib.itoa f := ⟨_, rfl⟩
        have hl2 : t2.length ≤ 308 := by rw [ht2, List.length_append]; have := hl1; have := l1.out; omega
        have d2 : ∀ w, (Op.stringOp .add (strB t1) (strB (Lib.itoa f))).run Tryz.prog w = .ok (.string (strB t2)) w := by rw [ht2]; exact strB_add t1 (Lib.itoa f) (by have := hl1; have := l1.out; omega)
        obtain ⟨t3, ht3⟩ : ∃ t3, t3 = t2 ++ [32] := ⟨_, rfl⟩
        have hl3 : t3.length ≤ 309 := by rw [ht3, List.length_append]; have := hl2; simp only [List.length_cons, List.length_nil]; omega
        have d3 : ∀ w, (Op.stringOp .add (strB t2) ⟨#[32]⟩).run Tryz.prog w = .ok (.string (strB t3)) w := by rw [ht3]; exact strB_add t2 ([32]) (by have := hl2; simp only [List.length_cons, List.length_nil]; omega)
        obtain ⟨t4, ht4⟩ : ∃ t4, t4 = t3 ++ Lib.itoa lo := ⟨_, rfl⟩
        have hl4 : t4.length ≤ 330 := by rw [ht4, List.length_append]; have := hl3; have := l2.out; omega
        have d4 : ∀ w, (Op.stringOp .add (strB t3) (strB (Lib.itoa lo))).run Tryz.prog w = .ok (.string (strB t4)) w := by rw [ht4]; exact strB_add t3 (Lib.itoa lo) (by have := hl3; have := l2.out; omega)
        obtain ⟨t5, ht5⟩ : ∃ t5, t5 = t4 ++ [46, 46] := ⟨_, rfl⟩
        have hl5 : t5.length ≤ 332 := by rw [ht5, List.length_append]; have := hl4; simp only [List.length_cons, List.length_nil]; omega
        have d5 : ∀ w, (Op.stringOp .add (strB t4) ⟨#[46, 46]⟩).run Tryz.prog w = .ok (.string (strB t5)) w := by rw [ht5]; exact strB_add t4 ([46, 46]) (by have := hl4; simp only [List.length_cons, List.length_nil]; omega)
        obtain ⟨t6, ht6⟩ : ∃ t6, t6 = t5 ++ Lib.itoa hi := ⟨_, rfl⟩
        have hl6 : t6.length ≤ 353 := by rw [ht6, List.length_append]; have := hl5; have := l3.out; omega
        have d6 : ∀ w, (Op.stringOp .add (strB t5) (strB (Lib.itoa hi))).run Tryz.prog w = .ok (.string (strB t6)) w := by rw [ht6]; exact strB_add t5 (Lib.itoa hi) (by have := hl5; have := l3.out; omega)
        have HEQ : Hid (condT t (f, lo, hi) = t6) := Lib.hid (by rw [ht6, ht5, ht4, ht3, ht2, ht1]; rfl)
        have HLEN : Hid (t6.length ≤ 45 + 80 * (k + 1)) := Lib.hid (by rw [ht6, ht5, ht4, ht3, ht2, ht1]; have := l1.out; have := l2.out; have := l3.out; simp only [List.length_append, List.length_cons, List.length_nil]; omega)
        clear ht1 ht2 ht3 ht4 ht5 ht6 hl1 hl2 hl3 hl4 hl5 hl6 hll2
        go_wp2
        refine wp_region_held_drew (S := fun w' => w'.cell? ⟨w.heap.size, 2, none⟩ = some (.slice (some ⟨b, off, none⟩) cs.length ccap) ∧ w'.cell? ⟨b, off + k * 3, none⟩ = some (.int .i64 f) ∧ w'.cell? ⟨b, off + k * 3 + 1, none⟩ = some (.int .i64 lo) ∧ w'.cell? ⟨b, off + k * 3 + 2, none⟩ = some (.int .i64 hi)) (by kernel_rfl) ⟨q2, hc1, hc2, hc3⟩ (fun hHeld => ?_)
        have e0 := below_drew (Below.refl wr.heap.size wr)
        refine take_runs (i := 0) (v := ?_) (by simp only [List.getElem?_toArray, List.getElem?_cons_succ, List.getElem?_cons_zero]; rfl) (by kernel_rfl) (by kernel_rfl) (by kernel_rfl) rfl (by exact fun _ _ _ h => h) (by rfl) ?_ (by assumption) ?_
        rotate_left
        · intro w hSw; (try dsimp only at hSw); go_simp; try (with_reducible rfl)
        try simp only [Act.put, List.setIfInBounds_toArray, List.set_cons_zero, List.set_cons_succ]
        refine take_runs (i := 1) (v := ?_) (by simp only [List.getElem?_toArray, List.getElem?_cons_succ, List.getElem?_cons_zero]; rfl) (by kernel_rfl) (by kernel_rfl) (by kernel_rfl) rfl (by exact fun _ _ _ h => h) (by rfl) ?_ (by assumption) ?_
        rotate_left
        · intro w hSw; (try dsimp only at hSw); go_simp; try (with_reducible rfl)
        try simp only [Act.put, List.setIfInBounds_toArray, List.set_cons_zero, List.set_cons_succ]
        refine take_runs (i := 2) (v := ?_) (by simp only [List.getElem?_toArray, List.getElem?_cons_succ, List.getElem?_cons_zero]; rfl) (by kernel_rfl) (by kernel_rfl) (by kernel_rfl) rfl (by exact fun _ _ _ h => h) (by rfl) ?_ (by assumption) ?_
        rotate_left
        · intro w hSw; (try dsimp only at hSw); go_simp; try (with_reducible rfl)
        try simp only [Act.put, List.setIfInBounds_toArray, List.set_cons_zero, List.set_cons_succ]
        refine take_runs (i := 3) (v := ?_) (by simp only [List.getElem?_toArray, List.getElem?_cons_succ, List.getElem?_cons_zero]; rfl) (by kernel_rfl) (by kernel_rfl) (by kernel_rfl) rfl (by exact fun _ _ _ h => h) (by rfl) ?_ (by assumption) ?_
        rotate_left
        · intro w hSw; (try dsimp only at hSw); go_simp; try (with_reducible rfl)
        try simp only [Act.put, List.setIfInBounds_toArray, List.set_cons_zero, List.set_cons_succ]
        refine take_runs (i := 4) (v := ?_) (by simp only [List.getElem?_toArray, List.getElem?_cons_succ, List.getElem?_cons_zero]; rfl) (by kernel_rfl) (by kernel_rfl) (by kernel_rfl) rfl (by exact fun _ _ _ h => h) (by rfl) ?_ (by assumption) ?_
        rotate_left
        · intro w hSw; (try dsimp only at hSw); go_simp; try (with_reducible rfl)
        try simp only [Act.put, List.setIfInBounds_toArray, List.set_cons_zero, List.set_cons_succ]
        refine take_runs (i := 5) (v := ?_) (by simp only [List.getElem?_toArray, List.getElem?_cons_succ, List.getElem?_cons_zero]; rfl) (by kernel_rfl) (by kernel_rfl) (by kernel_rfl) rfl (by exact fun _ _ _ h => h) (by rfl) ?_ (by assumption) ?_
        rotate_left
        · intro w hSw; (try dsimp only at hSw); go_simp; try (with_reducible rfl)
        try simp only [Act.put, List.setIfInBounds_toArray, List.set_cons_zero, List.set_cons_succ]
        refine take_runs (i := 6) (v := ?_) (by simp only [List.getElem?_toArray, List.getElem?_cons_succ, List.getElem?_cons_zero]; rfl) (by kernel_rfl) (by kernel_rfl) (by kernel_rfl) rfl (by exact fun _ _ _ h => h) (by rfl) ?_ (by assumption) ?_
        rotate_left
        · intro w hSw; (try dsimp only at hSw); go_simp; try (with_reducible rfl)
        try simp only [Act.put, List.setIfInBounds_toArray, List.set_cons_zero, List.set_cons_succ]
        refine take_runs (i := 7) (v := ?_) (by simp only [List.getElem?_toArray, List.getElem?_cons_succ, List.getElem?_cons_zero]; rfl) (by kernel_rfl) (by kernel_rfl) (by kernel_rfl) rfl (by exact fun _ _ _ h => h) (by rfl) ?_ (by assumption) ?_
        rotate_left
        · intro w hSw; (try dsimp only at hSw); go_simp; try (with_reducible rfl)
        try simp only [Act.put, List.setIfInBounds_toArray, List.set_cons_zero, List.set_cons_succ]
        refine take_runs (i := 11) (v := ?_) (by simp only [List.getElem?_toArray, List.getElem?_cons_succ, List.getElem?_cons_zero]; rfl) (by kernel_rfl) (by kernel_rfl) (by kernel_rfl) rfl (by exact fun _ _ _ h => h) (by rfl) ?_ (by assumption) ?_
        rotate_left
        · intro w hSw; (try dsimp only at hSw); go_simp; try (with_reducible rfl)
        try simp only [Act.put, List.setIfInBounds_toArray, List.set_cons_zero, List.set_cons_succ]
        refine take_runs (i := 12) (v := ?_) (by simp only [List.getElem?_toArray, List.getElem?_cons_succ, List.getElem?_cons_zero]; rfl) (by kernel_rfl) (by kernel_rfl) (by kernel_rfl) rfl (by exact fun _ _ _ h => h) (by rfl) ?_ (by assumption) ?_
        rotate_left
        · intro w hSw; (try dsimp only at hSw); go_simp; try (with_reducible rfl)
        try simp only [Act.put, List.setIfInBounds_toArray, List.set_cons_zero, List.set_cons_succ]
        refine take_runs (i := 13) (v := ?_) (by simp only [List.getElem?_toArray, List.getElem?_cons_succ, List.getElem?_cons_zero]; rfl) (by kernel_rfl) (by kernel_rfl) (by kernel_rfl) rfl (by exact fun _ _ _ h => h) (by rfl) ?_ (by assumption) ?_
        rotate_left
        · intro w hSw; (try dsimp only at hSw); go_simp; try (with_reducible rfl)
        try simp only [Act.put, List.setIfInBounds_toArray, List.set_cons_zero, List.set_cons_succ]
        refine take_runs (i := 14) (v := ?_) (by simp only [List.getElem?_toArray, List.getElem?_cons_succ, List.getElem?_cons_zero]; rfl) (by kernel_rfl) (by kernel_rfl) (by kernel_rfl) rfl (by exact fun _ _ _ h => h) (by rfl) ?_ (by assumption) ?_
        rotate_left
        · intro w hSw; (try dsimp only at hSw); go_simp; try (with_reducible rfl)
        try simp only [Act.put, List.setIfInBounds_toArray, List.set_cons_zero, List.set_cons_succ]
        refine take_runs (i := 15) (v := ?_) (by simp only [List.getElem?_toArray, List.getElem?_cons_succ, List.getElem?_cons_zero]; rfl) (by kernel_rfl) (by kernel_rfl) (by kernel_rfl) rfl (by exact fun _ _ _ h => h) (by rfl) ?_ (by assumption) ?_
        rotate_left
        · intro w hSw; (try dsimp only at hSw); go_simp; try (with_reducible rfl)
        try simp only [Act.put, List.setIfInBounds_toArray, List.set_cons_zero, List.set_cons_succ]
        refine take_runs (i := 16) (v := ?_) (by simp only [List.getElem?_toArray, List.getElem?_cons_succ, List.getElem?_cons_zero]; rfl) (by kernel_rfl) (by kernel_rfl) (by kernel_rfl) rfl (by exact fun _ _ _ h => h) (by rfl) ?_ (by assumption) ?_
        rotate_left
        · intro w hSw; (try dsimp only at hSw); go_simp; try (with_reducible rfl)
        try simp only [Act.put, List.setIfInBounds_toArray, List.set_cons_zero, List.set_cons_succ]
        refine take_runs (i := 20) (v := ?_) (by simp only [List.getElem?_toArray, List.getElem?_cons_succ, List.getElem?_cons_zero]; rfl) (by kernel_rfl) (by kernel_rfl) (by kernel_rfl) rfl (by exact fun _ _ _ h => h) (by rfl) ?_ (by assumption) ?_
        rotate_left
        · intro w hSw; (try dsimp only at hSw); go_simp; try (with_reducible rfl)
        try simp only [Act.put, List.setIfInBounds_toArray, List.set_cons_zero, List.set_cons_succ]
        refine take_runs (i := 21) (v := ?_) (by simp only [List.getElem?_toArray, List.getElem?_cons_succ, List.getElem?_cons_zero]; rfl) (by kernel_rfl) (by kernel_rfl) (by kernel_rfl) rfl (by exact fun _ _ _ h => h) (by rfl) ?_ (by assumption) ?_
        rotate_left
        · intro w hSw; (try dsimp only at hSw); go_simp; try (with_reducible rfl)
        try simp only [Act.put, List.setIfInBounds_toArray, List.set_cons_zero, List.set_cons_succ]
        refine take_runs (i := 22) (v := ?_) (by simp only [List.getElem?_toArray, List.getElem?_cons_succ, List.getElem?_cons_zero]; rfl) (by kernel_rfl) (by kernel_rfl) (by kernel_rfl) rfl (by exact fun _ _ _ h => h) (by rfl) ?_ (by assumption) ?_
        rotate_left
        · intro w hSw; (try dsimp only at hSw); go_simp; try (with_reducible rfl)
        try simp only [Act.put, List.setIfInBounds_toArray, List.set_cons_zero, List.set_cons_succ]
        refine take_runs (i := 23) (v := ?_) (by simp only [List.getElem?_toArray, List.getElem?_cons_succ, List.getElem?_cons_zero]; rfl) (by kernel_rfl) (by kernel_rfl) (by kernel_rfl) rfl (by exact fun _ _ _ h => h) (by rfl) ?_ (by assumption) ?_
        rotate_left
        · intro w hSw; (try dsimp only at hSw); go_simp; try (with_reducible rfl)
        try simp only [Act.put, List.setIfInBounds_toArray, List.set_cons_zero, List.set_cons_succ]
        refine take_runs (i := 24) (v := ?_) (by simp only [List.getElem?_toArray, List.getElem?_cons_succ, List.getElem?_cons_zero]; rfl) (by kernel_rfl) (by kernel_rfl) (by kernel_rfl) rfl (by exact fun _ _ _ h => h) (by rfl) ?_ (by assumption) ?_
        rotate_left
        · intro w hSw; (try dsimp only at hSw); go_simp; try (with_reducible rfl)
        try simp only [Act.put, List.setIfInBounds_toArray, List.set_cons_zero, List.set_cons_succ]
        refine take_runs (i := 25) (v := ?_) (by simp only [List.getElem?_toArray, List.getElem?_cons_succ, List.getElem?_cons_zero]; rfl) (by kernel_rfl) (by kernel_rfl) (by kernel_rfl) rfl (by exact fun _ _ _ h => h) (by rfl) ?_ (by assumption) ?_
        rotate_left
        · intro w hSw; (try dsimp only at hSw); go_simp; try (with_reducible rfl)
        try simp only [Act.put, List.setIfInBounds_toArray, List.set_cons_zero, List.set_cons_succ]
        refine wpAnyH_ready (rs := [8]) (by kernel_rfl) (by simp) ?_
        refine AllReadyH.cons (o := _) (by simp only [List.getElem?_toArray, List.getElem?_cons_succ, List.getElem?_cons_zero]; rfl) (fun K hK => ?_) AllReadyH.nil
        go_simp
        refine (H1.out _).mono ?_
        rintro e x1 ⟨rfl, c1⟩
        have e1 := e0.trans (c1.mono e0.size)
        refine hK.out _ _ ⟨(e1.cell (p := ⟨w.heap.size, 2, none⟩) hz.out).trans q2, (e1.cell (p := ⟨b, off + k * 3, none⟩) hbh.out).trans hc1, (e1.cell (p := ⟨b, off + k * 3 + 1, none⟩) hbh.out).trans hc2, (e1.cell (p := ⟨b, off + k * 3 + 2, none⟩) hbh.out).trans hc3⟩ (fun hHeld => ?_)
        clear hK K
        try simp only [Act.put, List.setIfInBounds_toArray, List.set_cons_zero, List.set_cons_succ]
        refine take_runs (i := 9) (v := ?_) (by simp only [List.getElem?_toArray, List.getElem?_cons_succ, List.getElem?_cons_zero]; rfl) (by kernel_rfl) (by kernel_rfl) (by kernel_rfl) rfl (by exact fun _ _ _ h => h) (by rfl) ?_ (by assumption) ?_
        rotate_left
        · intro w hSw; (try dsimp only at hSw); go_simp; try (with_reducible rfl)
        try simp only [Act.put, List.setIfInBounds_toArray, List.set_cons_zero, List.set_cons_succ]
        refine take_runs (i := 10) (v := ?_) (by simp only [List.getElem?_toArray, List.getElem?_cons_succ, List.getElem?_cons_zero]; rfl) (by kernel_rfl) (by kernel_rfl) (by kernel_rfl) rfl (by exact fun _ _ _ h => h) (by rfl) ?_ (by assumption) ?_
        rotate_left
        · intro w hSw; (try dsimp only at hSw); go_simp; try (with_reducible rfl)
        try simp only [Act.put, List.setIfInBounds_toArray, List.set_cons_zero, List.set_cons_succ]
        refine wpAnyH_ready (rs := [17]) (by kernel_rfl) (by simp) ?_
        refine AllReadyH.cons (o := _) (by simp only [List.getElem?_toArray, List.getElem?_cons_succ, List.getElem?_cons_zero]; rfl) (fun K hK => ?_) AllReadyH.nil
        go_simp
        refine (H2.out _).mono ?_
        rintro e x2 ⟨rfl, c2⟩
        have e2 := e1.trans (c2.mono e1.size)
        refine hK.out _ _ ⟨(e2.cell (p := ⟨w.heap.size, 2, none⟩) hz.out).trans q2, (e2.cell (p := ⟨b, off + k * 3, none⟩) hbh.out).trans hc1, (e2.cell (p := ⟨b, off + k * 3 + 1, none⟩) hbh.out).trans hc2, (e2.cell (p := ⟨b, off + k * 3 + 2, none⟩) hbh.out).trans hc3⟩ (fun hHeld => ?_)
        clear hK K
        try simp only [Act.put, List.setIfInBounds_toArray, List.set_cons_zero, List.set_cons_succ]
        refine take_runs (i := 18) (v := ?_) (by simp only [List.getElem?_toArray, List.getElem?_cons_succ, List.getElem?_cons_zero]; rfl) (by kernel_rfl) (by kernel_rfl) (by kernel_rfl) rfl (by exact fun _ _ _ h => h) (by rfl) ?_ (by assumption) ?_
        rotate_left
        · intro w hSw; (try dsimp only at hSw); go_simp; try (with_reducible rfl)
        try simp only [Act.put, List.setIfInBounds_toArray, List.set_cons_zero, List.set_cons_succ]
        refine take_runs (i := 19) (v := ?_) (by simp only [List.getElem?_toArray, List.getElem?_cons_succ, List.getElem?_cons_zero]; rfl) (by kernel_rfl) (by kernel_rfl) (by kernel_rfl) rfl (by exact fun _ _ _ h => h) (by rfl) ?_ (by assumption) ?_
        rotate_left
        · intro w hSw; (try dsimp only at hSw); go_simp; try (with_reducible rfl)
        try simp only [Act.put, List.setIfInBounds_toArray, List.set_cons_zero, List.set_cons_succ]
        refine wpAnyH_ready (rs := [26]) (by kernel_rfl) (by simp) ?_
        refine AllReadyH.cons (o := _) (by simp only [List.getElem?_toArray, List.getElem?_cons_succ, List.getElem?_cons_zero]; rfl) (fun K hK => ?_) AllReadyH.nil
        go_simp
        refine (H3.out _).mono ?_
        rintro e x3 ⟨rfl, c3⟩
        have e3 := e2.trans (c3.mono e2.size)
        refine hK.out _ _ ⟨(e3.cell (p := ⟨w.heap.size, 2, none⟩) hz.out).trans q2, (e3.cell (p := ⟨b, off + k * 3, none⟩) hbh.out).trans hc1, (e3.cell (p := ⟨b, off + k * 3 + 1, none⟩) hbh.out).trans hc2, (e3.cell (p := ⟨b, off + k * 3 + 2, none⟩) hbh.out).trans hc3⟩ (fun hHeld => ?_)
        clear hK K
        try simp only [Act.put, List.setIfInBounds_toArray, List.set_cons_zero, List.set_cons_succ]
        refine take_runs (i := 27) (v := ?_) (by simp only [List.getElem?_toArray, List.getElem?_cons_succ, List.getElem?_cons_zero]; rfl) (by kernel_rfl) (by kernel_rfl) (by kernel_rfl) rfl (by exact fun _ _ _ h => h) (by rfl) ?_ (by assumption) ?_
        rotate_left
        · intro w hSw; (try dsimp only at hSw); go_simp; try (with_reducible rfl)
        try simp only [Act.put, List.setIfInBounds_toArray, List.set_cons_zero, List.set_cons_succ]
        refine take_runs (i := 28) (v := ?_) (by simp only [List.getElem?_toArray, List.getElem?_cons_succ, List.getElem?_cons_zero]; rfl) (by kernel_rfl) (by kernel_rfl) (by kernel_rfl) rfl (by exact fun _ _ _ h => h) (by rfl) ?_ (by assumption) ?_
        rotate_left
        · intro w hSw; (try dsimp only at hSw); go_simp; try (with_reducible rfl)
        try simp only [Act.put, List.setIfInBounds_toArray, List.set_cons_zero, List.set_cons_succ]
        refine wpAnyH_done (by kernel_rfl) ?_ _
        have b9 := hbel.trans (e3.mono hbel.size)
        clear hHeld e0 e1 e2 e3 c1 c2 c3 d1 d2 d3 d4 d5 d6 hc1 hc2 hc3 q2 q3
        go_wp2
        go_roundw
        case rel => exact ⟨k + 1, _, by omega, by go_num, rfl, Lib.hid (by rw [hst.out, HEQ.out]), HLEN.out, b9⟩
        case measure => simp [intOf]; omega
      · obtain rfl : k = cs.length := by omega
        have hO := Lib.hid (ints_below HO.out hbel)
        obtain ⟨t7, ht7⟩ : ∃ t7, t7 = t ++ [32, 111, 117, 116, 32] := ⟨_, rfl⟩
        have d7 : ∀ w, (Op.stringOp .add (strB t) ⟨#[32, 111, 117, 116, 32]⟩).run Tryz.prog w = .ok (.string (strB t7)) w := by rw [ht7]; exact strB_add t [32, 111, 117, 116, 32] (by simp only [List.length_cons, List.length_nil]; omega)
        have h7 : t7.length ≤ 300 := by rw [ht7, List.length_append]; simp only [List.length_cons, List.length_nil]; omega
        have HFF : Hid (fmtQ id tn cs os = t7 ++ listTo os os.length) := Lib.hid (by rw [HF.out, ht7, hT.out])
        clear ht7
        go_wp2_with fail
        refine (HL.out _ hO.out).mono ?_
        rintro e x1 ⟨rfl, c1, hl⟩
        have d8 := strB_add t7 (listTo os os.length) (by have := HOL.out; omega)
        have b9 := hbel.trans (c1.mono hbel.size)
        clear d7
        go_wp2
        go_ret
        exact ⟨ret_s HFF.out.symm, HB0.out.trans (b9.mono HB0.out.size)⟩
end Go.Proofs.YteelgogfpidcdaaGreatDoor
namespace Go.Proofs.YteelgogfpidcdaaGreatDoor
open Go.RowKit
set_option linter.unusedVariables false
set_option linter.unusedSimpArgs false
/-- A query's data: number, tenant, conditions, fields. -/
abbrev QD := Int × Int × List CondD × List Int
def q0D : QD := (0, 0, [], [])
/-- The slice v reads as the queries qs. -/
def QueriesR (w : World) (v : Value) (qs : List QD) : Prop :=
  (qs = [] ∧ ∃ a cap, v = .slice a 0 cap) ∨ ∃ (b off cap : Nat) (vs us : Nat → Value), v = .slice (some ⟨b, off, none⟩) qs.length cap ∧ qs.length ≤ cap ∧ b < w.heap.size ∧
    ∀ j, j < qs.length → w.cell? ⟨b, off + j * 4, none⟩ = some (.int .i64 (qs.getD j q0D).1) ∧ w.cell? ⟨b, off + j * 4 + 1, none⟩ = some (.int .i64 (qs.getD j q0D).2.1) ∧ w.cell? ⟨b, off + j * 4 + 2, none⟩ = some (vs j) ∧ w.cell? ⟨b, off + j * 4 + 3, none⟩ = some (us j) ∧
      CondsR w (vs j) (qs.getD j q0D).2.2.1 ∧ Ints w (us j) (qs.getD j q0D).2.2.2
theorem queriesR_len {w : World} {v : Value} {qs : List QD} (h : QueriesR w v qs) : ∃ a cap, v = .slice a qs.length cap := by
  rcases h with ⟨rfl, a, cap, rfl⟩ | ⟨b, off, cap, vs, us, rfl, _⟩
  · exact ⟨a, cap, rfl⟩
  · exact ⟨_, cap, rfl⟩
theorem queriesR_below {W w : World} {v : Value} {qs : List QD} (h : QueriesR W v qs) (hb : Below W.heap.size W w) : QueriesR w v qs := by
  rcases h with h | ⟨b, off, cap, vs, us, h1, h2, h3, h4⟩
  · exact Or.inl h
  · refine Or.inr ⟨b, off, cap, vs, us, h1, h2, Nat.lt_of_lt_of_le h3 hb.size, fun j hj => ?_⟩
    obtain ⟨g1, g2, g3, g4, g5, g6⟩ := h4 j hj
    exact ⟨(hb.cell (p := ⟨b, off + j * 4, none⟩) h3).trans g1, (hb.cell (p := ⟨b, off + j * 4 + 1, none⟩) h3).trans g2, (hb.cell (p := ⟨b, off + j * 4 + 2, none⟩) h3).trans g3, (hb.cell (p := ⟨b, off + j * 4 + 3, none⟩) h3).trans g4, condsR_below g5 hb, ints_below g6 hb⟩
theorem queriesR_at {w : World} {v : Value} {qs : List QD} (h : QueriesR w v qs) {k : Nat} (hk : k < qs.length) : ∃ (b off cap : Nat) (cv ov : Value), v = .slice (some ⟨b, off, none⟩) qs.length cap ∧ b < w.heap.size ∧
    w.cell? ⟨b, off + k * 4, none⟩ = some (.int .i64 (qs.getD k q0D).1) ∧ w.cell? ⟨b, off + k * 4 + 1, none⟩ = some (.int .i64 (qs.getD k q0D).2.1) ∧ w.cell? ⟨b, off + k * 4 + 2, none⟩ = some cv ∧ w.cell? ⟨b, off + k * 4 + 3, none⟩ = some ov ∧
    CondsR w cv (qs.getD k q0D).2.2.1 ∧ Ints w ov (qs.getD k q0D).2.2.2 := by
  rcases h with ⟨rfl, _⟩ | ⟨b, off, cap, vs, us, h1, h2, h3, h4⟩
  · simp at hk
  · obtain ⟨g1, g2, g3, g4, g5, g6⟩ := h4 k hk
    exact ⟨b, off, cap, vs k, us k, h1, h3, g1, g2, g3, g4, g5, g6⟩
/-- How many conditions, fields and elements the first k queries hold. -/
def szQTo (qs : List QD) (k : Nat) : Nat := qs.length + ((qs.take k).map fun q => q.2.2.1.length + q.2.2.2.length).sum
def szQL (qs : List QD) : Nat := szQTo qs qs.length
theorem szQTo_zero (qs : List QD) : szQTo qs 0 = qs.length := by simp [szQTo]
theorem szQTo_step {qs : List QD} {k : Nat} (hk : k < qs.length) : szQTo qs (k + 1) = szQTo qs k + ((qs.getD k q0D).2.2.1.length + (qs.getD k q0D).2.2.2.length) := by
  unfold szQTo
  have e : qs.getD k q0D = qs[k] := by simp [List.getD, hk]
  rw [e, List.take_succ_eq_append_getElem hk, List.map_append, List.sum_append]
  simp; omega
theorem szQTo_le {qs : List QD} {k : Nat} (hk : k ≤ qs.length) : szQTo qs k ≤ szQL qs := by
  unfold szQL szQTo
  have h2 : (qs.map fun q : QD => q.2.2.1.length + q.2.2.2.length).sum = ((qs.take k).map fun q => q.2.2.1.length + q.2.2.2.length).sum + ((qs.drop k).map fun q => q.2.2.1.length + q.2.2.2.length).sum := by
    rw [← List.sum_append, ← List.map_append, List.take_append_drop]
  rw [List.take_length, h2]
  omega
theorem szQL_at {qs : List QD} (hs : szQL qs ≤ 1048576) {k : Nat} (hk : k < qs.length) : (qs.getD k q0D).2.2.1.length ≤ 1048576 ∧ (qs.getD k q0D).2.2.2.length ≤ 1048576 := by
  have h1 := szQTo_step hk
  have h2 := szQTo_le (qs := qs) (k := k + 1) (by omega)
  omega
theorem szQL_len {qs : List QD} (hs : szQL qs ≤ 1048576) : qs.length ≤ 1048576 := by
  have := szQTo_le (qs := qs) (Nat.zero_le _); rw [szQTo_zero] at this; omega
end Go.Proofs.YteelgogfpidcdaaGreatDoor
namespace Go.Proofs.YteelgogfpidcdaaGreatDoor
open Go.RowKit
set_option linter.unusedVariables false
set_option linter.unusedSimpArgs false
/-- The condition that two pieces say. -/
def condOf (P : List (List UInt8)) (j : Nat) : CondD := (aftL 102 (P.getD (2 + 2 * j) []), rngL (P.getD (3 + 2 * j) []))
/-- What the pieces of a text say, whether it is a query's text or not. -/
def queryOfP (P : List (List UInt8)) : QD := (aftL 113 (P.getD 0 []), aftL 116 (P.getD 1 []), (List.range ((P.length - 4) / 2)).map (condOf P), (cutL 44 (P.getD (P.length - 1) [])).map numL)
def fmtQD (q : QD) : List UInt8 := fmtQ q.1 q.2.1 q.2.2.1 q.2.2.2
def parQ (l : List UInt8) : QD × Bool := if (cutL 32 l).length < 4 ∨ fmtQD (queryOfP (cutL 32 l)) ≠ l then (q0D, false) else (queryOfP (cutL 32 l), true)
theorem parQ_no {l : List UInt8} (h : (cutL 32 l).length < 4 ∨ fmtQD (queryOfP (cutL 32 l)) ≠ l) : parQ l = (q0D, false) := if_pos h
theorem parQ_yes {l : List UInt8} (h1 : ¬ (cutL 32 l).length < 4) (h2 : fmtQD (queryOfP (cutL 32 l)) = l) : parQ l = (queryOfP (cutL 32 l), true) := if_neg (fun g => g.elim h1 (fun h => h h2))
theorem conds_next (P : List (List UInt8)) (j : Nat) : (List.range j).map (condOf P) ++ [condOf P j] = (List.range (j + 1)).map (condOf P) := by simp [List.range_succ]
/-- The loop over the pieces goes on just as long as conditions are left. -/
theorem cond_more {n j : Nat} (h : 4 ≤ n) : (2 + 2 * j + 1 < n - 2) ↔ j < (n - 4) / 2 := by omega
theorem queryOf_len (P : List (List UInt8)) : (queryOfP P).2.2.1.length = (P.length - 4) / 2 := by simp [queryOfP]
/-- What is accepted is a query. -/
theorem parQ_query {l : List UInt8} (h0 : l ≠ []) (h : (parQ l).2 = true) : queryB (parQ l).1.1 (parQ l).1.2.1 (parQ l).1.2.2.1 (parQ l).1.2.2.2 = true ∧ fmtQD (parQ l).1 = l := by
  unfold parQ at h ⊢
  split at h
  · exact Bool.noConfusion h
  · rename_i hn
    rw [if_neg hn]
    have he : fmtQD (queryOfP (cutL 32 l)) = l := Classical.byContradiction (fun g => hn (Or.inr g))
    refine ⟨?_, he⟩
    simp only
    unfold fmtQD fmtQ at he
    by_cases hq : queryB (queryOfP (cutL 32 l)).1 (queryOfP (cutL 32 l)).2.1 (queryOfP (cutL 32 l)).2.2.1 (queryOfP (cutL 32 l)).2.2.2 = true
    · exact hq
    · rw [if_neg hq] at he
      exact absurd he.symm h0
end Go.Proofs.YteelgogfpidcdaaGreatDoor
namespace Go.Proofs.YteelgogfpidcdaaGreatDoor
open Go.RowKit
set_option linter.unusedVariables false
theorem cutGo_no {b : UInt8} : ∀ (l p : List UInt8), b ∉ l → cutGo b p l = [p ++ l] := by
  intro l
  induction l with
  | nil => intro p _; simp [cutGo]
  | cons c r ih =>
    intro p h
    rw [List.mem_cons, not_or] at h
    unfold cutGo
    rw [if_neg (fun e => h.1 e.symm), ih _ h.2]
    simp
theorem cutGo_app {b : UInt8} : ∀ (a p l : List UInt8), b ∉ a → cutGo b p (a ++ b :: l) = (p ++ a) :: cutGo b [] l := by
  intro a
  induction a with
  | nil => intro p l _; simp [cutGo]
  | cons c r ih =>
    intro p l h
    rw [List.mem_cons, not_or] at h
    rw [List.cons_append]
    show (if c = b then _ else cutGo b (p ++ [c]) (r ++ b :: l)) = _
    rw [if_neg (fun e => h.1 e.symm), ih _ _ h.2]
    simp
theorem cutL_no {b : UInt8} {l : List UInt8} (h : b ∉ l) : cutL b l = [l] := by unfold cutL; rw [cutGo_no l [] h]; rfl
theorem cutL_app {b : UInt8} {a : List UInt8} (l : List UInt8) (h : b ∉ a) : cutL b (a ++ b :: l) = a :: cutL b l := by unfold cutL; rw [cutGo_app a [] l h]; rfl
theorem index_cases (l : List UInt8) (c : UInt8) : (c ∉ l ∧ Lib.indexByte l c = -1) ∨ ∃ a r, l = a ++ c :: r ∧ c ∉ a ∧ Lib.indexByte l c = (a.length : Int) := by
  induction l with
  | nil => left; exact ⟨by simp, rfl⟩
  | cons b l ih =>
    by_cases h : b = c
    · right; exact ⟨[], l, by rw [h]; rfl, by simp, by unfold Lib.indexByte; rw [if_pos (by simpa using h)]; rfl⟩
    · have hb : (b == c) = false := by rw [beq_eq_false_iff_ne]; exact h
      rcases ih with ⟨h1, h2⟩ | ⟨a, r, h1, h2, h3⟩
      · left
        refine ⟨by rw [List.mem_cons, not_or]; exact ⟨fun e => h e.symm, h1⟩, ?_⟩
        unfold Lib.indexByte; rw [hb, h2]; rfl
      · right
        refine ⟨b :: a, r, by rw [h1]; rfl, by rw [List.mem_cons, not_or]; exact ⟨fun e => h e.symm, h2⟩, ?_⟩
        unfold Lib.indexByte
        rw [hb, h3]
        have : ((a.length : Int) == -1) = false := by rw [beq_eq_false_iff_ne]; omega
        rw [this]
        simp
/-! ### Numerals -/
theorem parI_is {l : List UInt8} (h : (parI l).2 = true) : Lib.itoa (parI l).1 = l := by
  unfold parI at h ⊢
  by_cases hc : Lib.itoa (sval l) = l ∧ dcnt l ≤ 9
  · rw [if_pos hc]; exact hc.1
  · rw [if_neg hc] at h; cases h
theorem itoa_dig {n : Int} (h : 0 ≤ n) : ∀ b ∈ Lib.itoa n, dig b = true := by
  unfold Lib.itoa
  rw [if_neg (by omega)]
  exact (digits_dec n.toNat).2
theorem dig_no45 : dig 45 = false := by decide
theorem dig_no32 : dig 32 = false := by decide
theorem itoa_no {n : Int} (h : 0 ≤ n) {c : UInt8} (hc : dig c = false) : c ∉ Lib.itoa n := fun g => by
  have := itoa_dig h c g; rw [hc] at this; cases this
theorem parI_minus {l : List UInt8} (hm : (45 : UInt8) ∈ l) (h : (parI l).2 = true) : (parI l).1 < 0 := by
  apply Int.not_le.1
  intro g
  have e := parI_is h
  rw [← e] at hm
  exact itoa_no g dig_no45 hm
theorem parI_itoa {n : Int} (h0 : 0 ≤ n) (h1 : n ≤ 23) : parI (Lib.itoa n) = (n, true) := by
  obtain ⟨u, rfl⟩ := Int.eq_ofNat_of_zero_le h0
  have hi : Lib.itoa (u : Int) = Lib.decDigits u := by unfold Lib.itoa; rw [if_neg (by omega), Int.toNat_natCast]
  have hneg : neg (Lib.itoa (u : Int)) = false := by
    cases hn : neg (Lib.itoa (u : Int)) with
    | false => rfl
    | true =>
      obtain ⟨r, hr⟩ := neg_cons hn
      exact absurd (by rw [hr]; exact List.mem_cons_self ..) (itoa_no (n := (u : Int)) (by omega) dig_no45)
  have hs : sval (Lib.itoa (u : Int)) = (u : Int) := by
    unfold sval
    rw [hneg, hi, (digits_dec u).1]
    rfl
  have hlen : (Lib.decDigits u).length ≤ 9 := by
    by_cases h : u < 10
    · rw [Lib.decDigits_one h]; simp
    · rw [Lib.decDigits, dif_neg h, List.length_append, Lib.decDigits_one (by omega)]; simp
  have hd : dcnt (Lib.itoa (u : Int)) ≤ 9 := by rw [hi]; exact Nat.le_trans (dcnt_le _) hlen
  exact (parI_ok (by rw [hs]) hd).trans (by rw [hs])
theorem numL_itoa {n : Int} (h0 : 0 ≤ n) (h1 : n ≤ 23) : numL (Lib.itoa n) = n := by unfold numL; rw [parI_itoa h0 h1]; rfl
theorem numL_yes {q : List UInt8} (h : (parI q).2 = true) : numL q = (parI q).1 := by unfold numL; rw [h]; rfl
theorem numL_no {q : List UInt8} (h : ¬ (parI q).2 = true) : numL q = -100000 := by unfold numL; rw [if_neg h]
theorem parI_itoa3 {n : Int} (h0 : 0 ≤ n) (h1 : n ≤ 999) : parI (Lib.itoa n) = (n, true) := by
  obtain ⟨u, rfl⟩ := Int.eq_ofNat_of_zero_le h0
  have hi : Lib.itoa (u : Int) = Lib.decDigits u := by unfold Lib.itoa; rw [if_neg (by omega), Int.toNat_natCast]
  have hneg : neg (Lib.itoa (u : Int)) = false := by
    cases hn : neg (Lib.itoa (u : Int)) with
    | false => rfl
    | true =>
      obtain ⟨r, hr⟩ := neg_cons hn
      exact absurd (by rw [hr]; exact List.mem_cons_self ..) (itoa_no (n := (u : Int)) (by omega) dig_no45)
  have hs : sval (Lib.itoa (u : Int)) = (u : Int) := by
    unfold sval
    rw [hneg, hi, (digits_dec u).1]
    rfl
  have two : ∀ q : Nat, q ≤ 99 → (Lib.decDigits q).length ≤ 2 := fun q hq => by
    by_cases h : q < 10
    · rw [Lib.decDigits_one h]; simp
    · rw [Lib.decDigits, dif_neg h, List.length_append, Lib.decDigits_one (by omega)]; simp
  have hlen : (Lib.decDigits u).length ≤ 9 := by
    by_cases h : u < 10
    · rw [Lib.decDigits_one h]; simp
    · rw [Lib.decDigits, dif_neg h, List.length_append]
      have := two (u / 10) (by omega)
      simp; omega
  have hd : dcnt (Lib.itoa (u : Int)) ≤ 9 := by rw [hi]; exact Nat.le_trans (dcnt_le _) hlen
  exact (parI_ok (by rw [hs]) hd).trans (by rw [hs])
theorem numL_itoa3 {n : Int} (h0 : 0 ≤ n) (h1 : n ≤ 999) : numL (Lib.itoa n) = n := by unfold numL; rw [parI_itoa3 h0 h1]; rfl
theorem dig_no44 : dig 44 = false := by decide
theorem dig_no58 : dig 58 = false := by decide
theorem strB_take (a b : List UInt8) : (strB (a ++ b)).extract 0 a.length = strB a := by
  apply ByteArray.ext
  apply Array.ext'
  simp only [ByteArray.data_extract, Array.toList_extract, strB]
  rw [List.extract_eq_take_drop]
  simp
theorem strB_drop (a : List UInt8) (c : UInt8) (b : List UInt8) : (strB (a ++ c :: b)).extract (a.length + 1) (a ++ c :: b).length = strB b := by
  apply ByteArray.ext
  apply Array.ext'
  simp only [ByteArray.data_extract, Array.toList_extract, strB]
  rw [List.extract_eq_take_drop, show a ++ c :: b = (a ++ [c]) ++ b by simp]
  rw [List.drop_left' (by simp), List.take_of_length_le (by simp; omega)]
theorem triple {a b c d : List UInt8} {x : Bool} (h1 : a = b) (h2 : c = d) : Ending.returned (.tuple #[.string (strB a), .string (strB c), .bool x]) = .returned (.tuple #[.string (strB b), .string (strB d), .bool x]) := by rw [h1, h2]
theorem triple' {u v : ByteArray} {c d : List UInt8} {x : Bool} (h1 : u = strB c) (h2 : v = strB d) : Ending.returned (.tuple #[.string u, .string v, .bool x]) = .returned (.tuple #[.string (strB c), .string (strB d), .bool x]) := by rw [h1, h2]
end Go.Proofs.YteelgogfpidcdaaGreatDoor
namespace Go.Proofs.YteelgogfpidcdaaGreatDoor
open Go.RowKit
set_option linter.unusedVariables false
/-- The row that the pieces of a text name. -/
def rowOf (l : List UInt8) : RowD := (numL ((cutL 58 l).getD 0 []), if (cutL 58 l).length = 2 then (cutL 44 ((cutL 58 l).getD 1 [])).map numL else [])
def parRow (l : List UInt8) : RowD × Bool := if l = [] ∨ fmtRow (rowOf l) ≠ l then ((0, []), false) else (rowOf l, true)
theorem parRow_false {l : List UInt8} (h : ¬ (parRow l).2 = true) : parRow l = ((0, []), false) := by
  unfold parRow at h ⊢
  by_cases hc : l = [] ∨ fmtRow (rowOf l) ≠ l
  · rw [if_pos hc]
  · rw [if_neg hc] at h; exact absurd rfl h
theorem parRow_no {l : List UInt8} (h : l = [] ∨ fmtRow (rowOf l) ≠ l) : parRow l = ((0, []), false) := if_pos h
theorem parRow_yes {l : List UInt8} (h1 : ¬ l = []) (h2 : fmtRow (rowOf l) = l) : parRow l = (rowOf l, true) := if_neg (fun g => g.elim h1 (fun h => h h2))
/-- The pieces joined again. -/
def glueL (b : UInt8) : List (List UInt8) → List UInt8
  | [] => []
  | [p] => p
  | p :: q :: r => p ++ b :: glueL b (q :: r)
theorem glueL_cons (b : UInt8) (p : List UInt8) {r : List (List UInt8)} (h : r ≠ []) : glueL b (p :: r) = p ++ b :: glueL b r := by
  cases r with
  | nil => exact absurd rfl h
  | cons q r => rfl
theorem glue_cutGo (b : UInt8) : ∀ (l p : List UInt8), glueL b (cutGo b p l) = p ++ l := by
  intro l
  induction l with
  | nil => intro p; simp [cutGo, glueL]
  | cons c r ih =>
    intro p
    unfold cutGo
    split
    · rename_i hc
      have hne : cutGo b [] r ≠ [] := fun e => by have := cutGo_pos b r []; rw [e] at this; simp at this
      rw [glueL_cons b p hne, ih []]
      rw [List.nil_append, ← hc]
    · rw [ih]; simp
theorem glue_cut (b : UInt8) (l : List UInt8) : glueL b (cutL b l) = l := by unfold cutL; rw [glue_cutGo]; rfl
theorem glue_mem {b c : UInt8} (hbc : c ≠ b) : ∀ ps : List (List UInt8), c ∈ glueL b ps → ∃ p ∈ ps, c ∈ p
  | [], h => by simp [glueL] at h
  | [p], h => ⟨p, List.mem_cons_self .., h⟩
  | p :: q :: r, h => by
    rw [glueL_cons b p (by simp), List.mem_append, List.mem_cons] at h
    rcases h with h | h | h
    · exact ⟨p, List.mem_cons_self .., h⟩
    · exact absurd h hbc
    · obtain ⟨x, hx, hc⟩ := glue_mem hbc (q :: r) h
      exact ⟨x, List.mem_cons_of_mem _ hx, hc⟩
/-- What the program asks of a text: a and b are what stands ahead of its first colon and behind it. -/
def rowOk (a b : List UInt8) : Prop := (parI a).2 = true ∧ (∀ p ∈ cutL 44 b, (parI p).2 = true) ∧ rowB ((parI a).1, (cutL 44 b).map numL) = true
theorem three_of {xs : List Int} (h : xs.length = 3) : ∃ x y z, xs = [x, y, z] := by
  match xs, h with
  | [x, y, z], _ => exact ⟨x, y, z, rfl⟩
theorem pieces_text {b : List UInt8} (h1 : ∀ p ∈ cutL 44 b, (parI p).2 = true) (h3 : ((cutL 44 b).map numL).length = 3) : listTo ((cutL 44 b).map numL) ((cutL 44 b).map numL).length = b := by
  have hg := glue_cut 44 b
  generalize cutL 44 b = ps at *
  match ps, h3 with
  | [p, q, r], _ =>
    have e1 := parI_is (h1 p (by simp))
    have e2 := parI_is (h1 q (by simp))
    have e3 := parI_is (h1 r (by simp))
    have n1 := numL_yes (h1 p (by simp))
    have n2 := numL_yes (h1 q (by simp))
    have n3 := numL_yes (h1 r (by simp))
    rw [← hg]
    simp [listTo, glueL, n1, n2, n3, e1, e2, e3]
theorem row_acc {l a b : List UInt8} (hl : l = a ++ 58 :: b) (ha : (58 : UInt8) ∉ a) (h : rowOk a b) : parRow l = (((parI a).1, (cutL 44 b).map numL), true) := by
  obtain ⟨h1, h2, h3⟩ := h
  obtain ⟨⟨i0, i1⟩, hl3, hv⟩ := row_parts h3
  have hb : (58 : UInt8) ∉ b := by
    intro g
    rw [← glue_cut 44 b] at g
    obtain ⟨p, hp, hc⟩ := glue_mem (by decide) _ g
    have hpos : 0 ≤ (parI p).1 := by
      obtain ⟨k, hk, hkp⟩ := List.getElem_of_mem hp
      have := (hv k (by simpa using hk)).1
      have e : ((cutL 44 b).map numL).getD k 0 = numL p := by simp [List.getD, hk, hkp]
      rw [e, numL_yes (h2 p hp)] at this
      exact this
    rw [← parI_is (h2 p hp)] at hc
    exact itoa_no hpos dig_no58 hc
  have hc : cutL 58 l = [a, b] := by rw [hl, cutL_app b ha, cutL_no hb]
  have hr : rowOf l = ((parI a).1, (cutL 44 b).map numL) := by
    unfold rowOf
    rw [hc]
    simp [numL_yes h1]
  have hf : fmtRow (rowOf l) = l := by
    rw [hr]
    unfold fmtRow
    rw [h3]
    simp only [if_true]
    rw [parI_is h1, pieces_text h2 hl3, hl]
    simp
  rw [parRow_yes (by rw [hl]; simp) hf, hr]
theorem split_one {c : UInt8} : ∀ {a a' b b' : List UInt8}, c ∉ a → c ∉ a' → a ++ c :: b = a' ++ c :: b' → a = a' ∧ b = b'
  | [], [], b, b', _, _, h => by simp at h; exact ⟨rfl, h⟩
  | [], x :: a', b, b', _, h2, h => by simp at h; exact absurd (by rw [h.1]; exact List.mem_cons_self ..) h2
  | x :: a, [], b, b', h1, _, h => by simp at h; exact absurd (by rw [h.1]; exact List.mem_cons_self ..) h1
  | x :: a, y :: a', b, b', h1, h2, h => by
    simp only [List.cons_append, List.cons.injEq] at h
    obtain ⟨rfl, h⟩ := h
    obtain ⟨rfl, rfl⟩ := split_one (fun g => h1 (List.mem_cons_of_mem _ g)) (fun g => h2 (List.mem_cons_of_mem _ g)) h
    exact ⟨rfl, rfl⟩
theorem acc_parts {l : List UInt8} (h : (parRow l).2 = true) : ∃ a b, l = a ++ 58 :: b ∧ (58 : UInt8) ∉ a ∧ rowOk a b := by
  have hc : ¬ (l = [] ∨ fmtRow (rowOf l) ≠ l) := fun g => by rw [parRow_no g] at h; exact Bool.noConfusion h
  rw [not_or] at hc
  obtain ⟨hne, hf⟩ := hc
  have hf : fmtRow (rowOf l) = l := Classical.byContradiction hf
  generalize rowOf l = r at hf
  obtain ⟨id, xs⟩ := r
  unfold fmtRow at hf
  cases hb : rowB (id, xs) with
  | false => rw [hb] at hf; exact absurd hf.symm hne
  | true =>
    rw [hb] at hf
    simp only [if_true] at hf
    have hb' := hb
    obtain ⟨⟨i0, i1⟩, hl3, hv⟩ := row_parts hb'
    obtain ⟨x, y, z, rfl⟩ := three_of hl3
    have v0 := hv 0 (by simp)
    have v1 := hv 1 (by simp)
    have v2 := hv 2 (by simp)
    simp at v0 v1 v2
    refine ⟨Lib.itoa id, listTo [x, y, z] 3, by rw [← hf]; simp, itoa_no i0 dig_no58, ?_⟩
    have hcut : cutL 44 (listTo [x, y, z] 3) = [Lib.itoa x, Lib.itoa y, Lib.itoa z] := by
      have : listTo [x, y, z] 3 = Lib.itoa x ++ 44 :: (Lib.itoa y ++ 44 :: Lib.itoa z) := by simp [listTo]
      rw [this, cutL_app _ (itoa_no v0.1 dig_no44), cutL_app _ (itoa_no v1.1 dig_no44), cutL_no (itoa_no v2.1 dig_no44)]
    refine ⟨by rw [parI_itoa3 i0 i1], ?_, ?_⟩
    · rw [hcut]
      intro p hp
      simp at hp
      rcases hp with rfl | rfl | rfl
      · rw [parI_itoa3 v0.1 (by omega)]
      · rw [parI_itoa3 v1.1 (by omega)]
      · rw [parI_itoa3 v2.1 (by omega)]
    · rw [hcut]
      simp only [List.map_cons, List.map_nil]
      rw [numL_itoa3 v0.1 (by omega), numL_itoa3 v1.1 (by omega), numL_itoa3 v2.1 (by omega), parI_itoa3 i0 i1]
      exact hb
theorem row_rej {l a b : List UInt8} (hl : l = a ++ 58 :: b) (ha : (58 : UInt8) ∉ a) (h : ¬ rowOk a b) : parRow l = ((0, []), false) := by
  refine parRow_false fun g => h ?_
  obtain ⟨a', b', hl', ha', hok⟩ := acc_parts g
  obtain ⟨rfl, rfl⟩ := split_one ha ha' (hl.symm.trans hl')
  exact hok
theorem row_none {l : List UInt8} (h : (58 : UInt8) ∉ l) : parRow l = ((0, []), false) := by
  refine parRow_false fun g => h ?_
  obtain ⟨a, b, rfl, _, _⟩ := acc_parts g
  simp
theorem parRow_len (l : List UInt8) : (parRow l).1.2.length ≤ 3 := by
  cases h : (parRow l).2 with
  | false => rw [parRow_false (by rw [h]; simp)]; simp
  | true =>
    obtain ⟨a, b, hl, ha, hok⟩ := acc_parts h
    rw [row_acc hl ha hok]
    have := (row_parts hok.2.2).2.1
    simp at this ⊢
    omega
/-- The program's numbers of a list of pieces. -/
def intsGo : List Int → List (List UInt8) → Option (List Int)
  | acc, [] => some acc
  | acc, p :: r => if (parI p).2 = true then intsGo (acc ++ [(parI p).1]) r else none
theorem intsGo_hit {acc : List Int} {P : List (List UInt8)} {k : Nat} (hk : k < P.length) (h : (parI (P.getD k [])).2 = true) : intsGo acc (P.drop k) = intsGo (acc ++ [(parI (P.getD k [])).1]) (P.drop (k + 1)) := by
  rw [List.drop_eq_getElem_cons hk]
  have e : P.getD k [] = P[k] := by simp [List.getD, hk]
  rw [e] at h ⊢
  show (if (parI P[k]).2 = true then _ else _) = _
  rw [if_pos h]
theorem intsGo_miss {acc : List Int} {P : List (List UInt8)} {k : Nat} (hk : k < P.length) (h : (parI (P.getD k [])).2 = false) : intsGo acc (P.drop k) = none := by
  rw [List.drop_eq_getElem_cons hk]
  have e : P.getD k [] = P[k] := by simp [List.getD, hk]
  rw [e] at h
  show (if (parI P[k]).2 = true then _ else _) = _
  rw [if_neg (by rw [h]; simp)]
theorem intsGo_all : ∀ (P : List (List UInt8)) (acc : List Int), (∀ p ∈ P, (parI p).2 = true) → intsGo acc P = some (acc ++ P.map numL)
  | [], acc, _ => by simp [intsGo]
  | p :: r, acc, h => by
    have hp := h p (List.mem_cons_self ..)
    unfold intsGo
    rw [if_pos hp, intsGo_all r _ (fun q hq => h q (List.mem_cons_of_mem _ hq))]
    simp [numL_yes hp]
theorem intsGo_some : ∀ (P : List (List UInt8)) (acc xs : List Int), intsGo acc P = some xs → (∀ p ∈ P, (parI p).2 = true) ∧ xs = acc ++ P.map numL
  | [], acc, xs, h => by simp [intsGo] at h; subst h; simp
  | p :: r, acc, xs, h => by
    unfold intsGo at h
    by_cases hp : (parI p).2 = true
    · rw [if_pos hp] at h
      obtain ⟨h1, h2⟩ := intsGo_some r _ xs h
      refine ⟨fun q hq => ?_, by rw [h2]; simp [numL_yes hp]⟩
      rcases List.mem_cons.1 hq with rfl | hq
      · exact hp
      · exact h1 q hq
    · rw [if_neg hp] at h; cases h
theorem intsGo_none {P : List (List UInt8)} (h : intsGo [] P = none) : ¬ ∀ p ∈ P, (parI p).2 = true := fun g => by
  rw [intsGo_all P [] g] at h; cases h
end Go.Proofs.YteelgogfpidcdaaGreatDoor
namespace Go.Proofs.YteelgogfpidcdaaGreatDoor
open Go.RowKit
set_option linter.unusedVariables false
set_option linter.unusedSimpArgs false
theorem ix_no {b : UInt8} : ∀ {l : List UInt8}, b ∉ l → Lib.index l [b] = -1
  | [], _ => rfl
  | c :: l, h => by
    have h1 : ¬ b = c := fun e => h (by simp [e])
    have h2 := ix_no (l := l) (fun g => h (List.mem_cons_of_mem _ g))
    unfold Lib.index
    rw [if_neg (by simp [h1]), if_pos (by rw [h2]; rfl)]
theorem ix_yes {b : UInt8} {r : List UInt8} : ∀ {a : List UInt8}, b ∉ a → Lib.index (a ++ b :: r) [b] = (a.length : Int)
  | [], _ => by
    show Lib.index (b :: r) [b] = 0
    unfold Lib.index
    rw [if_pos (by simp)]
  | c :: l, h => by
    have h1 : ¬ b = c := fun e => h (by simp [e])
    have h2 := ix_yes (r := r) (a := l) (fun g => h (List.mem_cons_of_mem _ g))
    show Lib.index (c :: (l ++ b :: r)) [b] = _
    unfold Lib.index
    rw [if_neg (by simp [h1]), h2, if_neg (by simp)]
    simp
theorem split_go {b : UInt8} : ∀ (fuel : Nat) (l : List UInt8), l.length < fuel → Lib.splitK [b] 0 (Lib.countFrom [b] fuel l) l = cutL b l
  | 0, l, h => by omega
  | fuel + 1, l, h => by
    by_cases hb : b ∈ l
    · obtain ⟨a, r, rfl, ha⟩ := List.eq_append_cons_of_mem hb
      have hi := ix_yes (r := r) ha
      have hd : (a ++ b :: r).drop ((Lib.index (a ++ b :: r) [b]).toNat + [b].length) = r := by
        rw [hi, Int.toNat_natCast, List.drop_append]
        simp
      have hn : ¬ (Lib.index (a ++ b :: r) [b] == -1) = true := by rw [hi]; simp
      have hc : Lib.countFrom [b] (fuel + 1) (a ++ b :: r) = Lib.countFrom [b] fuel r + 1 := by
        rw [Lib.countFrom, if_neg hn, hd, Nat.add_comm]
      rw [hc, Lib.splitK, if_neg hn, hd, split_go fuel r (by simp at h; omega), cutL_app r ha, hi, Int.toNat_natCast]
      simp
    · have hi := ix_no hb
      have hp : (Lib.index l [b] == -1) = true := by rw [hi]; rfl
      rw [Lib.countFrom, if_pos hp, Lib.splitK, cutL_no hb]
theorem split_len {b : UInt8} : ∀ (fuel : Nat) (l : List UInt8), l.length < fuel → (cutL b l).length = Lib.countFrom [b] fuel l + 1
  | 0, l, h => by omega
  | fuel + 1, l, h => by
    by_cases hb : b ∈ l
    · obtain ⟨a, r, rfl, ha⟩ := List.eq_append_cons_of_mem hb
      have hi := ix_yes (r := r) ha
      have hd : (a ++ b :: r).drop ((Lib.index (a ++ b :: r) [b]).toNat + [b].length) = r := by
        rw [hi, Int.toNat_natCast, List.drop_append]
        simp
      have hn : ¬ (Lib.index (a ++ b :: r) [b] == -1) = true := by rw [hi]; simp
      have hc : Lib.countFrom [b] (fuel + 1) (a ++ b :: r) = Lib.countFrom [b] fuel r + 1 := by
        rw [Lib.countFrom, if_neg hn, hd, Nat.add_comm]
      rw [hc, cutL_app r ha, List.length_cons, split_len fuel r (by simp at h; omega)]
    · have hp : (Lib.index l [b] == -1) = true := by rw [ix_no hb]; rfl
      rw [Lib.countFrom, if_pos hp, cutL_no hb]; rfl
theorem glue_piece (b : UInt8) : ∀ (ps : List (List UInt8)) (p : List UInt8), p ∈ ps → p.length + (ps.length - 1) ≤ (glueL b ps).length
  | [q], p, h => by
    simp at h
    subst h
    simp [glueL]
  | q :: r :: t, p, h => by
    rw [glueL_cons b q (by simp)]
    have hr := glue_piece b (r :: t)
    simp only [List.length_append, List.length_cons] at hr ⊢
    rcases List.mem_cons.1 h with rfl | h
    · have := hr r (by simp)
      omega
    · have := hr p h
      omega
theorem cut_short {b : UInt8} {l : List UInt8} (h : 2 ≤ (cutL b l).length) (j : Nat) : ((cutL b l).getD j []).length + 1 ≤ l.length := by
  by_cases hj : j < (cutL b l).length
  · have := glue_piece b (cutL b l) ((cutL b l).getD j []) (by rw [show (cutL b l).getD j [] = (cutL b l)[j] by simp [List.getD, hj]]; exact List.getElem_mem hj)
    rw [glue_cut] at this
    omega
  · have e : (cutL b l).getD j [] = [] := by rw [List.getD, List.getElem?_eq_none (by omega)]; rfl
    have := glue_piece b (cutL b l) ((cutL b l).getD 0 []) (by rw [show (cutL b l).getD 0 [] = (cutL b l)[0] by simp [List.getD, (by omega : 0 < (cutL b l).length)]]; exact List.getElem_mem (by omega))
    rw [glue_cut] at this
    rw [e]; simp; omega
theorem split_cut (b : UInt8) (l : List UInt8) : Lib.split l [b] = cutL b l := split_go _ _ (Nat.lt_succ_self _)
theorem ix2_yes {r : List UInt8} : ∀ {a : List UInt8}, (46 : UInt8) ∉ a → Lib.index (a ++ 46 :: 46 :: r) [46, 46] = (a.length : Int)
  | [], _ => by
    show Lib.index (46 :: 46 :: r) [46, 46] = 0
    unfold Lib.index
    rw [if_pos (by simp)]
  | c :: l, h => by
    have h1 : ¬ (46 : UInt8) = c := fun e => h (by simp [e])
    have h2 := ix2_yes (r := r) (a := l) (fun g => h (List.mem_cons_of_mem _ g))
    show Lib.index (c :: (l ++ 46 :: 46 :: r)) [46, 46] = _
    unfold Lib.index
    rw [if_neg (by simp [h1]), h2, if_neg (by simp)]
    simp
theorem ix2_is : ∀ {s : List UInt8} {i : Nat}, Lib.index s [46, 46] = (i : Int) → s = s.take i ++ [46, 46] ++ s.drop (i + 2)
  | [], i, h => by
    have : Lib.index [] [46, 46] = -1 := rfl
    omega
  | c :: l, i, h => by
    unfold Lib.index at h
    split at h
    · rename_i hp
      have hi : i = 0 := by omega
      subst hi
      match l, hp with
      | [], hp => simp at hp
      | d :: l', hp =>
        simp at hp
        obtain ⟨rfl, rfl⟩ := hp
        simp
    · split at h
      · omega
      · rename_i hn
        have hi : 0 < i := by
          have := Lib.index_ge l [46, 46]
          have hne : Lib.index l [46, 46] ≠ -1 := fun e => hn (by rw [e]; rfl)
          omega
        obtain ⟨k, rfl⟩ : ∃ k, i = k + 1 := ⟨i - 1, by omega⟩
        have := ix2_is (s := l) (i := k) (by omega)
        show c :: l = c :: l.take k ++ [46, 46] ++ l.drop (k + 2)
        rw [List.cons_append, List.cons_append, ← this]
/-- A number with a letter in front of it. -/
def tagP (c : UInt8) (s : List UInt8) : Int × Bool := if s.getD 0 0 = c ∧ 1 ≤ s.length then parI (s.drop 1) else (0, false)
/-- Two numbers with two dots between them. -/
def rngP (s : List UInt8) : Int × Int × Bool :=
  if (Lib.cut s [46, 46]).2.2 && ((parI (Lib.cut s [46, 46]).1).2 && (parI (Lib.cut s [46, 46]).2.1).2) then ((parI (Lib.cut s [46, 46]).1).1, (parI (Lib.cut s [46, 46]).2.1).1, true) else (0, 0, false)
theorem tagP_is {c : UInt8} {s : List UInt8} (h : (tagP c s).2 = true) : s = c :: Lib.itoa (tagP c s).1 := by
  unfold tagP at h ⊢
  split at h
  · rename_i hc
    rw [if_pos hc, parI_is h]
    match s, hc with
    | d :: r, hc => have := hc.1; simp at this; simp [this]
  · exact Bool.noConfusion h
theorem tagP_yes {c : UInt8} {n : Int} (h0 : 0 ≤ n) (h1 : n ≤ 999) : tagP c (c :: Lib.itoa n) = (n, true) := by
  unfold tagP
  rw [if_pos ⟨rfl, by simp⟩]
  exact parI_itoa3 h0 h1
theorem rngP_is {s : List UInt8} (h : (rngP s).2.2 = true) : s = Lib.itoa (rngP s).1 ++ [46, 46] ++ Lib.itoa (rngP s).2.1 := by
  unfold rngP at h ⊢
  split at h
  · rename_i hc
    rw [if_pos hc]
    simp only [Bool.and_eq_true] at hc
    obtain ⟨h1, h2, h3⟩ := hc
    rw [parI_is h2, parI_is h3]
    unfold Lib.cut at h1 ⊢
    split at h1
    · rename_i hi
      rw [if_pos hi]
      exact ix2_is (i := (Lib.index s [46, 46]).toNat) (by omega)
    · exact Bool.noConfusion h1
  · exact Bool.noConfusion h
theorem rngP_yes {a b : Int} (h0 : 0 ≤ a) (h1 : a ≤ 999) (h2 : 0 ≤ b) (h3 : b ≤ 999) : rngP (Lib.itoa a ++ [46, 46] ++ Lib.itoa b) = (a, b, true) := by
  have hi := ix2_yes (r := Lib.itoa b) (itoa_no h0 (c := 46) (by decide))
  have hc : Lib.cut (Lib.itoa a ++ [46, 46] ++ Lib.itoa b) [46, 46] = (Lib.itoa a, Lib.itoa b, true) := by
    have e : Lib.itoa a ++ [46, 46] ++ Lib.itoa b = Lib.itoa a ++ 46 :: 46 :: Lib.itoa b := by simp
    rw [e]
    unfold Lib.cut
    rw [if_pos (by rw [hi]; omega), hi, Int.toNat_natCast]
    simp
  unfold rngP
  rw [hc, parI_itoa3 h0 h1, parI_itoa3 h2 h3]
  rfl
theorem rngGo_at {r : List UInt8} : ∀ {a p : List UInt8}, (46 : UInt8) ∉ a → rngGo p (a ++ 46 :: 46 :: r) = (numL (p ++ a), numL r)
  | [], p, _ => by
    show rngGo p (46 :: 46 :: r) = _
    unfold rngGo
    rw [if_pos ⟨rfl, rfl⟩, List.append_nil]
  | c :: l, p, h => by
    have h1 : ¬ c = 46 := fun e => h (by simp [e])
    have ih := rngGo_at (r := r) (a := l) (p := p ++ [c]) (fun g => h (List.mem_cons_of_mem _ g))
    have e : ∃ d t, l ++ 46 :: 46 :: r = d :: t := by cases l <;> simp
    obtain ⟨d, t, e⟩ := e
    show rngGo p (c :: (l ++ 46 :: 46 :: r)) = _
    rw [e] at ih ⊢
    unfold rngGo
    rw [if_neg (fun g => h1 g.1), ih]
    simp
theorem rngL_yes {a b : Int} (h0 : 0 ≤ a) (h1 : a ≤ 999) (h2 : 0 ≤ b) (h3 : b ≤ 999) : rngL (Lib.itoa a ++ [46, 46] ++ Lib.itoa b) = (a, b) := by
  have e : Lib.itoa a ++ [46, 46] ++ Lib.itoa b = Lib.itoa a ++ 46 :: 46 :: Lib.itoa b := by simp
  unfold rngL
  rw [e, rngGo_at (itoa_no h0 (c := 46) (by decide)), List.nil_append, numL_itoa3 h0 h1, numL_itoa3 h2 h3]
theorem aftL_yes {c : UInt8} {n : Int} (h0 : 0 ≤ n) (h1 : n ≤ 999) : aftL c (c :: Lib.itoa n) = n := by
  unfold aftL
  have := List.length_pos_iff.2 (itoa_ne n)
  rw [if_pos ⟨by simp; omega, rfl⟩]
  exact numL_itoa3 h0 h1
/-- The conditions that the pieces two by two say, behind 'acc'. -/
def condsGo : List CondD → List (List UInt8) → Option (List CondD)
  | acc, [] => some acc
  | _, [_] => none
  | acc, a :: b :: r => if (tagP 102 a).2 && (rngP b).2.2 then condsGo (acc ++ [((tagP 102 a).1, (rngP b).1, (rngP b).2.1)]) r else none
theorem drop_two {α : Type} {P : List α} {k : Nat} {d : α} (hk : k + 1 < P.length) : P.drop k = P.getD k d :: P.getD (k + 1) d :: P.drop (k + 2) := by
  rw [List.drop_eq_getElem_cons (by omega : k < P.length), List.drop_eq_getElem_cons hk]
  simp [List.getD, hk, (by omega : k < P.length)]
theorem condsGo_hit {acc : List CondD} {P : List (List UInt8)} {k : Nat} (hk : k + 1 < P.length) (h1 : (tagP 102 (P.getD k [])).2 = true) (h2 : (rngP (P.getD (k + 1) [])).2.2 = true) :
    condsGo acc (P.drop k) = condsGo (acc ++ [((tagP 102 (P.getD k [])).1, (rngP (P.getD (k + 1) [])).1, (rngP (P.getD (k + 1) [])).2.1)]) (P.drop (k + 2)) := by
  rw [drop_two (d := []) hk]
  show (if _ then _ else _) = _
  rw [if_pos (by rw [h1, h2]; rfl)]
theorem condsGo_miss {acc : List CondD} {P : List (List UInt8)} {k : Nat} (hk : k + 1 < P.length) (h : ((tagP 102 (P.getD k [])).2 && (rngP (P.getD (k + 1) [])).2.2) = false) : condsGo acc (P.drop k) = none := by
  rw [drop_two (d := []) hk]
  show (if _ then _ else _) = _
  rw [if_neg (by rw [h]; exact Bool.noConfusion)]
theorem condsGo_odd : ∀ (P : List (List UInt8)) (acc : List CondD), P.length % 2 ≠ 0 → condsGo acc P = none
  | [], _, h => absurd rfl h
  | [_], _, _ => rfl
  | a :: b :: r, acc, h => by
    show (if _ then _ else _) = _
    split
    · exact condsGo_odd r _ (by simp at h; omega)
    · rfl
def condW (c : CondD) : List (List UInt8) := [102 :: Lib.itoa c.1, Lib.itoa c.2.1 ++ [46, 46] ++ Lib.itoa c.2.2]
def condsW : List CondD → List (List UInt8)
  | [] => []
  | c :: r => (102 :: Lib.itoa c.1) :: (Lib.itoa c.2.1 ++ [46, 46] ++ Lib.itoa c.2.2) :: condsW r
theorem condsGo_is : ∀ (P : List (List UInt8)) (acc r : List CondD), condsGo acc P = some r → ∃ cs, r = acc ++ cs ∧ P = condsW cs
  | [], acc, r, h => ⟨[], by simp [condsGo] at h; simp [h], rfl⟩
  | [_], acc, r, h => by simp [condsGo] at h
  | a :: b :: q, acc, r, h => by
    change (if _ then _ else _) = _ at h
    split at h
    · rename_i hc
      rw [Bool.and_eq_true] at hc
      obtain ⟨cs, e1, e2⟩ := condsGo_is q _ r h
      refine ⟨((tagP 102 a).1, (rngP b).1, (rngP b).2.1) :: cs, by rw [e1]; simp, ?_⟩
      show _ = (102 :: Lib.itoa (tagP 102 a).1) :: (Lib.itoa (rngP b).1 ++ [46, 46] ++ Lib.itoa (rngP b).2.1) :: condsW cs
      rw [← tagP_is hc.1, ← rngP_is hc.2, ← e2]
    · simp at h
def cIn (c : CondD) : Prop := (0 ≤ c.1 ∧ c.1 ≤ 999) ∧ (0 ≤ c.2.1 ∧ c.2.1 ≤ 999) ∧ 0 ≤ c.2.2 ∧ c.2.2 ≤ 999
theorem condsGo_words : ∀ (cs acc : List CondD), (∀ c ∈ cs, cIn c) → condsGo acc (condsW cs) = some (acc ++ cs)
  | [], acc, _ => by simp [condsW, condsGo]
  | c :: r, acc, h => by
    obtain ⟨⟨f0, f1⟩, ⟨a0, a1⟩, b0, b1⟩ := h c (by simp)
    show (if _ then _ else _) = _
    rw [tagP_yes f0 f1, rngP_yes a0 a1 b0 b1]
    show condsGo (acc ++ [(c.1, c.2.1, c.2.2)]) (condsW r) = _
    rw [condsGo_words r _ (fun c hc => h c (List.mem_cons_of_mem _ hc))]
    simp
theorem condsW_len : ∀ cs : List CondD, (condsW cs).length = 2 * cs.length
  | [] => rfl
  | c :: r => by simp [condsW, condsW_len r]; omega
theorem condsW_at : ∀ (cs : List CondD) (j : Nat), j < cs.length → (condsW cs).getD (2 * j) [] = 102 :: Lib.itoa (cs.getD j c0D).1 ∧ (condsW cs).getD (2 * j + 1) [] = Lib.itoa (cs.getD j c0D).2.1 ++ [46, 46] ++ Lib.itoa (cs.getD j c0D).2.2
  | [], j, h => by simp at h
  | c :: r, 0, h => by simp [condsW]
  | c :: r, j + 1, h => by
    have := condsW_at r j (by simpa using h)
    simpa [condsW, show 2 * (j + 1) = 2 * j + 1 + 1 by omega] using this
/-- The pieces of a query's text. -/
def wordsQ (q : QD) : List (List UInt8) := (113 :: Lib.itoa q.1) :: (116 :: Lib.itoa q.2.1) :: (condsW q.2.2.1 ++ [[111, 117, 116], listTo q.2.2.2 q.2.2.2.length])
def pickQ (a b : Int × Bool) (r1 : Option (List CondD)) (r2 : Option (List Int)) : Option QD :=
  match a.2, b.2, r1, r2 with
  | true, true, some cs, some os => some (a.1, b.1, cs, os)
  | _, _, _, _ => none
theorem pickQ_facts (a b : Int × Bool) (r1 : Option (List CondD)) (r2 : Option (List Int)) : (pickQ a b r1 r2).isSome = (a.2 && (b.2 && (r1.isSome && r2.isSome))) ∧ ∀ q, pickQ a b r1 r2 = some q → q = (a.1, b.1, r1.getD [], r2.getD []) := by
  obtain ⟨a1, a2⟩ := a
  obtain ⟨b1, b2⟩ := b
  refine ⟨?_, fun q h => ?_⟩
  · cases a2 <;> cases b2 <;> cases r1 <;> cases r2 <;> rfl
  · cases a2 <;> cases b2 <;> cases r1 <;> cases r2 <;> first | (simp only [pickQ, Option.some.injEq] at h; exact h.symm) | (simp [pickQ] at h)
/-- What the program reads off the pieces. -/
def pQ (P : List (List UInt8)) : Option QD :=
  if P.length < 4 ∨ P.getD (P.length - 2) [] ≠ [111, 117, 116] then none
  else pickQ (tagP 113 (P.getD 0 [])) (tagP 116 (P.getD 1 [])) (condsGo [] ((P.drop 2).take (P.length - 4))) (intsGo [] (cutL 44 (P.getD (P.length - 1) [])))
def qB' (q : QD) : Bool := queryB q.1 q.2.1 q.2.2.1 q.2.2.2
theorem listTo_three {xs : List Int} (h1 : 1 ≤ xs.length) (h3 : xs.length ≤ 3) : listTo xs xs.length = glueL 44 (xs.map Lib.itoa) := by
  match xs, h1, h3 with
  | [a], _, _ => simp [listTo, glueL]
  | [a, b], _, _ => simp [listTo, glueL]
  | [a, b, c], _, _ => simp [listTo, glueL]
theorem qB_fields {q : QD} (h : qB' q = true) : 1 ≤ q.2.2.2.length ∧ q.2.2.2.length ≤ 3 := by
  unfold qB' queryB fieldsB at h
  simp only [Bool.and_eq_true, decide_eq_true_eq] at h
  exact h.2.2.2.2.2
theorem map_itoa {b : List UInt8} (h : ∀ p ∈ cutL 44 b, (parI p).2 = true) : ((cutL 44 b).map numL).map Lib.itoa = cutL 44 b := by
  rw [List.map_map]
  conv => rhs; rw [← List.map_id (cutL 44 b)]
  refine List.map_congr_left fun p hp => ?_
  have := h p hp
  show Lib.itoa (numL p) = p
  rw [numL_yes this, parI_is this]
theorem pQ_is {P : List (List UInt8)} {q : QD} (h : pQ P = some q) (hq : qB' q = true) : P = wordsQ q ∧ 4 ≤ P.length := by
  unfold pQ at h
  split at h
  · simp at h
  · rename_i hc
    have hl : 4 ≤ P.length := by
      by_cases g : P.length < 4
      · exact absurd (Or.inl g) hc
      · omega
    have ho : P.getD (P.length - 2) [] = [111, 117, 116] := by
      by_cases g : P.getD (P.length - 2) [] = [111, 117, 116]
      · exact g
      · exact absurd (Or.inr g) hc
    unfold pickQ at h
    split at h
    · rename_i cs os h1 h2 h3 h4
      simp only [Option.some.injEq] at h
      subst h
      refine ⟨?_, hl⟩
      obtain ⟨cs', e1, e2⟩ := condsGo_is _ _ _ h3
      rw [List.nil_append] at e1
      subst e1
      obtain ⟨a1, a2⟩ := intsGo_some _ _ _ h4
      rw [List.nil_append] at a2
      obtain ⟨l1, l3⟩ := qB_fields hq
      simp only at l1 l3
      unfold wordsQ
      simp only
      rw [listTo_three l1 l3]
      rw [a2, map_itoa a1, glue_cut, ← tagP_is h1, ← tagP_is h2, ← e2]
      have d0 : P = P.getD 0 [] :: P.getD 1 [] :: P.drop 2 := by
        have := drop_two (P := P) (k := 0) (d := []) (by omega)
        simpa using this
      have d1 : P.drop 2 = (P.drop 2).take (P.length - 4) ++ [P.getD (P.length - 2) [], P.getD (P.length - 1) []] := by
        have g := drop_two (P := P) (k := P.length - 2) (d := []) (by omega)
        rw [show P.length - 2 + 2 = P.length by omega, List.drop_length, show P.length - 2 + 1 = P.length - 1 by omega] at g
        rw [← g]
        have := (List.take_append_drop (P.length - 4) (P.drop 2)).symm
        rw [List.drop_drop, show 2 + (P.length - 4) = P.length - 2 by omega] at this
        exact this
      rw [ho] at d1
      rw [← d1]
      exact d0
    · simp at h
theorem qB_in {q : QD} (h : qB' q = true) : (0 ≤ q.1 ∧ q.1 ≤ 999) ∧ (0 ≤ q.2.1 ∧ q.2.1 ≤ 999) ∧ (∀ c ∈ q.2.2.1, cIn c) ∧ ∀ x ∈ q.2.2.2, 0 ≤ x ∧ x ≤ 999 := by
  obtain ⟨h1, h2, h3, h4, h5, h6⟩ := query_parts (show queryB q.1 q.2.1 q.2.2.1 q.2.2.2 = true from h)
  refine ⟨⟨h1.1, by omega⟩, ⟨h2.1, by omega⟩, fun c hc => ?_, fun x hx => ?_⟩
  · obtain ⟨k, hk, rfl⟩ := List.getElem_of_mem hc
    have := h4 k hk
    rw [show q.2.2.1.getD k c0D = q.2.2.1[k] by simp [List.getD, hk]] at this
    exact ⟨⟨this.1, by omega⟩, ⟨this.2.2.1, by omega⟩, this.2.2.2.2.1, by omega⟩
  · obtain ⟨k, hk, rfl⟩ := List.getElem_of_mem hx
    have := h6 k hk
    rw [show q.2.2.2.getD k 0 = q.2.2.2[k] by simp [List.getD, hk]] at this
    exact ⟨this.1, by omega⟩
theorem cutL_glue {b : UInt8} : ∀ {ps : List (List UInt8)}, ps ≠ [] → (∀ p ∈ ps, b ∉ p) → cutL b (glueL b ps) = ps
  | [], h, _ => absurd rfl h
  | [p], _, h => by
    show cutL b p = [p]
    exact cutL_no (h p (by simp))
  | p :: q :: r, _, h => by
    rw [glueL_cons b p (by simp), cutL_app _ (h p (by simp)), cutL_glue (by simp) (fun x hx => h x (List.mem_cons_of_mem _ hx))]
theorem cut_list {xs : List Int} (h1 : 1 ≤ xs.length) (h3 : xs.length ≤ 3) (h : ∀ x ∈ xs, 0 ≤ x ∧ x ≤ 999) : cutL 44 (listTo xs xs.length) = xs.map Lib.itoa := by
  rw [listTo_three h1 h3, cutL_glue]
  · intro e; rw [List.map_eq_nil_iff] at e; rw [e] at h1; simp at h1
  · intro p hp
    obtain ⟨x, hx, rfl⟩ := List.mem_map.1 hp
    exact itoa_no (h x hx).1 (by decide)
theorem ints_words {xs : List Int} (h : ∀ x ∈ xs, 0 ≤ x ∧ x ≤ 999) : intsGo [] (xs.map Lib.itoa) = some xs := by
  rw [intsGo_all _ _ (fun p hp => by
    obtain ⟨x, hx, rfl⟩ := List.mem_map.1 hp
    rw [parI_itoa3 (h x hx).1 (h x hx).2]), List.nil_append, List.map_map]
  have : xs.map (numL ∘ Lib.itoa) = xs.map id := List.map_congr_left fun x hx => numL_itoa3 (h x hx).1 (h x hx).2
  rw [this, List.map_id]
theorem wordsQ_len (q : QD) : (wordsQ q).length = 2 * q.2.2.1.length + 4 := by unfold wordsQ; simp [condsW_len]
theorem wordsQ_last (q : QD) : (wordsQ q).getD ((wordsQ q).length - 2) [] = [111, 117, 116] ∧ (wordsQ q).getD ((wordsQ q).length - 1) [] = listTo q.2.2.2 q.2.2.2.length := by
  rw [wordsQ_len]
  unfold wordsQ
  rw [show 2 * q.2.2.1.length + 4 - 2 = 2 * q.2.2.1.length + 1 + 1 by omega, show 2 * q.2.2.1.length + 4 - 1 = (2 * q.2.2.1.length + 1) + 1 + 1 by omega]
  have hl := condsW_len q.2.2.1
  simp only [List.getD_cons_succ]
  refine ⟨?_, ?_⟩
  · rw [List.getD, List.getElem?_append_right (by omega), hl]; simp
  · rw [List.getD, List.getElem?_append_right (by omega), hl, show 2 * q.2.2.1.length + 1 - 2 * q.2.2.1.length = 1 by omega]; simp
theorem wordsQ_mid (q : QD) : ((wordsQ q).drop 2).take ((wordsQ q).length - 4) = condsW q.2.2.1 := by
  rw [wordsQ_len, show 2 * q.2.2.1.length + 4 - 4 = (condsW q.2.2.1).length by rw [condsW_len]; omega]
  show (condsW q.2.2.1 ++ _).take _ = _
  rw [List.take_left']
  rfl
theorem pQ_words {q : QD} (h : qB' q = true) : pQ (wordsQ q) = some q := by
  obtain ⟨⟨i0, i1⟩, ⟨t0, t1⟩, hc, ho⟩ := qB_in h
  obtain ⟨l1, l3⟩ := qB_fields h
  obtain ⟨w1, w2⟩ := wordsQ_last q
  unfold pQ
  rw [if_neg (fun g => g.elim (fun g => by rw [wordsQ_len] at g; omega) (fun g => g w1)), w2, wordsQ_mid, cut_list l1 l3 ho, ints_words ho, condsGo_words _ _ hc]
  have e0 : (wordsQ q).getD 0 [] = 113 :: Lib.itoa q.1 := rfl
  have e1 : (wordsQ q).getD 1 [] = 116 :: Lib.itoa q.2.1 := rfl
  rw [e0, e1, tagP_yes i0 i1, tagP_yes t0 t1]
  rfl
theorem queryOf_words {q : QD} (h : qB' q = true) : queryOfP (wordsQ q) = q := by
  obtain ⟨⟨i0, i1⟩, ⟨t0, t1⟩, hc, ho⟩ := qB_in h
  obtain ⟨l1, l3⟩ := qB_fields h
  obtain ⟨w1, w2⟩ := wordsQ_last q
  unfold queryOfP
  rw [w2, cut_list l1 l3 ho, wordsQ_len, show (2 * q.2.2.1.length + 4 - 4) / 2 = q.2.2.1.length by omega]
  have e0 : (wordsQ q).getD 0 [] = 113 :: Lib.itoa q.1 := rfl
  have e1 : (wordsQ q).getD 1 [] = 116 :: Lib.itoa q.2.1 := rfl
  rw [e0, e1, aftL_yes i0 i1, aftL_yes t0 t1, List.map_map]
  have e2 : q.2.2.2.map (numL ∘ Lib.itoa) = q.2.2.2 := by
    have : q.2.2.2.map (numL ∘ Lib.itoa) = q.2.2.2.map id := List.map_congr_left fun x hx => numL_itoa3 (ho x hx).1 (ho x hx).2
    rw [this, List.map_id]
  have e3 : (List.range q.2.2.1.length).map (condOf (wordsQ q)) = q.2.2.1 := by
    apply List.ext_getElem
    · simp
    · intro j h1 h2
      rw [List.getElem_map, List.getElem_range]
      obtain ⟨a1, a2⟩ := condsW_at q.2.2.1 j h2
      have hl := condsW_len q.2.2.1
      have g1 : (wordsQ q).getD (2 + 2 * j) [] = 102 :: Lib.itoa (q.2.2.1.getD j c0D).1 := by
        rw [show 2 + 2 * j = 2 * j + 1 + 1 by omega]
        unfold wordsQ
        simp only [List.getD_cons_succ]
        rw [List.getD, List.getElem?_append_left (by omega)]
        exact a1
      have g2 : (wordsQ q).getD (3 + 2 * j) [] = Lib.itoa (q.2.2.1.getD j c0D).2.1 ++ [46, 46] ++ Lib.itoa (q.2.2.1.getD j c0D).2.2 := by
        rw [show 3 + 2 * j = 2 * j + 1 + 1 + 1 by omega]
        unfold wordsQ
        simp only [List.getD_cons_succ]
        rw [List.getD, List.getElem?_append_left (by omega)]
        exact a2
      have e : q.2.2.1.getD j c0D = q.2.2.1[j] := by simp [List.getD, h2]
      rw [e] at g1 g2
      obtain ⟨⟨f0, f1⟩, ⟨a0, a1⟩, b0, b1⟩ := hc _ (List.getElem_mem h2)
      unfold condOf
      rw [g1, g2, aftL_yes f0 f1, rngL_yes a0 a1 b0 b1]
  rw [e2, e3]
theorem condsT_glue (t : List UInt8) (cs : List CondD) (z : List UInt8) : ∀ k, k ≤ cs.length → condsT t cs k ++ (if k = cs.length then [32, 111, 117, 116, 32] ++ z else 32 :: glueL 32 (condsW (cs.drop k) ++ [[111, 117, 116], z])) = t ++ 32 :: glueL 32 (condsW cs ++ [[111, 117, 116], z])
  | 0, h => by
    by_cases e : cs = []
    · subst e; simp [condsT, condsW, glueL]
    · have : ¬ 0 = cs.length := fun g => e (List.length_eq_zero_iff.1 g.symm)
      rw [if_neg this]
      rfl
  | k + 1, h => by
    rw [← condsT_glue t cs z k (by omega), if_neg (by omega : ¬ k = cs.length)]
    have hd : cs.drop k = cs.getD k c0D :: cs.drop (k + 1) := by
      rw [List.drop_eq_getElem_cons (by omega : k < cs.length)]
      simp [List.getD, (by omega : k < cs.length)]
    rw [hd]
    show condT (condsT t cs k) (cs.getD k c0D) ++ _ = _
    unfold condT
    have hg : glueL 32 (condsW (cs.getD k c0D :: cs.drop (k + 1)) ++ [[111, 117, 116], z]) = (102 :: Lib.itoa (cs.getD k c0D).1) ++ 32 :: ((Lib.itoa (cs.getD k c0D).2.1 ++ [46, 46] ++ Lib.itoa (cs.getD k c0D).2.2) ++ 32 :: glueL 32 (condsW (cs.drop (k + 1)) ++ [[111, 117, 116], z])) := by
      show glueL 32 (_ :: _ :: (condsW (cs.drop (k + 1)) ++ [[111, 117, 116], z])) = _
      rw [glueL_cons 32 _ (by simp), glueL_cons 32 _ (by simp)]
    rw [hg]
    by_cases e : k + 1 = cs.length
    · rw [if_pos e, List.drop_eq_nil_of_le (by omega)]
      simp [condsW, glueL]
    · rw [if_neg e]
      simp
theorem fmt_glue {q : QD} (h : qB' q = true) : fmtQD q = glueL 32 (wordsQ q) := by
  unfold fmtQD fmtQ
  rw [if_pos (show queryB q.1 q.2.1 q.2.2.1 q.2.2.2 = true from h)]
  have := condsT_glue (headT q.1 q.2.1) q.2.2.1 (listTo q.2.2.2 q.2.2.2.length) q.2.2.1.length (Nat.le_refl _)
  rw [if_pos rfl, ← List.append_assoc] at this
  rw [this]
  unfold wordsQ
  rw [glueL_cons 32 _ (by simp), glueL_cons 32 _ (by simp)]
  unfold headT
  simp
theorem wordsQ_no {q : QD} (h : qB' q = true) : ∀ p ∈ wordsQ q, (32 : UInt8) ∉ p := by
  obtain ⟨⟨i0, i1⟩, ⟨t0, t1⟩, hc, ho⟩ := qB_in h
  obtain ⟨l1, l3⟩ := qB_fields h
  have hcs : ∀ cs : List CondD, (∀ c ∈ cs, cIn c) → ∀ p ∈ condsW cs, (32 : UInt8) ∉ p := by
    intro cs
    induction cs with
    | nil => intro _ p hp; simp [condsW] at hp
    | cons c r ih =>
      intro hr p hp
      obtain ⟨⟨f0, f1⟩, ⟨a0, a1⟩, b0, b1⟩ := hr c (by simp)
      simp only [condsW, List.mem_cons] at hp
      rcases hp with rfl | rfl | hp
      · have := itoa_no f0 (c := 32) (by decide)
        simp [this]
      · have g1 := itoa_no a0 (c := 32) (by decide)
        have g2 := itoa_no b0 (c := 32) (by decide)
        simp [g1, g2]
      · exact ih (fun c hc => hr c (List.mem_cons_of_mem _ hc)) p hp
  intro p hp
  unfold wordsQ at hp
  simp only [List.mem_cons, List.mem_append, List.not_mem_nil, or_false] at hp
  rcases hp with rfl | rfl | hp | rfl | rfl
  · have := itoa_no i0 (c := 32) (by decide)
    simp [this]
  · have := itoa_no t0 (c := 32) (by decide)
    simp [this]
  · exact hcs _ hc p hp
  · decide
  · rw [listTo_three l1 l3]
    intro g
    obtain ⟨p, hp, g⟩ := glue_mem (by decide) _ g
    obtain ⟨x, hx, rfl⟩ := List.mem_map.1 hp
    exact itoa_no (ho x hx).1 (by decide) g
theorem cut_fmt {q : QD} (h : qB' q = true) : cutL 32 (fmtQD q) = wordsQ q := by
  rw [fmt_glue h, cutL_glue (by unfold wordsQ; simp) (wordsQ_no h)]
/-- The program and the specification read the same. -/
theorem parQ_acc {l : List UInt8} {q : QD} (h : pQ (cutL 32 l) = some q) (hq : qB' q = true) : parQ l = (q, true) := by
  obtain ⟨e, h4⟩ := pQ_is h hq
  have e2 : queryOfP (cutL 32 l) = q := by rw [e, queryOf_words hq]
  rw [← e2]
  refine parQ_yes (by omega) ?_
  rw [e2, fmt_glue hq, ← e, glue_cut]
theorem parQ_rej {l : List UInt8} (h : ∀ q, pQ (cutL 32 l) = some q → qB' q = false) : parQ l = (q0D, false) := by
  refine parQ_no ?_
  by_cases h4 : (cutL 32 l).length < 4
  · exact Or.inl h4
  · refine Or.inr fun hf => ?_
    have hl : l ≠ [] := fun e => by subst e; simp [cutL, cutGo] at h4
    cases hq : qB' (queryOfP (cutL 32 l)) with
    | false =>
      unfold fmtQD fmtQ at hf
      rw [if_neg (by show ¬ qB' _ = true; rw [hq]; exact Bool.noConfusion)] at hf
      exact hl hf.symm
    | true =>
      have e := cut_fmt hq
      rw [hf] at e
      have := h (queryOfP (cutL 32 l)) ((congrArg pQ e).trans (pQ_words hq))
      rw [hq] at this
      exact Bool.noConfusion this
end Go.Proofs.YteelgogfpidcdaaGreatDoor
