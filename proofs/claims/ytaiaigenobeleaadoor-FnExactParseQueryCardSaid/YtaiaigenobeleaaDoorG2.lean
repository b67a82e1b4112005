/-
  Texts of the proof, merged: ParMath, NumMath, ParWalks, ParSetMath, RowVal, RowSpec, RowSl, RowOwn, RowLaw1, RowLaws, RowEq, Take, QueryCut.
-/
import Derived.Test.YtaiaigenobeleaaDoorG1
import Derived.Lib.Strings
import Derived.Laws.BitsLemmas
import Derived.WalkKit
import Derived.Maps.AppendAt
import Derived.Deep.RegionHeld3
import Derived.IntWalk
import Derived.BigQuiet
import Derived.Deep.QuietTactic
namespace Go.Proofs.YtaiaigenobeleaaDoor
/-- Is the byte a decimal digit? -/
def dig (b : UInt8) : Bool := decide (48 ≤ b.toNat) && decide (b.toNat ≤ 57)
/-- The number that the digits among the bytes spell. -/
def dval (l : List UInt8) : Nat := l.foldl (fun n b => if dig b then n * 10 + (b.toNat - 48) else n) 0
/-- How many digits are among the bytes. -/
def dcnt (l : List UInt8) : Nat := (l.filter dig).length
theorem dval_snoc (l : List UInt8) (b : UInt8) : dval (l ++ [b]) = if dig b then dval l * 10 + (b.toNat - 48) else dval l := by simp [dval]
theorem dcnt_snoc (l : List UInt8) (b : UInt8) : dcnt (l ++ [b]) = if dig b then dcnt l + 1 else dcnt l := by
  simp only [dcnt, List.filter_append, List.length_append]
  cases h : dig b <;> simp [h]
theorem dig_iff (b : UInt8) : dig b = true ↔ 48 ≤ b.toNat ∧ b.toNat ≤ 57 := by simp [dig]
theorem dval_lt (l : List UInt8) : dval l < 10 ^ dcnt l := by
  have h : ∀ r : List UInt8, dval r.reverse < 10 ^ dcnt r.reverse := by
    intro r
    induction r with
    | nil => simp [dval, dcnt]
    | cons b r ih =>
      rw [List.reverse_cons, dval_snoc, dcnt_snoc]
      by_cases hb : dig b = true
      · rw [if_pos hb, if_pos hb, Nat.pow_succ]; have := (dig_iff b).1 hb; omega
      · rw [if_neg hb, if_neg hb]; exact ih
  have := h l.reverse
  simpa using this
theorem dcnt_le (l : List UInt8) : dcnt l ≤ l.length := List.length_filter_le _ _
theorem dval_lt9 (l : List UInt8) (h : dcnt l ≤ 9) : dval l ≤ 999999999 := by
  have h1 := dval_lt l
  have h2 : 10 ^ dcnt l ≤ 10 ^ 9 := Nat.pow_le_pow_right (by omega) h
  omega
theorem dval_lt11 (l : List UInt8) (h : l.length ≤ 11) : dval l ≤ 99999999999 := by
  have h1 := dval_lt l
  have h2 : 10 ^ dcnt l ≤ 10 ^ 11 := Nat.pow_le_pow_right (by omega) (by have := dcnt_le l; omega)
  omega
theorem digits_dec (u : Nat) : dval (Lib.decDigits u) = u ∧ (∀ b ∈ Lib.decDigits u, dig b = true) := by
  induction u using Nat.strongRecOn with
  | _ u ih =>
    by_cases h : u < 10
    · rw [Lib.decDigits_one h]
      have hb : dig (UInt8.ofNat (48 + u)) = true := by rw [dig_iff, UInt8.toNat_ofNat']; omega
      refine ⟨?_, by intro b hb'; rw [List.mem_singleton] at hb'; rw [hb']; exact hb⟩
      have := dval_snoc [] (UInt8.ofNat (48 + u))
      rw [if_pos hb] at this
      rw [List.nil_append] at this
      rw [this, UInt8.toNat_ofNat']
      simp [dval]; omega
    · obtain ⟨h1, h2⟩ := ih (u / 10) (by omega)
      have hb : dig (UInt8.ofNat (48 + u % 10)) = true := by rw [dig_iff, UInt8.toNat_ofNat']; omega
      rw [Lib.decDigits, dif_neg h]
      refine ⟨?_, ?_⟩
      · rw [dval_snoc, if_pos hb, h1, UInt8.toNat_ofNat']; omega
      · intro b hb'
        rcases List.mem_append.1 hb' with h3 | h3
        · exact h2 b h3
        · rw [List.mem_singleton] at h3; rw [h3]; exact hb
theorem dcnt_all (l : List UInt8) (h : ∀ b ∈ l, dig b = true) : dcnt l = l.length := by
  unfold dcnt; rw [List.filter_eq_self.2 h]
theorem dec_ne (u : Nat) : Lib.decDigits u ≠ [] := by
  rw [← decI_digits]
  intro h
  have h1 := congrArg List.length h
  by_cases h2 : u < 10
  · rw [decI_small u h2] at h1; simp at h1
  · rw [decI_big u (by omega)] at h1; simp at h1
/-- Does the text begin with a minus? -/
def neg (l : List UInt8) : Bool := l.head? == some 45
/-- The text behind a leading minus. -/
def trim (l : List UInt8) : List UInt8 := if neg l then l.tail else l
/-- The number that the text spells, if it spells one. -/
def sval (l : List UInt8) : Int := if neg l then -(dval l : Int) else dval l
theorem neg_cons {l : List UInt8} (h : neg l = true) : ∃ r, l = 45 :: r := by
  cases l with
  | nil => simp [neg] at h
  | cons a r => simp [neg] at h; exact ⟨r, by rw [h]⟩
theorem dval_minus (r : List UInt8) : dval (45 :: r) = dval r := rfl
theorem dcnt_minus (r : List UInt8) : dcnt (45 :: r) = dcnt r := rfl
theorem dval_trim (l : List UInt8) : dval (trim l) = dval l := by
  unfold trim; split
  · obtain ⟨r, rfl⟩ := neg_cons (by assumption); rfl
  · rfl
theorem dcnt_trim (l : List UInt8) : dcnt (trim l) = dcnt l := by
  unfold trim; split
  · obtain ⟨r, rfl⟩ := neg_cons (by assumption); rfl
  · rfl
/-- ParseInt. -/
def parI (l : List UInt8) : Int × Bool := if Lib.itoa (sval l) = l ∧ dcnt l ≤ 9 then (sval l, true) else (0, false)
theorem par_facts {l : List UInt8} (h : Lib.itoa (sval l) = l) (hc : dcnt l ≤ 9) : l.length ≤ 10 ∧ (trim l).length ≤ 9 ∧ ∀ b ∈ trim l, dig b = true := by
  have key : ∃ u, (trim l = Lib.decDigits u) ∧ l.length ≤ (trim l).length + 1 := by
    unfold Lib.itoa at h
    split at h
    · refine ⟨(sval l).natAbs, ?_, ?_⟩
      · generalize (sval l).natAbs = q at h ⊢; rw [← h]; rfl
      · generalize (sval l).natAbs = q at h ⊢; rw [← h]; simp [trim, neg]
    · refine ⟨(sval l).toNat, ?_, ?_⟩
      · have hn : neg l = false := by
          rw [← h]
          cases hd : Lib.decDigits (sval l).toNat with
          | nil => exact absurd hd (dec_ne _)
          | cons a r =>
            have := (digits_dec (sval l).toNat).2 a (by rw [hd]; simp)
            have h2 := (dig_iff a).1 this
            simp only [neg, List.head?_cons]
            have : a ≠ 45 := by intro e; rw [e] at h2; simp at h2
            simp [this]
        unfold trim; rw [hn]; simp [h]
      · unfold trim; split <;> simp; omega
  obtain ⟨u, hu, hl⟩ := key
  have hall : ∀ b ∈ trim l, dig b = true := by rw [hu]; exact (digits_dec u).2
  have h9 : (trim l).length ≤ 9 := by rw [← dcnt_all _ hall, dcnt_trim]; exact hc
  exact ⟨by omega, h9, hall⟩
theorem parI_ok {l : List UInt8} (h : Lib.itoa (sval l) = l) (hc : dcnt l ≤ 9) : parI l = (sval l, true) := by unfold parI; rw [if_pos ⟨h, hc⟩]
theorem parI_text {l : List UInt8} (h : Lib.itoa (sval l) ≠ l) : parI l = (0, false) := by unfold parI; rw [if_neg (fun g => h g.1)]
theorem parI_many {l : List UInt8} (h : 9 < dcnt l) : parI l = (0, false) := by unfold parI; rw [if_neg (fun g => by omega)]
theorem parI_long {l : List UInt8} (h : 10 < l.length) : parI l = (0, false) := by unfold parI; rw [if_neg (fun g => by have := (par_facts g.1 g.2).1; omega)]
theorem parI_long' {l : List UInt8} (h : 9 < (trim l).length) : parI l = (0, false) := by unfold parI; rw [if_neg (fun g => by have := (par_facts g.1 g.2).2.1; omega)]
theorem parI_digit {l : List UInt8} {b : UInt8} (hb : b ∈ trim l) (h : dig b = false) : parI l = (0, false) := by
  unfold parI; rw [if_neg (fun g => by have := (par_facts g.1 g.2).2.2 b hb; rw [h] at this; cases this)]
theorem trim_cut (l : List UInt8) : Lib.trimPrefix l [45] = trim l ∧ Lib.hasPrefix l [45] = neg l := by
  unfold Lib.trimPrefix trim Lib.hasPrefix neg
  cases l with
  | nil => simp
  | cons a r =>
    simp only [List.head?_cons, List.isPrefixOf]
    by_cases h : a = 45
    · subst h; simp
    · have h1 : (45 == a) = false := by rw [beq_eq_false_iff_ne]; exact Ne.symm h
      have h2 : (a == 45) = false := by rw [beq_eq_false_iff_ne]; exact h
      simp [h1, h2]
end Go.Proofs.YtaiaigenobeleaaDoor
namespace Go.Proofs.YtaiaigenobeleaaDoor
/-- The number that a list of bytes encodes, most significant byte first. -/
def be (l : List UInt8) : Nat := l.foldl (fun n b => n * 256 + b.toNat) 0
theorem be_snoc (l : List UInt8) (b : UInt8) : be (l ++ [b]) = be l * 256 + b.toNat := by simp [be]
theorem be_lt (l : List UInt8) : be l < 256 ^ l.length := by
  have h : ∀ (r : List UInt8), be r.reverse < 256 ^ r.length := by
    intro r
    induction r with
    | nil => simp [be]
    | cons b r ih => rw [List.reverse_cons, be_snoc]; have := b.toNat_lt; simp only [List.length_cons, Nat.pow_succ]; omega
  have := h l.reverse
  simpa using this
theorem be_lt6 (l : List UInt8) (h : l.length ≤ 6) : be l < 281474976710656 := by
  have := be_lt l
  have : 256 ^ l.length ≤ 256 ^ 6 := Nat.pow_le_pow_right (by omega) h
  omega
theorem be_lt7 (l : List UInt8) (h : l.length ≤ 7) : be l < 72057594037927936 := by
  have := be_lt l
  have : 256 ^ l.length ≤ 256 ^ 7 := Nat.pow_le_pow_right (by omega) h
  omega
theorem take_snoc (s : ByteArray) (k : Nat) (h : k < s.size) : s.data.toList.take (k + 1) = s.data.toList.take k ++ [s[k]] := by
  rw [List.take_succ_eq_append_getElem (by simpa using h)]; rfl
theorem ret_int {k : IntKind} {a b : Int} (h : a = b) : Ending.returned (.int k a) = .returned (.int k b) := by rw [h]
theorem wraps_i64 (n : Int) (h₀ : 0 ≤ n) (h₁ : n < 2 ^ 62) : IntKind.i64.wrap n = n := by rw [IntKind.wrap_i64]; omega
theorem i64_or8 (x y : Int) (h0 : 0 ≤ x) (h1 : x < 281474976710656) (h2 : 0 ≤ y) (h3 : y < 256) : bits .or .i64 (x * 256) y = x * 256 + y :=
  bits_join .i64 62 (by decide) wraps_i64 8 _ _ (by omega) (by omega) (by omega) h2 (by omega) (by omega)
/-- DecodeFixed. -/
def decF (l : List UInt8) (a : Int) : Nat × Bool := if 1 ≤ a ∧ a ≤ 7 ∧ a ≤ (l.length : Int) then (be (l.take a.toNat), true) else (0, false)
/-- The bytes of a varint. -/
def evI (n : Nat) : List Int := if n < 128 then [(n : Int)] else ((n % 128 + 128 : Nat) : Int) :: evI (n / 128)
  termination_by n
  decreasing_by omega
theorem evI_small (n : Nat) (h : n < 128) : evI n = [(n : Int)] := by rw [evI, if_pos h]
theorem evI_big (n : Nat) (h : 128 ≤ n) : evI n = ((n % 128 + 128 : Nat) : Int) :: evI (n / 128) := by rw [evI, if_neg (by omega)]
theorem evI_length (n : Nat) : (evI n).length ≤ n / 128 + 1 := by
  induction n using Nat.strongRecOn with
  | _ n ih =>
    by_cases h : n < 128
    · rw [evI_small n h]; simp
    · rw [evI_big n (by omega)]; have := ih (n / 128) (by omega); simp only [List.length_cons]; omega
theorem evI_step {xs : List Int} {k m : Nat} (h : xs ++ evI k = evI m) (hk : 128 ≤ k) : (xs ++ [((k % 128 + 128 : Nat) : Int)]) ++ evI (k / 128) = evI m := by
  rw [← h, evI_big k hk]; simp
theorem evI_end {xs : List Int} {k m : Nat} (h : xs ++ evI k = evI m) (hk : k < 128) : xs ++ [(k : Int)] = evI m := by
  rw [← h, evI_small k hk]
theorem evI_len {xs : List Int} {k m : Nat} (h : xs ++ evI k = evI m) (hm : m ≤ 562949953421311) : xs.length + 1 ≤ 140737488355328 := by
  have h1 := congrArg List.length h
  have h2 := evI_length m
  simp only [List.length_append] at h1
  omega
/-- The last a bytes of n, most significant byte first. -/
def beI : Nat → Nat → List Int
  | 0, _ => []
  | a + 1, n => beI a (n / 256) ++ [((n % 256 : Nat) : Int)]
theorem beI_length (a n : Nat) : (beI a n).length = a := by
  induction a generalizing n with
  | zero => rfl
  | succ a ih => simp [beI, ih]
theorem beI_cons (a n : Nat) : beI (a + 1) n = ((n / 256 ^ a % 256 : Nat) : Int) :: beI a n := by
  induction a generalizing n with
  | zero => simp [beI]
  | succ a ih =>
    rw [beI, ih (n / 256), Nat.div_div_eq_div_mul, show 256 * 256 ^ a = 256 ^ (a + 1) by rw [Nat.pow_succ]; omega]
    rfl
theorem div_step {n k m : Nat} (h : m = n / 256 ^ k) : m / 256 = n / 256 ^ (k + 1) := by
  rw [h, Nat.div_div_eq_div_mul, Nat.pow_succ]
theorem beI_step {n k m : Nat} (h : m = n / 256 ^ k) : beI (k + 1) n = ((m % 256 : Nat) : Int) :: beI k n := by
  rw [beI_cons, h]
/-- EncodeFixed. -/
def encF (n a : Int) : List Int := if 0 ≤ n ∧ 1 ≤ a ∧ a ≤ 7 ∧ n.toNat < 256 ^ a.toNat then beI a.toNat n.toNat else []
theorem encF_ok (n a : Nat) (h1 : 1 ≤ a) (h2 : a ≤ 7) (h : n < 256 ^ a) : encF n a = beI a n := by
  unfold encF; rw [if_pos ⟨by omega, by omega, by omega, by simpa using h⟩]; simp
theorem encF_bad (n a : Int) (h : ¬ (0 ≤ n ∧ 1 ≤ a ∧ a ≤ 7)) : encF n a = [] := by
  unfold encF; rw [if_neg (by omega)]
theorem encF_big (n a : Nat) (h : ¬ n < 256 ^ a) : encF n a = [] := by
  unfold encF; rw [if_neg (fun g => h (by simpa using g.2.2.2))]
theorem pow_256 (a : Nat) : (2 : Int) ^ (8 * a) = ((256 ^ a : Nat) : Int) := by
  rw [Int.pow_mul]; simp
theorem shr_zero (n a : Nat) (h : n < 256 ^ a) : ((n : Int) / 2 ^ (8 * a) != 0) = false := by
  rw [pow_256, ← Int.natCast_ediv, Nat.div_eq_of_lt h]; rfl
theorem shr_pos (n a : Nat) (h : ¬ n < 256 ^ a) : ((n : Int) / 2 ^ (8 * a) != 0) = true := by
  rw [pow_256, ← Int.natCast_ediv]
  have : 0 < n / 256 ^ a := Nat.div_pos (by omega) (Nat.pow_pos (by decide))
  rw [bne_iff_ne]; omega
theorem rep_set (j a n m : Nat) (h : m = n / 256 ^ (a - (j + 1))) (hj : j < a) :
    (List.replicate (j + 1) (0 : Int) ++ beI (a - (j + 1)) n).set j ((m % 256 : Nat) : Int) = List.replicate j 0 ++ beI (a - j) n := by
  rw [show a - j = a - (j + 1) + 1 by omega, beI_step h, List.replicate_succ', List.append_assoc, List.set_append_right _ _ (by simp)]
  simp
end Go.Proofs.YtaiaigenobeleaaDoor
namespace Go.Proofs.YtaiaigenobeleaaDoor
open Go.RowKit
set_option linter.unusedVariables false
theorem ret_par {l : List UInt8} {n : Int} {b : Bool} (h : parI l = (n, b)) {a : Int} (ha : a = n) : Ending.returned (.tuple #[.int .i64 a, .bool b]) = .returned (.tuple #[.int .i64 (parI l).1, .bool (parI l).2]) := by rw [h, ha]
theorem neg_at (s : ByteArray) (h : 0 < s.size) : neg s.data.toList = decide (s[0].toNat = 45) := by
  obtain ⟨⟨l⟩⟩ := s
  cases l with
  | nil => simp [ByteArray.size] at h
  | cons a r =>
    show (some a == some 45) = decide (a.toNat = 45)
    have e : (a = 45) ↔ a.toNat = 45 := ⟨fun e => by rw [e]; rfl, fun e => UInt8.toNat_inj.1 (by rw [e]; rfl)⟩
    by_cases h1 : a = 45
    · rw [decide_eq_true (e.1 h1), h1]; rfl
    · rw [decide_eq_false (fun g => h1 (e.2 g))]; simp [h1]
theorem neg_nil (s : ByteArray) (h : s.size = 0) : neg s.data.toList = false := by
  obtain ⟨⟨l⟩⟩ := s
  cases l with
  | nil => rfl
  | cons a r => simp [ByteArray.size] at h
theorem text_eq (x : List UInt8) (s : ByteArray) : (⟨x.toArray⟩ : ByteArray).toList = s.toList ↔ x = s.data.toList := by
  rw [ByteArray.toList_eq, ByteArray.toList_eq]
theorem sval_pos {l : List UInt8} (h : neg l = false) : sval l = (dval l : Int) := by unfold sval; rw [h]; rfl
theorem sval_neg {l : List UInt8} (h : neg l = true) : sval l = -(dval l : Int) := by unfold sval; rw [h]; rfl
theorem dval_step (s : ByteArray) (m : Nat) (h : m < s.size) : dval (s.data.toList.take (m + 1)) = if dig s[m] then dval (s.data.toList.take m) * 10 + (s[m].toNat - 48) else dval (s.data.toList.take m) := by
  rw [take_snoc s m h, dval_snoc]
theorem dcnt_step (s : ByteArray) (m : Nat) (h : m < s.size) : dcnt (s.data.toList.take (m + 1)) = if dig s[m] then dcnt (s.data.toList.take m) + 1 else dcnt (s.data.toList.take m) := by
  rw [take_snoc s m h, dcnt_snoc]
theorem cast_dig (v b : Nat) (h : 48 ≤ b) : ((v * 10 + (b - 48) : Nat) : Int) = (v : Int) * 10 + ((b : Int) - 48) := by omega
set_option maxHeartbeats 2000000 in
set_option maxRecDepth 100000 in
theorem specPar (s : ByteArray) (w : World) (hs : s.size ≤ 1048576) :
    Calls Tryd.prog 48 #[.string s] w fun e w' => e = .returned (.tuple #[.int .i64 (parI s.data.toList).1, .bool (parI s.data.toList).2]) ∧ Below w.heap.size w w' := by
  go_enter Tryd.func48, Tryd.ntmps48
  go_wp2
  go_loop [4, 5, 6] (fun n k i => ∃ m v c : Nat, m ≤ 11 ∧ m ≤ s.size ∧ i = .int .i64 m ∧ n = .int .i64 v ∧ k = .int .i64 c ∧ v ≤ 99999999999 ∧ c ≤ 11 ∧ Hid (v = dval (s.data.toList.take m)) ∧ Hid (c = dcnt (s.data.toList.take m))) (fun _ _ i => 11 - (intOf i).toNat)
  case atStart => exact ⟨0, 0, 0, by omega, by omega, rfl, rfl, rfl, by omega, by omega, Lib.hid rfl, Lib.hid rfl⟩
  case round =>
    obtain ⟨m, v, c, hm11, hms, rfl, rfl, rfl, hv, hc, hvd, hcd⟩ := hrel
    by_cases hlt : m < s.size
    · by_cases h11 : m < 11
      · have hb := (s[m]).toNat_lt
        have i1 : (0 : Int) ≤ (m : Int) := by omega
        have i2 : (m : Int) < (s.size : Int) := by omega
        have hv2 : dval (s.data.toList.take (m + 1)) ≤ 99999999999 := dval_lt11 _ (by rw [List.length_take]; omega)
        have hc2 : dcnt (s.data.toList.take (m + 1)) ≤ 11 := by have := dcnt_le (s.data.toList.take (m + 1)); rw [List.length_take] at this; omega
        by_cases hd : dig s[m] = true
        · have hr := (dig_iff s[m]).1 hd
          obtain ⟨r1, r2⟩ := hr
          have HV : Hid (v * 10 + (s[m].toNat - 48) = dval (s.data.toList.take (m + 1))) := Lib.hid (by rw [dval_step s m hlt, if_pos hd, hvd.out])
          have HC : Hid (c + 1 = dcnt (s.data.toList.take (m + 1))) := Lib.hid (by rw [dcnt_step s m hlt, if_pos hd, hcd.out])
          have HX := Lib.hid (cast_dig v s[m].toNat r1)
          have hv3 : v * 10 + (s[m].toNat - 48) ≤ 99999999999 := by rw [HV.out]; exact hv2
          have hc3 : c + 1 ≤ 11 := by rw [HC.out]; exact hc2
          clear hv2 hc2 hd hvd hcd
          go_wp2
          go_round
          case rel => exact ⟨m + 1, v * 10 + (s[m].toNat - 48), c + 1, by omega, by omega, by go_num, by rw [HX.out], by go_num, hv3, hc3, HV, HC⟩
          case measure => simp [intOf]; omega
        · have HV : Hid (v = dval (s.data.toList.take (m + 1))) := Lib.hid (by rw [dval_step s m hlt, if_neg hd, hvd.out])
          have HC : Hid (c = dcnt (s.data.toList.take (m + 1))) := Lib.hid (by rw [dcnt_step s m hlt, if_neg hd, hcd.out])
          have hr : ¬ (48 ≤ s[m].toNat ∧ s[m].toNat ≤ 57) := fun g => hd ((dig_iff s[m]).2 g)
          clear hv2 hc2 hd hvd hcd
          by_cases h1 : 48 ≤ s[m].toNat
          · have h2 : ¬ s[m].toNat ≤ 57 := by omega
            clear hr
            go_wp2
            go_round
            case rel => exact ⟨m + 1, v, c, by omega, by omega, by go_num, rfl, rfl, hv, hc, HV, HC⟩
            case measure => simp [intOf]; omega
          · clear hr
            go_wp2
            go_round
            case rel => exact ⟨m + 1, v, c, by omega, by omega, by go_num, rfl, rfl, hv, hc, HV, HC⟩
            case measure => simp [intOf]; omega
      · have hpos : 0 < s.size := by omega
        have H := Lib.hid (parI_long (l := s.data.toList) (by simp; omega))
        have g10 : (10 : Int) < (s.size : Int) := by omega
        by_cases hc9 : 9 < c
        · go_wp2
          all_goals
            go_ret2
            exact ⟨ret_par H.out rfl, Below.refl _ _⟩
        · go_wp2
          all_goals
            go_ret2
            exact ⟨ret_par H.out rfl, Below.refl _ _⟩
    · have hge : ¬ ((m : Int) < (s.size : Int)) := by omega
      obtain rfl : m = s.size := by omega
      have HT : s.data.toList.take s.size = s.data.toList := List.take_of_length_le (by simp)
      rw [HT] at hvd hcd
      clear HT
      by_cases hc9 : 9 < c
      · have H := Lib.hid (parI_many (l := s.data.toList) (by rw [← hcd.out]; exact hc9))
        go_wp2
        all_goals
          go_ret2
          exact ⟨ret_par H.out rfl, Below.refl _ _⟩
      · by_cases h10 : 10 < s.size
        · have H := Lib.hid (parI_long (l := s.data.toList) (by simpa using h10))
          go_wp2
          all_goals
            go_ret2
            exact ⟨ret_par H.out rfl, Below.refl _ _⟩
        · have h9 := Lib.hid (show dcnt s.data.toList ≤ 9 by rw [← hcd.out]; omega)
          by_cases hpos : 0 < s.size
          · have hng := neg_at s hpos
            by_cases h45 : s[0].toNat = 45
            · have hn : neg s.data.toList = true := by rw [hng]; exact decide_eq_true h45
              have hq : ((s[0].toNat : Int) == 45) = true := by rw [beq_iff_eq]; omega
              clear hng h45
              have HA := Lib.hid (fun w => specFmt (-(v : Int)) w (by omega) (by omega))
              have HN := Lib.hid (show sval s.data.toList = (-(v : Int)) by rw [sval_neg hn, ← hvd.out])
              by_cases hx : (⟨(Lib.itoa (-(v : Int))).toArray⟩ : ByteArray).toList = s.toList
              · have H := Lib.hid (parI_ok (l := s.data.toList) (by rw [HN.out]; exact (text_eq _ s).1 hx) h9.out)
                have heq : (!(⟨(Lib.itoa (-(v : Int))).toArray⟩ : ByteArray).toList == s.toList) = false := by simp [hx]
                generalize (⟨(Lib.itoa (-(v : Int))).toArray⟩ : ByteArray) = X at HA heq hx
                clear hx hvd hcd
                go_wp2_with (go_at_call 17; refine (HA.out _).mono ?_; rintro e w1 ⟨rfl, hb1⟩)
                go_ret2
                exact ⟨ret_par (a := (-(v : Int))) H.out HN.out.symm, hb1⟩
              · have H := Lib.hid (parI_text (l := s.data.toList) (fun g => hx ((text_eq _ s).2 (by rw [HN.out] at g; exact g))))
                have heq : (!(⟨(Lib.itoa (-(v : Int))).toArray⟩ : ByteArray).toList == s.toList) = true := by rw [Bool.not_eq_true', beq_eq_false_iff_ne]; exact hx
                generalize (⟨(Lib.itoa (-(v : Int))).toArray⟩ : ByteArray) = X at HA heq hx
                clear hx hvd hcd
                go_wp2_with (go_at_call 17; refine (HA.out _).mono ?_; rintro e w1 ⟨rfl, hb1⟩)
                go_ret2
                exact ⟨ret_par H.out rfl, hb1⟩
            · have hn : neg s.data.toList = false := by rw [hng]; exact decide_eq_false h45
              have hq : ((s[0].toNat : Int) == 45) = false := by rw [beq_eq_false_iff_ne]; omega
              clear hng h45
              have HA := Lib.hid (fun w => specFmt (v : Int) w (by omega) (by omega))
              have HN := Lib.hid (show sval s.data.toList = (v : Int) by rw [sval_pos hn, ← hvd.out])
              by_cases hx : (⟨(Lib.itoa (v : Int)).toArray⟩ : ByteArray).toList = s.toList
              · have H := Lib.hid (parI_ok (l := s.data.toList) (by rw [HN.out]; exact (text_eq _ s).1 hx) h9.out)
                have heq : (!(⟨(Lib.itoa (v : Int)).toArray⟩ : ByteArray).toList == s.toList) = false := by simp [hx]
                generalize (⟨(Lib.itoa (v : Int)).toArray⟩ : ByteArray) = X at HA heq hx
                clear hx hvd hcd
                go_wp2_with (go_at_call 17; refine (HA.out _).mono ?_; rintro e w1 ⟨rfl, hb1⟩)
                go_ret2
                exact ⟨ret_par (a := (v : Int)) H.out HN.out.symm, hb1⟩
              · have H := Lib.hid (parI_text (l := s.data.toList) (fun g => hx ((text_eq _ s).2 (by rw [HN.out] at g; exact g))))
                have heq : (!(⟨(Lib.itoa (v : Int)).toArray⟩ : ByteArray).toList == s.toList) = true := by rw [Bool.not_eq_true', beq_eq_false_iff_ne]; exact hx
                generalize (⟨(Lib.itoa (v : Int)).toArray⟩ : ByteArray) = X at HA heq hx
                clear hx hvd hcd
                go_wp2_with (go_at_call 17; refine (HA.out _).mono ?_; rintro e w1 ⟨rfl, hb1⟩)
                go_ret2
                exact ⟨ret_par H.out rfl, hb1⟩
          · have hn : neg s.data.toList = false := neg_nil s (by omega)
            have HA := Lib.hid (fun w => specFmt (v : Int) w (by omega) (by omega))
            have HN := Lib.hid (show sval s.data.toList = (v : Int) by rw [sval_pos hn, ← hvd.out])
            by_cases hx : (⟨(Lib.itoa (v : Int)).toArray⟩ : ByteArray).toList = s.toList
            · have H := Lib.hid (parI_ok (l := s.data.toList) (by rw [HN.out]; exact (text_eq _ s).1 hx) h9.out)
              have heq : (!(⟨(Lib.itoa (v : Int)).toArray⟩ : ByteArray).toList == s.toList) = false := by simp [hx]
              generalize (⟨(Lib.itoa (v : Int)).toArray⟩ : ByteArray) = X at HA heq hx
              clear hx hvd hcd
              go_wp2_with (go_at_call 17; refine (HA.out _).mono ?_; rintro e w1 ⟨rfl, hb1⟩)
              go_ret2
              exact ⟨ret_par (a := (v : Int)) H.out HN.out.symm, hb1⟩
            · have H := Lib.hid (parI_text (l := s.data.toList) (fun g => hx ((text_eq _ s).2 (by rw [HN.out] at g; exact g))))
              have heq : (!(⟨(Lib.itoa (v : Int)).toArray⟩ : ByteArray).toList == s.toList) = true := by rw [Bool.not_eq_true', beq_eq_false_iff_ne]; exact hx
              generalize (⟨(Lib.itoa (v : Int)).toArray⟩ : ByteArray) = X at HA heq hx
              clear hx hvd hcd
              go_wp2_with (go_at_call 17; refine (HA.out _).mono ?_; rintro e w1 ⟨rfl, hb1⟩)
              go_ret2
              exact ⟨ret_par H.out rfl, hb1⟩
end Go.Proofs.YtaiaigenobeleaaDoor
namespace Go.Proofs.YtaiaigenobeleaaDoor
open Go.RowKit
set_option linter.unusedVariables false
/-- 'append(out, x..)', with what else stays: all blocks but out's own; and where the result lies. -/
theorem append_ints_at {w : World} {ops : Array Oper} {rest : List Oper} {o : Oper} {a : Act} {Q : Exit → Act → World → Prop} (hgd : o.guard = none) (s x : Operand)
    (ho : o.op = .call { callee := .builtin .append, args := #[s, x], argTypes := #[23, 23] })
    (B : Nat) (v : Value) (xs : List Int) (hs : a.eval s = v) (hown : OwnsN w B v xs) (hB : B ≤ w.heap.size)
    (C : Array Value) (ys : List Int) (m c : Nat) (hx : a.eval x = .slice (some ⟨w.heap.size, 0, none⟩) m c) (hC : C.toList = ys.map (Value.int .i64)) (hm : m = ys.length)
    (h63 : xs.length + ys.length ≤ 17592186044416)
    (h : ∀ v' w', OwnsN w' B v' (xs ++ ys) → Below B w w' → w.grownBy w' v.ownBlock → (v'.ownBlock = v.ownBlock ∨ ∃ k, v'.ownBlock = some k ∧ w.heap.size ≤ k) → wpList Tryd.prog ops Q rest (a.put o.dst v') w') : wpList Tryd.prog ops Q (o :: rest) a (w.alloc (.cells C 3)) := by
  obtain ⟨i0, hi, hz0, hz1, hz2⟩ := info_parts Tryd.infoI64
  subst hm
  refine wpList_append_own_at _ hgd s x 23 ho B 3 i0 (.int .i64 0) 1 8 Tryd.underlying23 hi hz0 hz1 hz2 rfl (by decide) v xs.length _ hs (hown.alloc _) ⟨w.heap.size, 0, none⟩ ys.length c (ys.map (Value.int .i64)) hx (by simp) ?_ (by intro u hu; simp at hu; obtain ⟨y, _, rfl⟩ := hu; rfl) (by unfold maxLen; omega) (by omega) (by simp; omega) ?_
  · intro j u hj
    have e : (⟨w.heap.size, 0, none⟩ : Addr).add j = ⟨w.heap.size, j, none⟩ := by unfold Addr.add; split <;> simp_all
    rw [e, cell_lit]
    rw [← hC] at hj
    simpa using hj
  · intro v' w' h1 h2 _ h4
    refine h v' w' ?_ ?_ ?_ ?_
    · unfold OwnsN
      simpa using h1
    · exact ((Below.refl B w).alloc hB _).grown h2 (by simp; omega) (fun k hk => (hown.lt k hk).1)
    · have hg := World.grownBy_alloc w (.cells C 3) v.ownBlock
      exact ⟨h2.os.trans hg.os, h2.tape.trans hg.tape, h2.output.trans hg.output, Nat.le_trans hg.size h2.size, fun k hk hne => (h2.block k (Nat.lt_of_lt_of_le hk hg.size) hne).trans (hg.block k hk hne)⟩
    · rcases h4 with h4 | h4
      · exact Or.inl h4
      · exact Or.inr ⟨_, h4, by simp⟩
/-- Two slices of the call's own lie in blocks of their own. -/
def Apart (v u : Value) : Prop := u.ownBlock = none ∨ v.ownBlock ≠ u.ownBlock
theorem ownsS_kept {w w' : World} {B : Nat} {v u : Value} {ts : List ByteArray} (h : OwnsS w B u ts) (hg : w.grownBy w' v.ownBlock) (hp : Apart v u) : OwnsS w' B u ts := by
  refine h.kept hg ?_
  rcases hp with e | e
  · exact Or.inl e
  · exact Or.inr (fun g => e g.symm)
theorem apart_step {w : World} {B : Nat} {v v' u : Value} {ts : List ByteArray} (h : OwnsS w B u ts) (hp : Apart v u) (hat : v'.ownBlock = v.ownBlock ∨ ∃ k, v'.ownBlock = some k ∧ w.heap.size ≤ k) : Apart v' u := by
  rcases hp with e | e
  · exact Or.inl e
  · rcases hat with g | ⟨k, g, hk⟩
    · exact Or.inr (by rw [g]; exact e)
    · cases hu : u.ownBlock with
      | none => exact Or.inl hu
      | some j =>
        refine Or.inr ?_
        rw [g, hu]
        have := (h.lt j hu).2
        intro e2
        simp at e2
        omega
def numL (q : List UInt8) : Int := if (parI q).2 then (parI q).1 else -100000
def partTo (ps : List (List UInt8)) : Int := if ps.length = 2 then numL (ps.getD 1 []) else numL (ps.getD 0 [])
def partOk (ps : List (List UInt8)) : Bool := decide (ps.length ≤ 2 ∧ (0 ≤ numL (ps.getD 0 []) ∧ numL (ps.getD 0 []) ≤ 23) ∧ (numL (ps.getD 0 []) ≤ partTo ps ∧ partTo ps ≤ 23))
def partNums (ps : List (List UInt8)) : List Int := upN (numL (ps.getD 0 [])) (partTo ps - numL (ps.getD 0 []) + 1).toNat
def parGo : List Int → List (List UInt8) → Option (List Int)
  | out, [] => some out
  | out, q :: r => if partOk (cutL 45 q) then parGo (out ++ partNums (cutL 45 q)) r else none
def parSet (l : List UInt8) : List Int × Bool :=
  if l = [110, 111, 110, 101] then ([], true)
  else match parGo [] (cutL 32 l) with
    | none => ([], false)
    | some out => if fmtSet out = l then (out, true) else ([], false)
theorem parSet_none {l : List UInt8} (h : l = [110, 111, 110, 101]) : parSet l = ([], true) := by unfold parSet; rw [if_pos h]
theorem parSet_bad {l : List UInt8} (h : ¬ l = [110, 111, 110, 101]) (hg : parGo [] (cutL 32 l) = none) : parSet l = ([], false) := by unfold parSet; rw [if_neg h, hg]
theorem parSet_yes {l : List UInt8} {out : List Int} (h : ¬ l = [110, 111, 110, 101]) (hg : parGo [] (cutL 32 l) = some out) (hf : fmtSet out = l) : parSet l = (out, true) := by unfold parSet; rw [if_neg h, hg]; exact if_pos hf
theorem parSet_no {l : List UInt8} {out : List Int} (h : ¬ l = [110, 111, 110, 101]) (hg : parGo [] (cutL 32 l) = some out) (hf : ¬ fmtSet out = l) : parSet l = ([], false) := by unfold parSet; rw [if_neg h, hg]; exact if_neg hf
theorem parGo_hit {out : List Int} {P : List (List UInt8)} {k : Nat} (hk : k < P.length) (h : partOk (cutL 45 (P.getD k [])) = true) : parGo out (P.drop k) = parGo (out ++ partNums (cutL 45 (P.getD k []))) (P.drop (k + 1)) := by
  rw [List.drop_eq_getElem_cons hk]
  have e : P.getD k [] = P[k] := by simp [List.getD, hk]
  rw [e] at h ⊢
  show (if partOk (cutL 45 P[k]) then _ else _) = _
  rw [if_pos h]
theorem parGo_miss {out : List Int} {P : List (List UInt8)} {k : Nat} (hk : k < P.length) (h : partOk (cutL 45 (P.getD k [])) = false) : parGo out (P.drop k) = none := by
  rw [List.drop_eq_getElem_cons hk]
  have e : P.getD k [] = P[k] := by simp [List.getD, hk]
  rw [e] at h
  show (if partOk (cutL 45 P[k]) then _ else _) = _
  rw [h]; rfl
theorem cutGo_piece (b : UInt8) : ∀ (l p : List UInt8), ∀ q ∈ cutGo b p l, q.length ≤ p.length + l.length := by
  intro l
  induction l with
  | nil => intro p q hq; simp [cutGo] at hq; subst hq; simp
  | cons c r ih =>
    intro p q hq
    unfold cutGo at hq
    split at hq
    · rcases List.mem_cons.1 hq with e | e
      · subst e; simp
      · have := ih [] q e; simp at this ⊢; omega
    · have := ih (p ++ [c]) q hq; simp at this ⊢; omega
theorem cut_piece (b : UInt8) (l : List UInt8) (k : Nat) : ((cutL b l).getD k []).length ≤ l.length := by
  by_cases hk : k < (cutL b l).length
  · have e : (cutL b l).getD k [] = (cutL b l)[k] := by simp [List.getD, hk]
    have := cutGo_piece b l [] _ (List.getElem_mem hk)
    rw [e]
    simpa using this
  · have e : (cutL b l).getD k [] = [] := by rw [List.getD, List.getElem?_eq_none (Nat.le_of_not_lt hk)]; rfl
    rw [e]; simp
theorem cut_len (b : UInt8) (l : List UInt8) : (cutL b l).length ≤ l.length + 1 := cutGo_len b l []
theorem cutGo_pos (b : UInt8) : ∀ (l p : List UInt8), 0 < (cutGo b p l).length := by
  intro l
  induction l with
  | nil => intro p; simp [cutGo]
  | cons c r ih => intro p; unfold cutGo; split; · simp
                   · exact ih _
theorem cut_pos (b : UInt8) (l : List UInt8) : 0 < (cutL b l).length := cutGo_pos b l []
theorem ret_n {a b : Int} (h : a = b) : Ending.returned (.int .i64 a) = .returned (.int .i64 b) := by rw [h]
set_option maxHeartbeats 1000000 in
theorem specNum (q : List UInt8) (w : World) (hs : q.length ≤ 1048576) : Calls Tryd.prog 31 #[.string (strB q)] w fun e w' => e = .returned (.int .i64 (numL q)) ∧ Below w.heap.size w w' := by
  have HP := Lib.hid (fun w => specPar (strB q) w (by rw [strB_size]; exact hs))
  go_enter Tryd.func31, Tryd.ntmps31
  go_wp2_with fail
  refine (HP.out _).mono ?_
  rintro e w1 ⟨rfl, b1⟩
  have e1 : (strB q).data.toList = q := rfl
  rw [e1]
  cases h2 : (parI q).2 with
  | true =>
    have HN : Hid (numL q = (parI q).1) := Lib.hid (by unfold numL; rw [h2]; rfl)
    clear h2
    generalize (parI q).1 = n at HN ⊢
    go_wp2
    go_ret
    exact ⟨ret_n HN.out.symm, b1⟩
  | false =>
    have HN : Hid (numL q = -100000) := Lib.hid (by unfold numL; rw [h2]; rfl)
    clear h2
    generalize (parI q).1 = n
    go_wp2
    go_ret
    exact ⟨ret_n HN.out.symm, b1⟩
end Go.Proofs.YtaiaigenobeleaaDoor
namespace Go.Proofs.YtaiaigenobeleaaDoor
open Go.RowKit
set_option linter.unusedVariables false
/-- A row: its number and its values. -/
abbrev RowD := Int × List Int
/-- The value of a row whose values lie in vv. -/
def rowVal (r : RowD) (vv : Value) : Value := .agg #[.int .i64 r.1, vv]
/-- The value v reads as the row r. -/
def RowV (w : World) (v : Value) (r : RowD) : Prop := ∃ vv, v = .agg #[.int .i64 r.1, vv] ∧ Ints w vv r.2
theorem rowV_below {W w : World} {v : Value} {r : RowD} (h : RowV W v r) (hb : Below W.heap.size W w) : RowV w v r := by
  obtain ⟨vv, e, hi⟩ := h
  exact ⟨vv, e, ints_below hi hb⟩
/-- A row in new memory is answered. -/
def FreshRow (w : World) (r : RowD) (e : Ending) (w' : World) : Prop := ∃ vv, e = .returned (.agg #[.int .i64 r.1, vv]) ∧ OwnsN w' w.heap.size vv r.2 ∧ Below w.heap.size w w'
theorem szInt_yes (a : Option Addr) (cap n : Nat) (k : Int) (w : World) (h : (n : Int) ≤ k) (hk : k ≤ 1048576) :
    Calls Tryd.prog 15 #[.slice a n cap, .int .i64 k] w fun e w' => e = .returned (.int .i64 (k - (n : Int))) ∧ w' = w := by
  have h0 : ¬ k - (n : Int) < 0 := by omega
  go_enter Tryd.func15, Tryd.ntmps15
  go_wp2
  go_ret
  exact ⟨rfl, rfl⟩
theorem szInt_no (a : Option Addr) (cap n : Nat) (k : Int) (w : World) (h : k < (n : Int)) (hk : 0 ≤ k) (hn : (n : Int) ≤ 9223372036854775807) :
    Calls Tryd.prog 15 #[.slice a n cap, .int .i64 k] w fun e w' => e = .returned (.int .i64 (-1)) ∧ w' = w := by
  have h0 : k - (n : Int) < 0 := by omega
  go_enter Tryd.func15, Tryd.ntmps15
  go_wp2
  go_ret
  exact ⟨rfl, rfl⟩
theorem grow_set (w : World) (c j : Nat) (u : Value) : w.grownBy (w.setCell ⟨c, j, none⟩ u) (some c) :=
  ⟨rfl, rfl, rfl, by simp [World.setCell], fun k _ hk => heap_setCell_other w ⟨c, j, none⟩ k u (fun e => hk (by simp [e]))⟩
/-- A store into a block below what is owned. -/
theorem ownsN_low {w : World} {C : Nat} {v : Value} {xs : List Int} (h : OwnsN w C v xs) {b : Nat} (hb : b < C) (j : Nat) (u : Value) : OwnsN (w.setCell ⟨b, j, none⟩ u) C v xs := by
  refine h.kept (grow_set w b j u) ?_
  cases hv : v.ownBlock with
  | none => exact Or.inl rfl
  | some k => exact Or.inr (by intro e; have := (h.lt k hv).1; simp at e; omega)
theorem ownsN_up {w : World} {B C : Nat} {v : Value} {xs : List Int} (h : OwnsN w C v xs) (hb : B ≤ C) : OwnsN w B v xs := by
  refine ⟨h.1, ?_⟩
  rcases h.2 with hn | ⟨g, cap, cur, e, hb', rest⟩
  · exact .inl hn
  · exact .inr ⟨g, cap, cur, e, Nat.le_trans hb hb', rest⟩
end Go.Proofs.YtaiaigenobeleaaDoor
namespace Go.Proofs.YtaiaigenobeleaaDoor
open Go.RowKit
set_option linter.unusedVariables false
/-- Is it a row? -/
def rowB (r : RowD) : Bool := decide (0 ≤ r.1 ∧ r.1 ≤ 999) && (r.2.all (fun x => decide (0 ≤ x ∧ x ≤ 99)) && decide (r.2.length = 3))
theorem rowB_bad {id : Int} {xs : List Int} {k : Nat} (hk : k < xs.length) (h : ¬ (0 ≤ xs.getD k 0 ∧ xs.getD k 0 ≤ 99)) : rowB (id, xs) = false := by
  have e : xs.getD k 0 = xs[k] := by simp [List.getD, hk]
  rw [e] at h
  have : (xs.all fun x => decide (0 ≤ x ∧ x ≤ 99)) = false := by
    rw [Bool.eq_false_iff]
    intro g
    rw [List.all_eq_true] at g
    exact h (of_decide_eq_true (g _ (List.getElem_mem hk)))
  unfold rowB
  simp only [this]
  simp
theorem rowB_all {id : Int} {xs : List Int} (h : ∀ k, k < xs.length → 0 ≤ xs.getD k 0 ∧ xs.getD k 0 ≤ 99) : rowB (id, xs) = (decide (0 ≤ id ∧ id ≤ 999) && decide (xs.length = 3)) := by
  have : (xs.all fun x => decide (0 ≤ x ∧ x ≤ 99)) = true := by
    rw [List.all_eq_true]
    intro x hx
    obtain ⟨k, hk, rfl⟩ := List.getElem_of_mem hx
    have := h k hk
    have e : xs.getD k 0 = xs[k] := by simp [List.getD, hk]
    rw [e] at this
    exact decide_eq_true this
  unfold rowB
  simp only [this, Bool.true_and]
end Go.Proofs.YtaiaigenobeleaaDoor
namespace Go.Proofs.YtaiaigenobeleaaDoor
open Go.RowKit
set_option linter.unusedVariables false
/-- The slice v reads as the rows rs; vs: where their values lie. -/
def RowsR (w : World) (v : Value) (rs : List RowD) : Prop :=
  (rs = [] ∧ ∃ a cap, v = .slice a 0 cap) ∨ ∃ (b off cap : Nat) (vs : Nat → Value), v = .slice (some ⟨b, off, none⟩) rs.length cap ∧ rs.length ≤ cap ∧ b < w.heap.size ∧
    ∀ j, j < rs.length → w.cell? ⟨b, off + j * 2, none⟩ = some (.int .i64 (rs.getD j (0, [])).1) ∧ w.cell? ⟨b, off + j * 2 + 1, none⟩ = some (vs j) ∧ Ints w (vs j) (rs.getD j (0, [])).2
theorem rowsR_len {w : World} {v : Value} {rs : List RowD} (h : RowsR w v rs) : ∃ a cap, v = .slice a rs.length cap := by
  rcases h with ⟨rfl, a, cap, rfl⟩ | ⟨b, off, cap, vs, rfl, _⟩
  · exact ⟨a, cap, rfl⟩
  · exact ⟨_, cap, rfl⟩
theorem rowsR_below {W w : World} {v : Value} {rs : List RowD} (h : RowsR W v rs) (hb : Below W.heap.size W w) : RowsR w v rs := by
  rcases h with h | ⟨b, off, cap, vs, h1, h2, h3, h4⟩
  · exact Or.inl h
  · refine Or.inr ⟨b, off, cap, vs, h1, h2, Nat.lt_of_lt_of_le h3 hb.size, fun j hj => ?_⟩
    obtain ⟨g1, g2, g3⟩ := h4 j hj
    exact ⟨(hb.cell (p := ⟨b, off + j * 2, none⟩) h3).trans g1, (hb.cell (p := ⟨b, off + j * 2 + 1, none⟩) h3).trans g2, ints_below g3 hb⟩
theorem rowsR_at {w : World} {v : Value} {rs : List RowD} (h : RowsR w v rs) {k : Nat} (hk : k < rs.length) : ∃ (b off cap : Nat) (vv : Value), v = .slice (some ⟨b, off, none⟩) rs.length cap ∧ b < w.heap.size ∧
    w.cell? ⟨b, off + k * 2, none⟩ = some (.int .i64 (rs.getD k (0, [])).1) ∧ w.cell? ⟨b, off + k * 2 + 1, none⟩ = some vv ∧ Ints w vv (rs.getD k (0, [])).2 := by
  rcases h with ⟨rfl, _⟩ | ⟨b, off, cap, vs, h1, h2, h3, h4⟩
  · simp at hk
  · obtain ⟨g1, g2, g3⟩ := h4 k hk
    exact ⟨b, off, cap, vs k, h1, h3, g1, g2, g3⟩
/-- How many values and elements the first k rows hold. -/
def szTo (rs : List RowD) (k : Nat) : Nat := rs.length + ((rs.take k).map fun r => r.2.length).sum
def szL (rs : List RowD) : Nat := szTo rs rs.length
theorem szTo_zero (rs : List RowD) : szTo rs 0 = rs.length := by simp [szTo]
theorem szTo_step {rs : List RowD} {k : Nat} (hk : k < rs.length) : szTo rs (k + 1) = szTo rs k + (rs.getD k (0, [])).2.length := by
  unfold szTo
  have e : rs.getD k (0, []) = rs[k] := by simp [List.getD, hk]
  rw [e, List.take_succ_eq_append_getElem hk, List.map_append, List.sum_append]
  simp; omega
theorem szTo_le {rs : List RowD} {k : Nat} (hk : k ≤ rs.length) : szTo rs k ≤ szL rs := by
  unfold szL szTo
  obtain ⟨d, hd⟩ : ∃ d, rs.length = k + d := ⟨rs.length - k, by omega⟩
  have : rs = rs.take k ++ rs.drop k := (List.take_append_drop k rs).symm
  have h2 : (rs.map fun r => r.2.length).sum = ((rs.take k).map fun r => r.2.length).sum + ((rs.drop k).map fun r => r.2.length).sum := by
    rw [← List.sum_append, ← List.map_append, List.take_append_drop]
  rw [List.take_length, h2]
  omega
end Go.Proofs.YtaiaigenobeleaaDoor
namespace Go.Proofs.YtaiaigenobeleaaDoor
open Go.RowKit
set_option linter.unusedVariables false
theorem ownsRow_below {w w' : World} {B : Nat} {e : TypeId} {size : Nat} {v : Value} {n : Nat} {xs : List Value} (h : w.ownsRow B e size v n xs) (hb : Below w.heap.size w w') : w'.ownsRow B e size v n xs := by
  refine ⟨h.1, ?_⟩
  rcases h.2 with hn | ⟨g, cap, cur, rfl, hb', hg, rest⟩
  · exact .inl hn
  · refine .inr ⟨g, cap, cur, rfl, hb', ?_, rest⟩
    rw [hb.block g (Array.getElem?_eq_some_iff.1 hg).1]
    exact hg
theorem madeRow_at (n j : Nat) (hj : j < n) : (madeCells #[Value.int .i64 0, Value.slice none 0 0] (n * 2)).toList[j * 2]? = some (.int .i64 0) ∧ (madeCells #[Value.int .i64 0, Value.slice none 0 0] (n * 2)).toList[j * 2 + 1]? = some (.slice none 0 0) := by
  have e1 : (j * 2) % 2 = 0 := by omega
  have e2 : (j * 2 + 1) % 2 = 1 := by omega
  constructor
  · rw [Array.getElem?_toList]
    unfold madeCells
    rw [Array.getElem?_map, Array.getElem?_range]
    simp [e1, show j * 2 < n * 2 by omega]
  · rw [Array.getElem?_toList]
    unfold madeCells
    rw [Array.getElem?_map, Array.getElem?_range]
    simp [e2, show j * 2 + 1 < n * 2 by omega]
end Go.Proofs.YtaiaigenobeleaaDoor
namespace Go.Proofs.YtaiaigenobeleaaDoor
open Go.RowKit
set_option linter.unusedVariables false
theorem ints_heap {w w' : World} {v : Value} {xs : List Int} (h : Ints w v xs) (hh : w'.heap = w.heap) : Ints w' v xs := by
  rcases h with h | ⟨b, off, cap, h1, h2, h3, h4⟩
  · exact Or.inl h
  · refine Or.inr ⟨b, off, cap, h1, h2, by rw [hh]; exact h3, fun j hj => ?_⟩
    have := h4 j hj
    unfold World.cell? at this ⊢
    rw [hh]; exact this
theorem box_cells {W w : World} {t : TypeId} {x y : Value} {b : Nat} (h : W.heap[b]? = some (.cells #[x, y] t (0, 0))) (hb : Below W.heap.size W w) :
    w.cell? ⟨b, 0, none⟩ = some x ∧ w.cell? ⟨b, 1, none⟩ = some y := by
  have hlt := (Array.getElem?_eq_some_iff.1 h).1
  have h' := (hb.block b hlt).trans h
  exact ⟨(cell_of_row w b 0 _ _ _ h').trans rfl, (cell_of_row w b 1 _ _ _ h').trans rfl⟩
theorem below_drew {B : Nat} {a w : World} (h : Below B a w) : Below B a w.drew := ⟨h.os, h.tape, h.output, h.size, h.block⟩
end Go.Proofs.YtaiaigenobeleaaDoor
namespace Go.Proofs.YtaiaigenobeleaaDoor
open Go.RowKit
set_option linter.unusedVariables false
theorem rows_copied (rs : List RowD) (k : Nat) (h : k < rs.length) : (rs.take k ++ List.replicate (rs.length - k) (0, [])).set k (rs.getD k (0, [])) = rs.take (k + 1) ++ List.replicate (rs.length - (k + 1)) (0, []) := by
  have hk : (rs.take k).length = k := by rw [List.length_take]; omega
  rw [List.set_append_right _ _ (by omega), hk, Nat.sub_self, show rs.length - k = (rs.length - (k + 1)) + 1 by omega, List.replicate_succ, List.set_cons_zero, List.take_succ_eq_append_getElem h, List.append_assoc]
  simp [List.getD, h]
end Go.Proofs.YtaiaigenobeleaaDoor
namespace Go.Proofs.YtaiaigenobeleaaDoor
open Go.RowKit
set_option linter.unusedVariables false
theorem below_dn {B : Nat} {a w : World} (h : Below B a w) (q : Nat) : Below B a (w.drewN q) := ⟨h.os, h.tape, h.output, h.size, h.block⟩
theorem list_ne_at {xs ys : List Int} {k : Nat} (hx : k < xs.length) (h : ¬ xs.getD k 0 = ys.getD k 0) : ¬ xs = ys := fun e => h (by rw [e])
theorem list_eq_all {xs ys : List Int} (hl : xs.length = ys.length) (h : ∀ j, j < xs.length → xs.getD j 0 = ys.getD j 0) : xs = ys := by
  apply List.ext_getElem hl
  intro i h1 h2
  have := h i h1
  simpa [List.getD, h1, h2] using this
theorem szL_row {rs : List RowD} (hs : szL rs ≤ 1048576) {k : Nat} (hk : k < rs.length) : (rs.getD k (0, [])).2.length ≤ 1048576 := by
  have h1 := szTo_step hk
  have h2 := szTo_le (rs := rs) (k := k + 1) (by omega)
  omega
theorem szL_len {rs : List RowD} (hs : szL rs ≤ 1048576) : rs.length ≤ 1048576 := by
  have := szTo_le (rs := rs) (Nat.zero_le _); rw [szTo_zero] at this; omega
theorem rows_ne_at {rs ss : List RowD} {k : Nat} (h : ¬ rs.getD k (0, []) = ss.getD k (0, [])) : ¬ rs = ss := fun e => h (by rw [e])
theorem rows_eq_all {rs ss : List RowD} (hl : rs.length = ss.length) (h : ∀ j, j < rs.length → rs.getD j (0, []) = ss.getD j (0, [])) : rs = ss := by
  apply List.ext_getElem hl
  intro i h1 h2
  have := h i h1
  simpa [List.getD, h1, h2] using this
end Go.Proofs.YtaiaigenobeleaaDoor
namespace Go.Proofs.YtaiaigenobeleaaDoor
open Go.RowKit
set_option linter.unusedVariables false
theorem take_runs {P : Program} {ops : Array Oper} {Q : Exit → Act → World → Prop} {md : Region.Mode} {S : World → Prop} {i : Nat} {oi : Oper} {d : Option Tmp} {v : Value} {fuel : Nat} {listed : Array Bool} {a : Act} {w : World} (hi : ops[i]? = some oi)
    (hs : Region.noSelect ops = true) (hf : Region.free md ops listed i = true) (hr : (Region.ready md ops listed).contains i = true) (hd : oi.dst = d)
    (hQ : ∀ c a w, Q (.panic c) (a.put oi.dst v) w → Q (.panic c) a w) (hw : Region.wanted oi (yielded ops a.tmps) = true) (hy : ∀ w, S w → (execOp a.eval oi).run P w = .ok (.value v) w) (hS : S w)
    (h : wpAnyH P md ops Q S fuel (listed.setIfInBounds i true) (a.put d v) w) : wpAnyH P md ops Q S (fuel + 1) listed a w := by
  subst hd
  exact wpAnyH_take hi hs hf hr hQ (Or.inl ⟨hw, hy⟩) hS h
theorem take_over {P : Program} {ops : Array Oper} {Q : Exit → Act → World → Prop} {md : Region.Mode} {S : World → Prop} {i : Nat} {oi : Oper} {d : Option Tmp} {fuel : Nat} {listed : Array Bool} {a : Act} {w : World} (hi : ops[i]? = some oi)
    (hs : Region.noSelect ops = true) (hf : Region.free md ops listed i = true) (hr : (Region.ready md ops listed).contains i = true) (hd : oi.dst = d)
    (hQ : ∀ c a w, Q (.panic c) (a.put oi.dst undef) w → Q (.panic c) a w) (hw : Region.wanted oi (yielded ops a.tmps) = false) (hS : S w)
    (h : wpAnyH P md ops Q S fuel (listed.setIfInBounds i true) (a.put d undef) w) : wpAnyH P md ops Q S (fuel + 1) listed a w := by
  subst hd
  exact wpAnyH_take hi hs hf hr hQ (Or.inr ⟨hw, rfl⟩) hS h
end Go.Proofs.YtaiaigenobeleaaDoor
namespace Go.Proofs.YtaiaigenobeleaaDoor
open Go.RowKit
set_option linter.unusedVariables false
set_option linter.unusedSimpArgs false
/-- The number behind the letter b. -/
def aftL (b : UInt8) (l : List UInt8) : Int := if 2 ≤ l.length ∧ l.getD 0 0 = b then numL (l.drop 1) else -100000
theorem drop_strB (s : ByteArray) (m : Nat) : s.extract m s.size = strB (s.data.toList.drop m) := by
  apply ByteArray.ext
  apply Array.ext'
  simp [strB]
  exact List.take_of_length_le (by simp)
theorem take_strB (s : ByteArray) (m : Nat) (h : m ≤ s.size) : s.extract 0 m = strB (s.data.toList.take m) := by
  apply ByteArray.ext
  apply Array.ext'
  simp [strB]
set_option maxHeartbeats 2000000 in
set_option maxRecDepth 100000 in
theorem specAfter (s : ByteArray) (b : UInt8) (c : Int) (w : World) (hc : (b.toNat : Int) = c) (hs : s.size ≤ 1048576) :
    Calls Tryd.prog 29 #[.string s, .int .u8 c] w fun e w' => e = .returned (.int .i64 (aftL b s.data.toList)) ∧ Below w.heap.size w w' := by
  subst hc
  have hl : s.data.toList.length = s.size := by simp
  by_cases h2 : s.size < 2
  · have HF : Hid (aftL b s.data.toList = -100000) := Lib.hid (by unfold aftL; rw [if_neg (by omega)])
    have i2 : (s.size : Int) < 2 := by omega
    have d2 : decide ((s.size : Int) < 2) = true := decide_eq_true i2
    clear h2 hl
    go_enter Tryd.func29, Tryd.ntmps29
    go_wp2
    go_ret
    exact ⟨ret_n HF.out.symm, Below.refl _ _⟩
  · have i2 : ¬ (s.size : Int) < 2 := by omega
    have d2 : decide ((s.size : Int) < 2) = false := decide_eq_false i2
    have i0 : (0 : Int) < (s.size : Int) := by omega
    have i1 : (1 : Int) ≤ (s.size : Int) := by omega
    have h0 : 0 < s.size := by omega
    have h1 : 1 ≤ s.size := by omega
    have g0 : s.data.toList.getD 0 0 = s[0] := by
      rw [List.getD_eq_getElem?_getD, List.getElem?_eq_getElem (by omega)]
      rfl
    by_cases hb : s[0] = b
    · have HF : Hid (aftL b s.data.toList = numL (s.data.toList.drop 1)) := Lib.hid (by unfold aftL; rw [if_pos ⟨by omega, by rw [g0]; exact hb⟩])
      have hbn : s[0].toNat = b.toNat := by rw [hb]
      have HN := Lib.hid (fun w => specNum (s.data.toList.drop 1) w (by simp only [List.length_drop]; omega))
      rw [← drop_strB] at HN
      clear h2 hl g0 hb
      go_enter Tryd.func29, Tryd.ntmps29
      go_wp2_with fail
      refine (HN.out _).mono ?_
      rintro e w1 ⟨rfl, b1⟩
      go_wp2
      go_ret
      exact ⟨ret_n (by rw [HF.out]; simp), b1⟩
    · have HF : Hid (aftL b s.data.toList = -100000) := Lib.hid (by unfold aftL; rw [if_neg (fun h => hb (by rw [← g0]; exact h.2))])
      have hbn : ¬ s[0].toNat = b.toNat := fun g => hb (UInt8.toNat_inj.1 g)
      clear h2 hl g0 hb
      go_enter Tryd.func29, Tryd.ntmps29
      go_wp2
      go_ret
      exact ⟨ret_n HF.out.symm, Below.refl _ _⟩
/-- The two numbers apart by the first two dots behind the bytes p. -/
def rngGo (p : List UInt8) : List UInt8 → Int × Int
  | a :: b :: r => if a = 46 ∧ b = 46 then (numL p, numL r) else rngGo (p ++ [a]) (b :: r)
  | _ => (-100000, -100000)
def rngL (l : List UInt8) : Int × Int := rngGo [] l
theorem rng_hit {p : List UInt8} {s : ByteArray} {m : Nat} (h : m + 1 < s.size) (h0 : s[m] = 46) (h1 : s[m + 1] = 46) : rngGo p (s.data.toList.drop m) = (numL p, numL (s.data.toList.drop (m + 2))) := by
  rw [drop_at s m (by omega), drop_at s (m + 1) h]
  unfold rngGo
  rw [if_pos ⟨h0, h1⟩]
theorem rng_miss {p : List UInt8} {s : ByteArray} {m : Nat} (h : m + 1 < s.size) (hn : ¬ (s[m] = 46 ∧ s[m + 1] = 46)) : rngGo p (s.data.toList.drop m) = rngGo (p ++ [s[m]]) (s.data.toList.drop (m + 1)) := by
  rw [drop_at s m (by omega), drop_at s (m + 1) h]
  conv => lhs; unfold rngGo
  rw [if_neg hn]
theorem rng_end {p : List UInt8} {s : ByteArray} {m : Nat} (h : ¬ m + 1 < s.size) : rngGo p (s.data.toList.drop m) = (-100000, -100000) := by
  by_cases h1 : m < s.size
  · rw [drop_at s m h1, List.drop_eq_nil_of_le (by simp; omega)]; rfl
  · rw [List.drop_eq_nil_of_le (by simp; omega)]; rfl
theorem ext_two (s : ByteArray) (m : Nat) (h : m + 1 < s.size) : s.extract m (m + 2) = strB [s[m], s[m + 1]] := by
  apply ByteArray.ext
  apply Array.ext'
  have e : s.data.toList.drop m = s[m] :: s[m + 1] :: s.data.toList.drop (m + 2) := by rw [drop_at s m (by omega), drop_at s (m + 1) h]
  simp only [ByteArray.data_extract, Array.toList_extract, List.extract_eq_take_drop, strB]
  rw [e, show m + 2 - m = 2 by omega]
  rfl
theorem take_next (s : ByteArray) (m : Nat) (h : m < s.size) : s.data.toList.take m ++ [s[m]] = s.data.toList.take (m + 1) := by
  rw [List.take_succ_eq_append_getElem (by simpa using h)]
  rfl
theorem ret_2i {a b c d : Int} (h : a = b) (g : c = d) : Ending.returned (.tuple #[.int .i64 a, .int .i64 c]) = .returned (.tuple #[.int .i64 b, .int .i64 d]) := by rw [h, g]
set_option maxHeartbeats 4000000 in
set_option maxRecDepth 100000 in
theorem specRange (s : ByteArray) (w : World) (hs : s.size ≤ 1048576) :
    Calls Tryd.prog 30 #[.string s] w fun e w' => e = .returned (.tuple #[.int .i64 (rngL s.data.toList).1, .int .i64 (rngL s.data.toList).2]) ∧ Below w.heap.size w w' := by
  go_enter Tryd.func30, Tryd.ntmps30
  go_wp2
  go_loopw [4] (fun i wr => ∃ m : Nat, m ≤ s.size ∧ i = .int .i64 m ∧ Hid (rngL s.data.toList = rngGo (s.data.toList.take m) (s.data.toList.drop m)) ∧ Below w.heap.size w wr) (fun i _ => s.size - (intOf i).toNat)
  case atStart => exact ⟨0, Nat.zero_le _, rfl, Lib.hid rfl, Below.refl _ _⟩
  case round =>
    obtain ⟨m, hm, rfl, hR, hbel⟩ := hrel
    by_cases hlt : m + 1 < s.size
    · have i1 : (0 : Int) ≤ (m : Int) := by omega
      have i2 : (m : Int) + 1 < (s.size : Int) := by omega
      have i3 : (m : Int) + 2 ≤ (s.size : Int) := by omega
      have i4 : m + 2 ≤ s.size := by omega
      have i5 : (0 : Int) ≤ (m : Int) + 2 := by omega
      have e3 : ((m : Int) + 2).toNat = m + 2 := by omega
      have e1 : IntKind.i64.wrap ((m : Int) + 1) = (m : Int) + 1 := IntWalk.i64_in _ (by omega)
      have e2 : IntKind.i64.wrap ((m : Int) + 2) = (m : Int) + 2 := IntWalk.i64_in _ (by omega)
      have hq : (s.extract m (m + 2)).toList = [s[m], s[m + 1]] := by rw [ext_two s m hlt, strB_toList]
      by_cases hb : s[m] = 46 ∧ s[m + 1] = 46
      · have HE : Hid (rngL s.data.toList = (numL (s.data.toList.take m), numL (s.data.toList.drop (m + 2)))) := Lib.hid (by rw [hR.out, rng_hit hlt hb.1 hb.2])
        have heq : ((s.extract m (m + 2)).toList == [46, 46]) = true := by rw [hq, hb.1, hb.2]; rfl
        have H1 := Lib.hid (fun w => specNum (s.data.toList.take m) w (by simp only [List.length_take]; omega))
        have H2 := Lib.hid (fun w => specNum (s.data.toList.drop (m + 2)) w (by simp only [List.length_drop, ByteArray.size_data, Array.length_toList]; omega))
        rw [← take_strB s m hm] at H1
        rw [← drop_strB] at H2
        clear hR hq hb
        generalize numL (s.data.toList.take m) = x at *
        generalize numL (s.data.toList.drop (m + 2)) = y at *
        go_wp2
        refine wp_region_held_drew (S := fun _ => True) (by kernel_rfl) trivial (fun hHeld => ?_)
        have e0 := below_drew (Below.refl wr.heap.size wr)
        refine take_runs (i := 0) (v := ?_) (by simp only [List.getElem?_toArray, List.getElem?_cons_succ, List.getElem?_cons_zero]; rfl) (by kernel_rfl) (by kernel_rfl) (by kernel_rfl) rfl (by exact fun _ _ _ h => h) (by rfl) ?_ (by assumption) ?_
        rotate_left
        · intro w hSw; (try dsimp only at hSw); go_simp; try (with_reducible rfl)
        try simp only [Act.put, List.setIfInBounds_toArray, List.set_cons_zero, List.set_cons_succ]
        refine take_runs (i := 1) (v := ?_) (by simp only [List.getElem?_toArray, List.getElem?_cons_succ, List.getElem?_cons_zero]; rfl) (by kernel_rfl) (by kernel_rfl) (by kernel_rfl) rfl (by exact fun _ _ _ h => h) (by rfl) ?_ (by assumption) ?_
        rotate_left
        · intro w hSw; (try dsimp only at hSw); go_simp; try (with_reducible rfl)
        try simp only [Act.put, List.setIfInBounds_toArray, List.set_cons_zero, List.set_cons_succ]
        refine take_runs (i := 2) (v := ?_) (by simp only [List.getElem?_toArray, List.getElem?_cons_succ, List.getElem?_cons_zero]; rfl) (by kernel_rfl) (by kernel_rfl) (by kernel_rfl) rfl (by exact fun _ _ _ h => h) (by rfl) ?_ (by assumption) ?_
        rotate_left
        · intro w hSw; (try dsimp only at hSw); go_simp; try (with_reducible rfl)
        try simp only [Act.put, List.setIfInBounds_toArray, List.set_cons_zero, List.set_cons_succ]
        refine take_runs (i := 4) (v := ?_) (by simp only [List.getElem?_toArray, List.getElem?_cons_succ, List.getElem?_cons_zero]; rfl) (by kernel_rfl) (by kernel_rfl) (by kernel_rfl) rfl (by exact fun _ _ _ h => h) (by rfl) ?_ (by assumption) ?_
        rotate_left
        · intro w hSw; (try dsimp only at hSw); go_simp; try (with_reducible rfl)
        try simp only [Act.put, List.setIfInBounds_toArray, List.set_cons_zero, List.set_cons_succ]
        refine take_runs (i := 5) (v := ?_) (by simp only [List.getElem?_toArray, List.getElem?_cons_succ, List.getElem?_cons_zero]; rfl) (by kernel_rfl) (by kernel_rfl) (by kernel_rfl) rfl (by exact fun _ _ _ h => h) (by rfl) ?_ (by assumption) ?_
        rotate_left
        · intro w hSw; (try dsimp only at hSw); go_simp; try (with_reducible rfl)
        try simp only [Act.put, List.setIfInBounds_toArray, List.set_cons_zero, List.set_cons_succ]
        refine take_runs (i := 6) (v := ?_) (by simp only [List.getElem?_toArray, List.getElem?_cons_succ, List.getElem?_cons_zero]; rfl) (by kernel_rfl) (by kernel_rfl) (by kernel_rfl) rfl (by exact fun _ _ _ h => h) (by rfl) ?_ (by assumption) ?_
        rotate_left
        · intro w hSw; (try dsimp only at hSw); go_simp; try (with_reducible rfl)
        try simp only [Act.put, List.setIfInBounds_toArray, List.set_cons_zero, List.set_cons_succ]
        refine take_runs (i := 7) (v := ?_) (by simp only [List.getElem?_toArray, List.getElem?_cons_succ, List.getElem?_cons_zero]; rfl) (by kernel_rfl) (by kernel_rfl) (by kernel_rfl) rfl (by exact fun _ _ _ h => h) (by rfl) ?_ (by assumption) ?_
        rotate_left
        · intro w hSw; (try dsimp only at hSw); go_simp; try (with_reducible rfl)
        try simp only [Act.put, List.setIfInBounds_toArray, List.set_cons_zero, List.set_cons_succ]
        refine wpAnyH_ready (rs := [3]) (by kernel_rfl) (by simp) ?_
        refine AllReadyH.cons (o := _) (by simp only [List.getElem?_toArray, List.getElem?_cons_succ, List.getElem?_cons_zero]; rfl) (fun K hK => ?_) AllReadyH.nil
        go_simp
        refine (H1.out _).mono ?_
        rintro e x1 ⟨rfl, c1⟩
        have f1 := e0.trans (c1.mono e0.size)
        refine hK.out _ _ trivial (fun hHeld => ?_)
        clear hK K
        try simp only [Act.put, List.setIfInBounds_toArray, List.set_cons_zero, List.set_cons_succ]
        refine wpAnyH_ready (rs := [8]) (by kernel_rfl) (by simp) ?_
        refine AllReadyH.cons (o := _) (by simp only [List.getElem?_toArray, List.getElem?_cons_succ, List.getElem?_cons_zero]; rfl) (fun K hK => ?_) AllReadyH.nil
        go_simp
        refine (H2.out _).mono ?_
        rintro e x2 ⟨rfl, c2⟩
        have f2 := f1.trans (c2.mono f1.size)
        refine hK.out _ _ trivial (fun hHeld => ?_)
        clear hK K
        try simp only [Act.put, List.setIfInBounds_toArray, List.set_cons_zero, List.set_cons_succ]
        refine take_runs (i := 9) (v := ?_) (by simp only [List.getElem?_toArray, List.getElem?_cons_succ, List.getElem?_cons_zero]; rfl) (by kernel_rfl) (by kernel_rfl) (by kernel_rfl) rfl (by exact fun _ _ _ h => h) (by rfl) ?_ (by assumption) ?_
        rotate_left
        · intro w hSw; (try dsimp only at hSw); go_simp; try (with_reducible rfl)
        try simp only [Act.put, List.setIfInBounds_toArray, List.set_cons_zero, List.set_cons_succ]
        refine take_runs (i := 10) (v := ?_) (by simp only [List.getElem?_toArray, List.getElem?_cons_succ, List.getElem?_cons_zero]; rfl) (by kernel_rfl) (by kernel_rfl) (by kernel_rfl) rfl (by exact fun _ _ _ h => h) (by rfl) ?_ (by assumption) ?_
        rotate_left
        · intro w hSw; (try dsimp only at hSw); go_simp; try (with_reducible rfl)
        try simp only [Act.put, List.setIfInBounds_toArray, List.set_cons_zero, List.set_cons_succ]
        refine wpAnyH_done (by kernel_rfl) ?_ _
        have b9 := hbel.trans (f2.mono hbel.size)
        go_wp2
        go_ret2
        exact ⟨ret_2i (by rw [HE.out]) (by rw [HE.out]), b9⟩
      · have HR : Hid (rngL s.data.toList = rngGo (s.data.toList.take (m + 1)) (s.data.toList.drop (m + 1))) := Lib.hid (by rw [hR.out, rng_miss hlt hb, take_next s m (by omega)])
        have heq : ((s.extract m (m + 2)).toList == [46, 46]) = false := by
          rw [hq, beq_eq_false_iff_ne]
          intro g
          simp only [List.cons.injEq, and_true] at g
          exact hb g
        clear hR hq hb
        go_wp2
        go_roundw
        case rel => exact ⟨m + 1, by omega, by go_num, HR, hbel⟩
        case measure => simp [intOf]; omega
    · have HE : Hid (rngL s.data.toList = (-100000, -100000)) := Lib.hid (by rw [hR.out, rng_end hlt])
      have i2 : ¬ (m : Int) + 1 < (s.size : Int) := by omega
      have e1 : IntKind.i64.wrap ((m : Int) + 1) = (m : Int) + 1 := IntWalk.i64_in _ (by omega)
      clear hR
      go_wp2
      go_ret2
      exact ⟨ret_2i (by rw [HE.out]) (by rw [HE.out]), hbel⟩
end Go.Proofs.YtaiaigenobeleaaDoor
