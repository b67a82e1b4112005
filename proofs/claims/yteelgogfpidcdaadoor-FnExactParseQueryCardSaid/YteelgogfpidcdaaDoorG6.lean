/-
  Texts of the proof, merged: RowParM, QueryProgM.
-/
import Derived.Test.YteelgogfpidcdaaDoorG5
import Derived.Lib.Split
import Derived.Lib.IndexMore
namespace Go.Proofs.YteelgogfpidcdaaDoor
open Go.RowKit
set_option linter.unusedVariables false
/-- The row that the pieces of a text name. -/
def rowOf (l : List UInt8) : RowD := (numL ((cutL 58 l).getD 0 []), if (cutL 58 l).length = 2 then (cutL 44 ((cutL 58 l).getD 1 [])).map numL else [])
def parRow (l : List UInt8) : RowD × Bool := if l = [] ∨ fmtRow (rowOf l) ≠ l then ((0, []), false) else (rowOf l, true)
theorem parRow_false {l : List UInt8} (h : ¬ (parRow l).2 = true) : parRow l = ((0, []), false) := by
  unfold parRow at h ⊢
  by_cases hc : l = [] ∨ fmtRow (rowOf l) ≠ l
  · rw [if_pos hc]
  · rw [if_neg hc] at h; exact absurd rfl h
theorem parRow_no {l : List UInt8} (h : l = [] ∨ fmtRow (rowOf l) ≠ l) : parRow l = ((0, []), false) := if_pos h
theorem parRow_yes {l : List UInt8} (h1 : ¬ l = []) (h2 : fmtRow (rowOf l) = l) : parRow l = (rowOf l, true) := if_neg (fun g => g.elim h1 (fun h => h h2))
/-- The pieces joined again. -/
def glueL (b : UInt8) : List (List UInt8) → List UInt8
  | [] => []
  | [p] => p
  | p :: q :: r => p ++ b :: glueL b (q :: r)
theorem glueL_cons (b : UInt8) (p : List UInt8) {r : List (List UInt8)} (h : r ≠ []) : glueL b (p :: r) = p ++ b :: glueL b r := by
  cases r with
  | nil => exact absurd rfl h
  | cons q r => rfl
theorem glue_cutGo (b : UInt8) : ∀ (l p : List UInt8), glueL b (cutGo b p l) = p ++ l := by
  intro l
  induction l with
  | nil => intro p; simp [cutGo, glueL]
  | cons c r ih =>
    intro p
    unfold cutGo
    split
    · rename_i hc
      have hne : cutGo b [] r ≠ [] := fun e => by have := cutGo_pos b r []; rw [e] at this; simp at this
      rw [glueL_cons b p hne, ih []]
      rw [List.nil_append, ← hc]
    · rw [ih]; simp
theorem glue_cut (b : UInt8) (l : List UInt8) : glueL b (cutL b l) = l := by unfold cutL; rw [glue_cutGo]; rfl
theorem glue_mem {b c : UInt8} (hbc : c ≠ b) : ∀ ps : List (List UInt8), c ∈ glueL b ps → ∃ p ∈ ps, c ∈ p
  | [], h => by simp [glueL] at h
  | [p], h => ⟨p, List.mem_cons_self .., h⟩
  | p :: q :: r, h => by
    rw [glueL_cons b p (by simp), List.mem_append, List.mem_cons] at h
    rcases h with h | h | h
    · exact ⟨p, List.mem_cons_self .., h⟩
    · exact absurd h hbc
    · obtain ⟨x, hx, hc⟩ := glue_mem hbc (q :: r) h
      exact ⟨x, List.mem_cons_of_mem _ hx, hc⟩
/-- What the program asks of a text: a and b are what stands ahead of its first colon and behind it. -/
def rowOk (a b : List UInt8) : Prop := (parI a).2 = true ∧ (∀ p ∈ cutL 44 b, (parI p).2 = true) ∧ rowB ((parI a).1, (cutL 44 b).map numL) = true
theorem three_of {xs : List Int} (h : xs.length = 3) : ∃ x y z, xs = [x, y, z] := by
  match xs, h with
  | [x, y, z], _ => exact ⟨x, y, z, rfl⟩
theorem pieces_text {b : List UInt8} (h1 : ∀ p ∈ cutL 44 b, (parI p).2 = true) (h3 : ((cutL 44 b).map numL).length = 3) : listTo ((cutL 44 b).map numL) ((cutL 44 b).map numL).length = b := by
  have hg := glue_cut 44 b
  generalize cutL 44 b = ps at *
  match ps, h3 with
  | [p, q, r], _ =>
    have e1 := parI_is (h1 p (by simp))
    have e2 := parI_is (h1 q (by simp))
    have e3 := parI_is (h1 r (by simp))
    have n1 := numL_yes (h1 p (by simp))
    have n2 := numL_yes (h1 q (by simp))
    have n3 := numL_yes (h1 r (by simp))
    rw [← hg]
    simp [listTo, glueL, n1, n2, n3, e1, e2, e3]
theorem row_acc {l a b : List UInt8} (hl : l = a ++ 58 :: b) (ha : (58 : UInt8) ∉ a) (h : rowOk a b) : parRow l = (((parI a).1, (cutL 44 b).map numL), true) := by
  obtain ⟨h1, h2, h3⟩ := h
  obtain ⟨⟨i0, i1⟩, hl3, hv⟩ := row_parts h3
  have hb : (58 : UInt8) ∉ b := by
    intro g
    rw [← glue_cut 44 b] at g
    obtain ⟨p, hp, hc⟩ := glue_mem (by decide) _ g
    have hpos : 0 ≤ (parI p).1 := by
      obtain ⟨k, hk, hkp⟩ := List.getElem_of_mem hp
      have := (hv k (by simpa using hk)).1
      have e : ((cutL 44 b).map numL).getD k 0 = numL p := by simp [List.getD, hk, hkp]
      rw [e, numL_yes (h2 p hp)] at this
      exact this
    rw [← parI_is (h2 p hp)] at hc
    exact itoa_no hpos dig_no58 hc
  have hc : cutL 58 l = [a, b] := by rw [hl, cutL_app b ha, cutL_no hb]
  have hr : rowOf l = ((parI a).1, (cutL 44 b).map numL) := by
    unfold rowOf
    rw [hc]
    simp [numL_yes h1]
  have hf : fmtRow (rowOf l) = l := by
    rw [hr]
    unfold fmtRow
    rw [h3]
    simp only [if_true]
    rw [parI_is h1, pieces_text h2 hl3, hl]
    simp
  rw [parRow_yes (by rw [hl]; simp) hf, hr]
theorem split_one {c : UInt8} : ∀ {a a' b b' : List UInt8}, c ∉ a → c ∉ a' → a ++ c :: b = a' ++ c :: b' → a = a' ∧ b = b'
  | [], [], b, b', _, _, h => by simp at h; exact ⟨rfl, h⟩
  | [], x :: a', b, b', _, h2, h => by simp at h; exact absurd (by rw [h.1]; exact List.mem_cons_self ..) h2
  | x :: a, [], b, b', h1, _, h => by simp at h; exact absurd (by rw [h.1]; exact List.mem_cons_self ..) h1
  | x :: a, y :: a', b, b', h1, h2, h => by
    simp only [List.cons_append, List.cons.injEq] at h
    obtain ⟨rfl, h⟩ := h
    obtain ⟨rfl, rfl⟩ := split_one (fun g => h1 (List.mem_cons_of_mem _ g)) (fun g => h2 (List.mem_cons_of_mem _ g)) h
    exact ⟨rfl, rfl⟩
theorem acc_parts {l : List UInt8} (h : (parRow l).2 = true) : ∃ a b, l = a ++ 58 :: b ∧ (58 : UInt8) ∉ a ∧ rowOk a b := by
  have hc : ¬ (l = [] ∨ fmtRow (rowOf l) ≠ l) := fun g => by rw [parRow_no g] at h; exact Bool.noConfusion h
  rw [not_or] at hc
  obtain ⟨hne, hf⟩ := hc
  have hf : fmtRow (rowOf l) = l := Classical.byContradiction hf
  generalize rowOf l = r at hf
  obtain ⟨id, xs⟩ := r
  unfold fmtRow at hf
  cases hb : rowB (id, xs) with
  | false => rw [hb] at hf; exact absurd hf.symm hne
  | true =>
    rw [hb] at hf
    simp only [if_true] at hf
    have hb' := hb
    obtain ⟨⟨i0, i1⟩, hl3, hv⟩ := row_parts hb'
    obtain ⟨x, y, z, rfl⟩ := three_of hl3
    have v0 := hv 0 (by simp)
    have v1 := hv 1 (by simp)
    have v2 := hv 2 (by simp)
    simp at v0 v1 v2
    refine ⟨Lib.itoa id, listTo [x, y, z] 3, by rw [← hf]; simp, itoa_no i0 dig_no58, ?_⟩
    have hcut : cutL 44 (listTo [x, y, z] 3) = [Lib.itoa x, Lib.itoa y, Lib.itoa z] := by
      have : listTo [x, y, z] 3 = Lib.itoa x ++ 44 :: (Lib.itoa y ++ 44 :: Lib.itoa z) := by simp [listTo]
      rw [this, cutL_app _ (itoa_no v0.1 dig_no44), cutL_app _ (itoa_no v1.1 dig_no44), cutL_no (itoa_no v2.1 dig_no44)]
    refine ⟨by rw [parI_itoa3 i0 i1], ?_, ?_⟩
    · rw [hcut]
      intro p hp
      simp at hp
      rcases hp with rfl | rfl | rfl
      · rw [parI_itoa3 v0.1 (by omega)]
      · rw [parI_itoa3 v1.1 (by omega)]
      · rw [parI_itoa3 v2.1 (by omega)]
    · rw [hcut]
      simp only [List.map_cons, List.map_nil]
      rw [numL_itoa3 v0.1 (by omega), numL_itoa3 v1.1 (by omega), numL_itoa3 v2.1 (by omega), parI_itoa3 i0 i1]
      exact hb
theorem row_rej {l a b : List UInt8} (hl : l = a ++ 58 :: b) (ha : (58 : UInt8) ∉ a) (h : ¬ rowOk a b) : parRow l = ((0, []), false) := by
  refine parRow_false fun g => h ?_
  obtain ⟨a', b', hl', ha', hok⟩ := acc_parts g
  obtain ⟨rfl, rfl⟩ := split_one ha ha' (hl.symm.trans hl')
  exact hok
theorem row_none {l : List UInt8} (h : (58 : UInt8) ∉ l) : parRow l = ((0, []), false) := by
  refine parRow_false fun g => h ?_
  obtain ⟨a, b, rfl, _, _⟩ := acc_parts g
  simp
theorem parRow_len (l : List UInt8) : (parRow l).1.2.length ≤ 3 := by
  cases h : (parRow l).2 with
  | false => rw [parRow_false (by rw [h]; simp)]; simp
  | true =>
    obtain ⟨a, b, hl, ha, hok⟩ := acc_parts h
    rw [row_acc hl ha hok]
    have := (row_parts hok.2.2).2.1
    simp at this ⊢
    omega
/-- The program's numbers of a list of pieces. -/
def intsGo : List Int → List (List UInt8) → Option (List Int)
  | acc, [] => some acc
  | acc, p :: r => if (parI p).2 = true then intsGo (acc ++ [(parI p).1]) r else none
theorem intsGo_hit {acc : List Int} {P : List (List UInt8)} {k : Nat} (hk : k < P.length) (h : (parI (P.getD k [])).2 = true) : intsGo acc (P.drop k) = intsGo (acc ++ [(parI (P.getD k [])).1]) (P.drop (k + 1)) := by
  rw [List.drop_eq_getElem_cons hk]
  have e : P.getD k [] = P[k] := by simp [List.getD, hk]
  rw [e] at h ⊢
  show (if (parI P[k]).2 = true then _ else _) = _
  rw [if_pos h]
theorem intsGo_miss {acc : List Int} {P : List (List UInt8)} {k : Nat} (hk : k < P.length) (h : (parI (P.getD k [])).2 = false) : intsGo acc (P.drop k) = none := by
  rw [List.drop_eq_getElem_cons hk]
  have e : P.getD k [] = P[k] := by simp [List.getD, hk]
  rw [e] at h
  show (if (parI P[k]).2 = true then _ else _) = _
  rw [if_neg (by rw [h]; simp)]
theorem intsGo_all : ∀ (P : List (List UInt8)) (acc : List Int), (∀ p ∈ P, (parI p).2 = true) → intsGo acc P = some (acc ++ P.map numL)
  | [], acc, _ => by simp [intsGo]
  | p :: r, acc, h => by
    have hp := h p (List.mem_cons_self ..)
    unfold intsGo
    rw [if_pos hp, intsGo_all r _ (fun q hq => h q (List.mem_cons_of_mem _ hq))]
    simp [numL_yes hp]
theorem intsGo_some : ∀ (P : List (List UInt8)) (acc xs : List Int), intsGo acc P = some xs → (∀ p ∈ P, (parI p).2 = true) ∧ xs = acc ++ P.map numL
  | [], acc, xs, h => by simp [intsGo] at h; subst h; simp
  | p :: r, acc, xs, h => by
    unfold intsGo at h
    by_cases hp : (parI p).2 = true
    · rw [if_pos hp] at h
      obtain ⟨h1, h2⟩ := intsGo_some r _ xs h
      refine ⟨fun q hq => ?_, by rw [h2]; simp [numL_yes hp]⟩
      rcases List.mem_cons.1 hq with rfl | hq
      · exact hp
      · exact h1 q hq
    · rw [if_neg hp] at h; cases h
theorem intsGo_none {P : List (List UInt8)} (h : intsGo [] P = none) : ¬ ∀ p ∈ P, (parI p).2 = true := fun g => by
  rw [intsGo_all P [] g] at h; cases h
end Go.Proofs.YteelgogfpidcdaaDoor
namespace Go.Proofs.YteelgogfpidcdaaDoor
open Go.RowKit
set_option linter.unusedVariables false
set_option linter.unusedSimpArgs false
theorem ix_no {b : UInt8} : ∀ {l : List UInt8}, b ∉ l → Lib.index l [b] = -1
  | [], _ => rfl
  | c :: l, h => by
    have h1 : ¬ b = c := fun e => h (by simp [e])
    have h2 := ix_no (l := l) (fun g => h (List.mem_cons_of_mem _ g))
    unfold Lib.index
    rw [if_neg (by simp [h1]), if_pos (by rw [h2]; rfl)]
theorem ix_yes {b : UInt8} {r : List UInt8} : ∀ {a : List UInt8}, b ∉ a → Lib.index (a ++ b :: r) [b] = (a.length : Int)
  | [], _ => by
    show Lib.index (b :: r) [b] = 0
    unfold Lib.index
    rw [if_pos (by simp)]
  | c :: l, h => by
    have h1 : ¬ b = c := fun e => h (by simp [e])
    have h2 := ix_yes (r := r) (a := l) (fun g => h (List.mem_cons_of_mem _ g))
    show Lib.index (c :: (l ++ b :: r)) [b] = _
    unfold Lib.index
    rw [if_neg (by simp [h1]), h2, if_neg (by simp)]
    simp
theorem split_go {b : UInt8} : ∀ (fuel : Nat) (l : List UInt8), l.length < fuel → Lib.splitK [b] 0 (Lib.countFrom [b] fuel l) l = cutL b l
  | 0, l, h => by omega
  | fuel + 1, l, h => by
    by_cases hb : b ∈ l
    · obtain ⟨a, r, rfl, ha⟩ := List.eq_append_cons_of_mem hb
      have hi := ix_yes (r := r) ha
      have hd : (a ++ b :: r).drop ((Lib.index (a ++ b :: r) [b]).toNat + [b].length) = r := by
        rw [hi, Int.toNat_natCast, List.drop_append]
        simp
      have hn : ¬ (Lib.index (a ++ b :: r) [b] == -1) = true := by rw [hi]; simp
      have hc : Lib.countFrom [b] (fuel + 1) (a ++ b :: r) = Lib.countFrom [b] fuel r + 1 := by
        rw [Lib.countFrom, if_neg hn, hd, Nat.add_comm]
      rw [hc, Lib.splitK, if_neg hn, hd, split_go fuel r (by simp at h; omega), cutL_app r ha, hi, Int.toNat_natCast]
      simp
    · have hi := ix_no hb
      have hp : (Lib.index l [b] == -1) = true := by rw [hi]; rfl
      rw [Lib.countFrom, if_pos hp, Lib.splitK, cutL_no hb]
theorem split_len {b : UInt8} : ∀ (fuel : Nat) (l : List UInt8), l.length < fuel → (cutL b l).length = Lib.countFrom [b] fuel l + 1
  | 0, l, h => by omega
  | fuel + 1, l, h => by
    by_cases hb : b ∈ l
    · obtain ⟨a, r, rfl, ha⟩ := List.eq_append_cons_of_mem hb
      have hi := ix_yes (r := r) ha
      have hd : (a ++ b :: r).drop ((Lib.index (a ++ b :: r) [b]).toNat + [b].length) = r := by
        rw [hi, Int.toNat_natCast, List.drop_append]
        simp
      have hn : ¬ (Lib.index (a ++ b :: r) [b] == -1) = true := by rw [hi]; simp
      have hc : Lib.countFrom [b] (fuel + 1) (a ++ b :: r) = Lib.countFrom [b] fuel r + 1 := by
        rw [Lib.countFrom, if_neg hn, hd, Nat.add_comm]
      rw [hc, cutL_app r ha, List.length_cons, split_len fuel r (by simp at h; omega)]
    · have hp : (Lib.index l [b] == -1) = true := by rw [ix_no hb]; rfl
      rw [Lib.countFrom, if_pos hp, cutL_no hb]; rfl
theorem glue_piece (b : UInt8) : ∀ (ps : List (List UInt8)) (p : List UInt8), p ∈ ps → p.length + (ps.length - 1) ≤ (glueL b ps).length
  | [q], p, h => by
    simp at h
    subst h
    simp [glueL]
  | q :: r :: t, p, h => by
    rw [glueL_cons b q (by simp)]
    have hr := glue_piece b (r :: t)
    simp only [List.length_append, List.length_cons] at hr ⊢
    rcases List.mem_cons.1 h with rfl | h
    · have := hr r (by simp)
      omega
    · have := hr p h
      omega
theorem cut_short {b : UInt8} {l : List UInt8} (h : 2 ≤ (cutL b l).length) (j : Nat) : ((cutL b l).getD j []).length + 1 ≤ l.length := by
  by_cases hj : j < (cutL b l).length
  · have := glue_piece b (cutL b l) ((cutL b l).getD j []) (by rw [show (cutL b l).getD j [] = (cutL b l)[j] by simp [List.getD, hj]]; exact List.getElem_mem hj)
    rw [glue_cut] at this
    omega
  · have e : (cutL b l).getD j [] = [] := by rw [List.getD, List.getElem?_eq_none (by omega)]; rfl
    have := glue_piece b (cutL b l) ((cutL b l).getD 0 []) (by rw [show (cutL b l).getD 0 [] = (cutL b l)[0] by simp [List.getD, (by omega : 0 < (cutL b l).length)]]; exact List.getElem_mem (by omega))
    rw [glue_cut] at this
    rw [e]; simp; omega
theorem split_cut (b : UInt8) (l : List UInt8) : Lib.split l [b] = cutL b l := split_go _ _ (Nat.lt_succ_self _)
theorem ix2_yes {r : List UInt8} : ∀ {a : List UInt8}, (46 : UInt8) ∉ a → Lib.index (a ++ 46 :: 46 :: r) [46, 46] = (a.length : Int)
  | [], _ => by
    show Lib.index (46 :: 46 :: r) [46, 46] = 0
    unfold Lib.index
    rw [if_pos (by simp)]
  | c :: l, h => by
    have h1 : ¬ (46 : UInt8) = c := fun e => h (by simp [e])
    have h2 := ix2_yes (r := r) (a := l) (fun g => h (List.mem_cons_of_mem _ g))
    show Lib.index (c :: (l ++ 46 :: 46 :: r)) [46, 46] = _
    unfold Lib.index
    rw [if_neg (by simp [h1]), h2, if_neg (by simp)]
    simp
theorem ix2_is : ∀ {s : List UInt8} {i : Nat}, Lib.index s [46, 46] = (i : Int) → s = s.take i ++ [46, 46] ++ s.drop (i + 2)
  | [], i, h => by
    have : Lib.index [] [46, 46] = -1 := rfl
    omega
  | c :: l, i, h => by
    unfold Lib.index at h
    split at h
    · rename_i hp
      have hi : i = 0 := by omega
      subst hi
      match l, hp with
      | [], hp => simp at hp
      | d :: l', hp =>
        simp at hp
        obtain ⟨rfl, rfl⟩ := hp
        simp
    · split at h
      · omega
      · rename_i hn
        have hi : 0 < i := by
          have := Lib.index_ge l [46, 46]
          have hne : Lib.index l [46, 46] ≠ -1 := fun e => hn (by rw [e]; rfl)
          omega
        obtain ⟨k, rfl⟩ : ∃ k, i = k + 1 := ⟨i - 1, by omega⟩
        have := ix2_is (s := l) (i := k) (by omega)
        show c :: l = c :: l.take k ++ [46, 46] ++ l.drop (k + 2)
        rw [List.cons_append, List.cons_append, ← this]
/-- A number with a letter in front of it. -/
def tagP (c : UInt8) (s : List UInt8) : Int × Bool := if s.getD 0 0 = c ∧ 1 ≤ s.length then parI (s.drop 1) else (0, false)
/-- Two numbers with two dots between them. -/
def rngP (s : List UInt8) : Int × Int × Bool :=
  if (Lib.cut s [46, 46]).2.2 && ((parI (Lib.cut s [46, 46]).1).2 && (parI (Lib.cut s [46, 46]).2.1).2) then ((parI (Lib.cut s [46, 46]).1).1, (parI (Lib.cut s [46, 46]).2.1).1, true) else (0, 0, false)
theorem tagP_is {c : UInt8} {s : List UInt8} (h : (tagP c s).2 = true) : s = c :: Lib.itoa (tagP c s).1 := by
  unfold tagP at h ⊢
  split at h
  · rename_i hc
    rw [if_pos hc, parI_is h]
    match s, hc with
    | d :: r, hc => have := hc.1; simp at this; simp [this]
  · exact Bool.noConfusion h
theorem tagP_yes {c : UInt8} {n : Int} (h0 : 0 ≤ n) (h1 : n ≤ 999) : tagP c (c :: Lib.itoa n) = (n, true) := by
  unfold tagP
  rw [if_pos ⟨rfl, by simp⟩]
  exact parI_itoa3 h0 h1
theorem rngP_is {s : List UInt8} (h : (rngP s).2.2 = true) : s = Lib.itoa (rngP s).1 ++ [46, 46] ++ Lib.itoa (rngP s).2.1 := by
  unfold rngP at h ⊢
  split at h
  · rename_i hc
    rw [if_pos hc]
    simp only [Bool.and_eq_true] at hc
    obtain ⟨h1, h2, h3⟩ := hc
    rw [parI_is h2, parI_is h3]
    unfold Lib.cut at h1 ⊢
    split at h1
    · rename_i hi
      rw [if_pos hi]
      exact ix2_is (i := (Lib.index s [46, 46]).toNat) (by omega)
    · exact Bool.noConfusion h1
  · exact Bool.noConfusion h
theorem rngP_yes {a b : Int} (h0 : 0 ≤ a) (h1 : a ≤ 999) (h2 : 0 ≤ b) (h3 : b ≤ 999) : rngP (Lib.itoa a ++ [46, 46] ++ Lib.itoa b) = (a, b, true) := by
  have hi := ix2_yes (r := Lib.itoa b) (itoa_no h0 (c := 46) (by decide))
  have hc : Lib.cut (Lib.itoa a ++ [46, 46] ++ Lib.itoa b) [46, 46] = (Lib.itoa a, Lib.itoa b, true) := by
    have e : Lib.itoa a ++ [46, 46] ++ Lib.itoa b = Lib.itoa a ++ 46 :: 46 :: Lib.itoa b := by simp
    rw [e]
    unfold Lib.cut
    rw [if_pos (by rw [hi]; omega), hi, Int.toNat_natCast]
    simp
  unfold rngP
  rw [hc, parI_itoa3 h0 h1, parI_itoa3 h2 h3]
  rfl
theorem rngGo_at {r : List UInt8} : ∀ {a p : List UInt8}, (46 : UInt8) ∉ a → rngGo p (a ++ 46 :: 46 :: r) = (numL (p ++ a), numL r)
  | [], p, _ => by
    show rngGo p (46 :: 46 :: r) = _
    unfold rngGo
    rw [if_pos ⟨rfl, rfl⟩, List.append_nil]
  | c :: l, p, h => by
    have h1 : ¬ c = 46 := fun e => h (by simp [e])
    have ih := rngGo_at (r := r) (a := l) (p := p ++ [c]) (fun g => h (List.mem_cons_of_mem _ g))
    have e : ∃ d t, l ++ 46 :: 46 :: r = d :: t := by cases l <;> simp
    obtain ⟨d, t, e⟩ := e
    show rngGo p (c :: (l ++ 46 :: 46 :: r)) = _
    rw [e] at ih ⊢
    unfold rngGo
    rw [if_neg (fun g => h1 g.1), ih]
    simp
theorem rngL_yes {a b : Int} (h0 : 0 ≤ a) (h1 : a ≤ 999) (h2 : 0 ≤ b) (h3 : b ≤ 999) : rngL (Lib.itoa a ++ [46, 46] ++ Lib.itoa b) = (a, b) := by
  have e : Lib.itoa a ++ [46, 46] ++ Lib.itoa b = Lib.itoa a ++ 46 :: 46 :: Lib.itoa b := by simp
  unfold rngL
  rw [e, rngGo_at (itoa_no h0 (c := 46) (by decide)), List.nil_append, numL_itoa3 h0 h1, numL_itoa3 h2 h3]
theorem aftL_yes {c : UInt8} {n : Int} (h0 : 0 ≤ n) (h1 : n ≤ 999) : aftL c (c :: Lib.itoa n) = n := by
  unfold aftL
  have := List.length_pos_iff.2 (itoa_ne n)
  rw [if_pos ⟨by simp; omega, rfl⟩]
  exact numL_itoa3 h0 h1
/-- The conditions that the pieces two by two say, behind 'acc'. -/
def condsGo : List CondD → List (List UInt8) → Option (List CondD)
  | acc, [] => some acc
  | _, [_] => none
  | acc, a :: b :: r => if (tagP 102 a).2 && (rngP b).2.2 then condsGo (acc ++ [((tagP 102 a).1, (rngP b).1, (rngP b).2.1)]) r else none
theorem drop_two {α : Type} {P : List α} {k : Nat} {d : α} (hk : k + 1 < P.length) : P.drop k = P.getD k d :: P.getD (k + 1) d :: P.drop (k + 2) := by
  rw [List.drop_eq_getElem_cons (by omega : k < P.length), List.drop_eq_getElem_cons hk]
  simp [List.getD, hk, (by omega : k < P.length)]
theorem condsGo_hit {acc : List CondD} {P : List (List UInt8)} {k : Nat} (hk : k + 1 < P.length) (h1 : (tagP 102 (P.getD k [])).2 = true) (h2 : (rngP (P.getD (k + 1) [])).2.2 = true) :
    condsGo acc (P.drop k) = condsGo (acc ++ [((tagP 102 (P.getD k [])).1, (rngP (P.getD (k + 1) [])).1, (rngP (P.getD (k + 1) [])).2.1)]) (P.drop (k + 2)) := by
  rw [drop_two (d := []) hk]
  show (if _ then _ else _) = _
  rw [if_pos (by rw [h1, h2]; rfl)]
theorem condsGo_miss {acc : List CondD} {P : List (List UInt8)} {k : Nat} (hk : k + 1 < P.length) (h : ((tagP 102 (P.getD k [])).2 && (rngP (P.getD (k + 1) [])).2.2) = false) : condsGo acc (P.drop k) = none := by
  rw [drop_two (d := []) hk]
  show (if _ then _ else _) = _
  rw [if_neg (by rw [h]; exact Bool.noConfusion)]
theorem condsGo_odd : ∀ (P : List (List UInt8)) (acc : List CondD), P.length % 2 ≠ 0 → condsGo acc P = none
  | [], _, h => absurd rfl h
  | [_], _, _ => rfl
  | a :: b :: r, acc, h => by
    show (if _ then _ else _) = _
    split
    · exact condsGo_odd r _ (by simp at h; omega)
    · rfl
def condW (c : CondD) : List (List UInt8) := [102 :: Lib.itoa c.1, Lib.itoa c.2.1 ++ [46, 46] ++ Lib.itoa c.2.2]
def condsW : List CondD → List (List UInt8)
  | [] => []
  | c :: r => (102 :: Lib.itoa c.1) :: (Lib.itoa c.2.1 ++ [46, 46] ++ Lib.itoa c.2.2) :: condsW r
theorem condsGo_is : ∀ (P : List (List UInt8)) (acc r : List CondD), condsGo acc P = some r → ∃ cs, r = acc ++ cs ∧ P = condsW cs
  | [], acc, r, h => ⟨[], by simp [condsGo] at h; simp [h], rfl⟩
  | [_], acc, r, h => by simp [condsGo] at h
  | a :: b :: q, acc, r, h => by
    change (if _ then _ else _) = _ at h
    split at h
    · rename_i hc
      rw [Bool.and_eq_true] at hc
      obtain ⟨cs, e1, e2⟩ := condsGo_is q _ r h
      refine ⟨((tagP 102 a).1, (rngP b).1, (rngP b).2.1) :: cs, by rw [e1]; simp, ?_⟩
      show _ = (102 :: Lib.itoa (tagP 102 a).1) :: (Lib.itoa (rngP b).1 ++ [46, 46] ++ Lib.itoa (rngP b).2.1) :: condsW cs
      rw [← tagP_is hc.1, ← rngP_is hc.2, ← e2]
    · simp at h
def cIn (c : CondD) : Prop := (0 ≤ c.1 ∧ c.1 ≤ 999) ∧ (0 ≤ c.2.1 ∧ c.2.1 ≤ 999) ∧ 0 ≤ c.2.2 ∧ c.2.2 ≤ 999
theorem condsGo_words : ∀ (cs acc : List CondD), (∀ c ∈ cs, cIn c) → condsGo acc (condsW cs) = some (acc ++ cs)
  | [], acc, _ => by simp [condsW, condsGo]
  | c :: r, acc, h => by
    obtain ⟨⟨f0, f1⟩, ⟨a0, a1⟩, b0, b1⟩ := h c (by simp)
    show (if _ then _ else _) = _
    rw [tagP_yes f0 f1, rngP_yes a0 a1 b0 b1]
    show condsGo (acc ++ [(c.1, c.2.1, c.2.2)]) (condsW r) = _
    rw [condsGo_words r _ (fun c hc => h c (List.mem_cons_of_mem _ hc))]
    simp
theorem condsW_len : ∀ cs : List CondD, (condsW cs).length = 2 * cs.length
  | [] => rfl
  | c :: r => by simp [condsW, condsW_len r]; omega
theorem condsW_at : ∀ (cs : List CondD) (j : Nat), j < cs.length → (condsW cs).getD (2 * j) [] = 102 :: Lib.itoa (cs.getD j c0D).1 ∧ (condsW cs).getD (2 * j + 1) [] = Lib.itoa (cs.getD j c0D).2.1 ++ [46, 46] ++ Lib.itoa (cs.getD j c0D).2.2
  | [], j, h => by simp at h
  | c :: r, 0, h => by simp [condsW]
  | c :: r, j + 1, h => by
    have := condsW_at r j (by simpa using h)
    simpa [condsW, show 2 * (j + 1) = 2 * j + 1 + 1 by omega] using this
/-- The pieces of a query's text. -/
def wordsQ (q : QD) : List (List UInt8) := (113 :: Lib.itoa q.1) :: (116 :: Lib.itoa q.2.1) :: (condsW q.2.2.1 ++ [[111, 117, 116], listTo q.2.2.2 q.2.2.2.length])
def pickQ (a b : Int × Bool) (r1 : Option (List CondD)) (r2 : Option (List Int)) : Option QD :=
  match a.2, b.2, r1, r2 with
  | true, true, some cs, some os => some (a.1, b.1, cs, os)
  | _, _, _, _ => none
theorem pickQ_facts (a b : Int × Bool) (r1 : Option (List CondD)) (r2 : Option (List Int)) : (pickQ a b r1 r2).isSome = (a.2 && (b.2 && (r1.isSome && r2.isSome))) ∧ ∀ q, pickQ a b r1 r2 = some q → q = (a.1, b.1, r1.getD [], r2.getD []) := by
  obtain ⟨a1, a2⟩ := a
  obtain ⟨b1, b2⟩ := b
  refine ⟨?_, fun q h => ?_⟩
  · cases a2 <;> cases b2 <;> cases r1 <;> cases r2 <;> rfl
  · cases a2 <;> cases b2 <;> cases r1 <;> cases r2 <;> first | (simp only [pickQ, Option.some.injEq] at h; exact h.symm) | (simp [pickQ] at h)
/-- What the program reads off the pieces. -/
def pQ (P : List (List UInt8)) : Option QD :=
  if P.length < 4 ∨ P.getD (P.length - 2) [] ≠ [111, 117, 116] then none
  else pickQ (tagP 113 (P.getD 0 [])) (tagP 116 (P.getD 1 [])) (condsGo [] ((P.drop 2).take (P.length - 4))) (intsGo [] (cutL 44 (P.getD (P.length - 1) [])))
def qB' (q : QD) : Bool := queryB q.1 q.2.1 q.2.2.1 q.2.2.2
theorem listTo_three {xs : List Int} (h1 : 1 ≤ xs.length) (h3 : xs.length ≤ 3) : listTo xs xs.length = glueL 44 (xs.map Lib.itoa) := by
  match xs, h1, h3 with
  | [a], _, _ => simp [listTo, glueL]
  | [a, b], _, _ => simp [listTo, glueL]
  | [a, b, c], _, _ => simp [listTo, glueL]
theorem qB_fields {q : QD} (h : qB' q = true) : 1 ≤ q.2.2.2.length ∧ q.2.2.2.length ≤ 3 := by
  unfold qB' queryB fieldsB at h
  simp only [Bool.and_eq_true, decide_eq_true_eq] at h
  exact h.2.2.2.2.2
theorem map_itoa {b : List UInt8} (h : ∀ p ∈ cutL 44 b, (parI p).2 = true) : ((cutL 44 b).map numL).map Lib.itoa = cutL 44 b := by
  rw [List.map_map]
  conv => rhs; rw [← List.map_id (cutL 44 b)]
  refine List.map_congr_left fun p hp => ?_
  have := h p hp
  show Lib.itoa (numL p) = p
  rw [numL_yes this, parI_is this]
theorem pQ_is {P : List (List UInt8)} {q : QD} (h : pQ P = some q) (hq : qB' q = true) : P = wordsQ q ∧ 4 ≤ P.length := by
  unfold pQ at h
  split at h
  · simp at h
  · rename_i hc
    have hl : 4 ≤ P.length := by
      by_cases g : P.length < 4
      · exact absurd (Or.inl g) hc
      · omega
    have ho : P.getD (P.length - 2) [] = [111, 117, 116] := by
      by_cases g : P.getD (P.length - 2) [] = [111, 117, 116]
      · exact g
      · exact absurd (Or.inr g) hc
    unfold pickQ at h
    split at h
    · rename_i cs os h1 h2 h3 h4
      simp only [Option.some.injEq] at h
      subst h
      refine ⟨?_, hl⟩
      obtain ⟨cs', e1, e2⟩ := condsGo_is _ _ _ h3
      rw [List.nil_append] at e1
      subst e1
      obtain ⟨a1, a2⟩ := intsGo_some _ _ _ h4
      rw [List.nil_append] at a2
      obtain ⟨l1, l3⟩ := qB_fields hq
      simp only at l1 l3
      unfold wordsQ
      simp only
      rw [listTo_three l1 l3]
      rw [a2, map_itoa a1, glue_cut, ← tagP_is h1, ← tagP_is h2, ← e2]
      have d0 : P = P.getD 0 [] :: P.getD 1 [] :: P.drop 2 := by
        have := drop_two (P := P) (k := 0) (d := []) (by omega)
        simpa using this
      have d1 : P.drop 2 = (P.drop 2).take (P.length - 4) ++ [P.getD (P.length - 2) [], P.getD (P.length - 1) []] := by
        have g := drop_two (P := P) (k := P.length - 2) (d := []) (by omega)
        rw [show P.length - 2 + 2 = P.length by omega, List.drop_length, show P.length - 2 + 1 = P.length - 1 by omega] at g
        rw [← g]
        have := (List.take_append_drop (P.length - 4) (P.drop 2)).symm
        rw [List.drop_drop, show 2 + (P.length - 4) = P.length - 2 by omega] at this
        exact this
      rw [ho] at d1
      rw [← d1]
      exact d0
    · simp at h
theorem qB_in {q : QD} (h : qB' q = true) : (0 ≤ q.1 ∧ q.1 ≤ 999) ∧ (0 ≤ q.2.1 ∧ q.2.1 ≤ 999) ∧ (∀ c ∈ q.2.2.1, cIn c) ∧ ∀ x ∈ q.2.2.2, 0 ≤ x ∧ x ≤ 999 := by
  obtain ⟨h1, h2, h3, h4, h5, h6⟩ := query_parts (show queryB q.1 q.2.1 q.2.2.1 q.2.2.2 = true from h)
  refine ⟨⟨h1.1, by omega⟩, ⟨h2.1, by omega⟩, fun c hc => ?_, fun x hx => ?_⟩
  · obtain ⟨k, hk, rfl⟩ := List.getElem_of_mem hc
    have := h4 k hk
    rw [show q.2.2.1.getD k c0D = q.2.2.1[k] by simp [List.getD, hk]] at this
    exact ⟨⟨this.1, by omega⟩, ⟨this.2.2.1, by omega⟩, this.2.2.2.2.1, by omega⟩
  · obtain ⟨k, hk, rfl⟩ := List.getElem_of_mem hx
    have := h6 k hk
    rw [show q.2.2.2.getD k 0 = q.2.2.2[k] by simp [List.getD, hk]] at this
    exact ⟨this.1, by omega⟩
theorem cutL_glue {b : UInt8} : ∀ {ps : List (List UInt8)}, ps ≠ [] → (∀ p ∈ ps, b ∉ p) → cutL b (glueL b ps) = ps
  | [], h, _ => absurd rfl h
  | [p], _, h => by
    show cutL b p = [p]
    exact cutL_no (h p (by simp))
  | p :: q :: r, _, h => by
    rw [glueL_cons b p (by simp), cutL_app _ (h p (by simp)), cutL_glue (by simp) (fun x hx => h x (List.mem_cons_of_mem _ hx))]
theorem cut_list {xs : List Int} (h1 : 1 ≤ xs.length) (h3 : xs.length ≤ 3) (h : ∀ x ∈ xs, 0 ≤ x ∧ x ≤ 999) : cutL 44 (listTo xs xs.length) = xs.map Lib.itoa := by
  rw [listTo_three h1 h3, cutL_glue]
  · intro e; rw [List.map_eq_nil_iff] at e; rw [e] at h1; simp at h1
  · intro p hp
    obtain ⟨x, hx, rfl⟩ := List.mem_map.1 hp
    exact itoa_no (h x hx).1 (by decide)
theorem ints_words {xs : List Int} (h : ∀ x ∈ xs, 0 ≤ x ∧ x ≤ 999) : intsGo [] (xs.map Lib.itoa) = some xs := by
  rw [intsGo_all _ _ (fun p hp => by
    obtain ⟨x, hx, rfl⟩ := List.mem_map.1 hp
    rw [parI_itoa3 (h x hx).1 (h x hx).2]), List.nil_append, List.map_map]
  have : xs.map (numL ∘ Lib.itoa) = xs.map id := List.map_congr_left fun x hx => numL_itoa3 (h x hx).1 (h x hx).2
  rw [this, List.map_id]
theorem wordsQ_len (q : QD) : (wordsQ q).length = 2 * q.2.2.1.length + 4 := by unfold wordsQ; simp [condsW_len]
theorem wordsQ_last (q : QD) : (wordsQ q).getD ((wordsQ q).length - 2) [] = [111, 117, 116] ∧ (wordsQ q).getD ((wordsQ q).length - 1) [] = listTo q.2.2.2 q.2.2.2.length := by
  rw [wordsQ_len]
  unfold wordsQ
  rw [show 2 * q.2.2.1.length + 4 - 2 = 2 * q.2.2.1.length + 1 + 1 by omega, show 2 * q.2.2.1.length + 4 - 1 = (2 * q.2.2.1.length + 1) + 1 + 1 by omega]
  have hl := condsW_len q.2.2.1
  simp only [List.getD_cons_succ]
  refine ⟨?_, ?_⟩
  · rw [List.getD, List.getElem?_append_right (by omega), hl]; simp
  · rw [List.getD, List.getElem?_append_right (by omega), hl, show 2 * q.2.2.1.length + 1 - 2 * q.2.2.1.length = 1 by omega]; simp
theorem wordsQ_mid (q : QD) : ((wordsQ q).drop 2).take ((wordsQ q).length - 4) = condsW q.2.2.1 := by
  rw [wordsQ_len, show 2 * q.2.2.1.length + 4 - 4 = (condsW q.2.2.1).length by rw [condsW_len]; omega]
  show (condsW q.2.2.1 ++ _).take _ = _
  rw [List.take_left']
  rfl
theorem pQ_words {q : QD} (h : qB' q = true) : pQ (wordsQ q) = some q := by
  obtain ⟨⟨i0, i1⟩, ⟨t0, t1⟩, hc, ho⟩ := qB_in h
  obtain ⟨l1, l3⟩ := qB_fields h
  obtain ⟨w1, w2⟩ := wordsQ_last q
  unfold pQ
  rw [if_neg (fun g => g.elim (fun g => by rw [wordsQ_len] at g; omega) (fun g => g w1)), w2, wordsQ_mid, cut_list l1 l3 ho, ints_words ho, condsGo_words _ _ hc]
  have e0 : (wordsQ q).getD 0 [] = 113 :: Lib.itoa q.1 := rfl
  have e1 : (wordsQ q).getD 1 [] = 116 :: Lib.itoa q.2.1 := rfl
  rw [e0, e1, tagP_yes i0 i1, tagP_yes t0 t1]
  rfl
theorem queryOf_words {q : QD} (h : qB' q = true) : queryOfP (wordsQ q) = q := by
  obtain ⟨⟨i0, i1⟩, ⟨t0, t1⟩, hc, ho⟩ := qB_in h
  obtain ⟨l1, l3⟩ := qB_fields h
  obtain ⟨w1, w2⟩ := wordsQ_last q
  unfold queryOfP
  rw [w2, cut_list l1 l3 ho, wordsQ_len, show (2 * q.2.2.1.length + 4 - 4) / 2 = q.2.2.1.length by omega]
  have e0 : (wordsQ q).getD 0 [] = 113 :: Lib.itoa q.1 := rfl
  have e1 : (wordsQ q).getD 1 [] = 116 :: Lib.itoa q.2.1 := rfl
  rw [e0, e1, aftL_yes i0 i1, aftL_yes t0 t1, List.map_map]
  have e2 : q.2.2.2.map (numL ∘ Lib.itoa) = q.2.2.2 := by
    have : q.2.2.2.map (numL ∘ Lib.itoa) = q.2.2.2.map id := List.map_congr_left fun x hx => numL_itoa3 (ho x hx).1 (ho x hx).2
    rw [this, List.map_id]
  have e3 : (List.range q.2.2.1.length).map (condOf (wordsQ q)) = q.2.2.1 := by
    apply List.ext_getElem
    · simp
    · intro j h1 h2
      rw [List.getElem_map, List.getElem_range]
      obtain ⟨a1, a2⟩ := condsW_at q.2.2.1 j h2
      have hl := condsW_len q.2.2.1
      have g1 : (wordsQ q).getD (2 + 2 * j) [] = 102 :: Lib.itoa (q.2.2.1.getD j c0D).1 := by
        rw [show 2 + 2 * j = 2 * j + 1 + 1 by omega]
        unfold wordsQ
        simp only [List.getD_cons_succ]
        rw [List.getD, List.getElem?_append_left (by omega)]
        exact a1
      have g2 : (wordsQ q).getD (3 + 2 * j) [] = Lib.itoa (q.2.2.1.getD j c0D).2.1 ++ [46, 46] ++ Lib.itoa (q.2.2.1.getD j c0D).2.2 := by
        rw [show 3 + 2 * j = 2 * j + 1 + 1 + 1 by omega]
        unfold wordsQ
        simp only [List.getD_cons_succ]
        rw [List.getD, List.getElem?_append_left (by omega)]
        exact a2
      have e : q.2.2.1.getD j c0D = q.2.2.1[j] := by simp [List.getD, h2]
      rw [e] at g1 g2
      obtain ⟨⟨f0, f1⟩, ⟨a0, a1⟩, b0, b1⟩ := hc _ (List.getElem_mem h2)
      unfold condOf
      rw [g1, g2, aftL_yes f0 f1, rngL_yes a0 a1 b0 b1]
  rw [e2, e3]
theorem condsT_glue (t : List UInt8) (cs : List CondD) (z : List UInt8) : ∀ k, k ≤ cs.length → condsT t cs k ++ (if k = cs.length then [32, 111, 117, 116, 32] ++ z else 32 :: glueL 32 (condsW (cs.drop k) ++ [[111, 117, 116], z])) = t ++ 32 :: glueL 32 (condsW cs ++ [[111, 117, 116], z])
  | 0, h => by
    by_cases e : cs = []
    · subst e; simp [condsT, condsW, glueL]
    · have : ¬ 0 = cs.length := fun g => e (List.length_eq_zero_iff.1 g.symm)
      rw [if_neg this]
      rfl
  | k + 1, h => by
    rw [← condsT_glue t cs z k (by omega), if_neg (by omega : ¬ k = cs.length)]
    have hd : cs.drop k = cs.getD k c0D :: cs.drop (k + 1) := by
      rw [List.drop_eq_getElem_cons (by omega : k < cs.length)]
      simp [List.getD, (by omega : k < cs.length)]
    rw [hd]
    show condT (condsT t cs k) (cs.getD k c0D) ++ _ = _
    unfold condT
    have hg : glueL 32 (condsW (cs.getD k c0D :: cs.drop (k + 1)) ++ [[111, 117, 116], z]) = (102 :: Lib.itoa (cs.getD k c0D).1) ++ 32 :: ((Lib.itoa (cs.getD k c0D).2.1 ++ [46, 46] ++ Lib.itoa (cs.getD k c0D).2.2) ++ 32 :: glueL 32 (condsW (cs.drop (k + 1)) ++ [[111, 117, 116], z])) := by
      show glueL 32 (_ :: _ :: (condsW (cs.drop (k + 1)) ++ [[111, 117, 116], z])) = _
      rw [glueL_cons 32 _ (by simp), glueL_cons 32 _ (by simp)]
    rw [hg]
    by_cases e : k + 1 = cs.length
    · rw [if_pos e, List.drop_eq_nil_of_le (by omega)]
      simp [condsW, glueL]
    · rw [if_neg e]
      simp
theorem fmt_glue {q : QD} (h : qB' q = true) : fmtQD q = glueL 32 (wordsQ q) := by
  unfold fmtQD fmtQ
  rw [if_pos (show queryB q.1 q.2.1 q.2.2.1 q.2.2.2 = true from h)]
  have := condsT_glue (headT q.1 q.2.1) q.2.2.1 (listTo q.2.2.2 q.2.2.2.length) q.2.2.1.length (Nat.le_refl _)
  rw [if_pos rfl, ← List.append_assoc] at this
  rw [this]
  unfold wordsQ
  rw [glueL_cons 32 _ (by simp), glueL_cons 32 _ (by simp)]
  unfold headT
  simp
theorem wordsQ_no {q : QD} (h : qB' q = true) : ∀ p ∈ wordsQ q, (32 : UInt8) ∉ p := by
  obtain ⟨⟨i0, i1⟩, ⟨t0, t1⟩, hc, ho⟩ := qB_in h
  obtain ⟨l1, l3⟩ := qB_fields h
  have hcs : ∀ cs : List CondD, (∀ c ∈ cs, cIn c) → ∀ p ∈ condsW cs, (32 : UInt8) ∉ p := by
    intro cs
    induction cs with
    | nil => intro _ p hp; simp [condsW] at hp
    | cons c r ih =>
      intro hr p hp
      obtain ⟨⟨f0, f1⟩, ⟨a0, a1⟩, b0, b1⟩ := hr c (by simp)
      simp only [condsW, List.mem_cons] at hp
      rcases hp with rfl | rfl | hp
      · have := itoa_no f0 (c := 32) (by decide)
        simp [this]
      · have g1 := itoa_no a0 (c := 32) (by decide)
        have g2 := itoa_no b0 (c := 32) (by decide)
        simp [g1, g2]
      · exact ih (fun c hc => hr c (List.mem_cons_of_mem _ hc)) p hp
  intro p hp
  unfold wordsQ at hp
  simp only [List.mem_cons, List.mem_append, List.not_mem_nil, or_false] at hp
  rcases hp with rfl | rfl | hp | rfl | rfl
  · have := itoa_no i0 (c := 32) (by decide)
    simp [this]
  · have := itoa_no t0 (c := 32) (by decide)
    simp [this]
  · exact hcs _ hc p hp
  · decide
  · rw [listTo_three l1 l3]
    intro g
    obtain ⟨p, hp, g⟩ := glue_mem (by decide) _ g
    obtain ⟨x, hx, rfl⟩ := List.mem_map.1 hp
    exact itoa_no (ho x hx).1 (by decide) g
theorem cut_fmt {q : QD} (h : qB' q = true) : cutL 32 (fmtQD q) = wordsQ q := by
  rw [fmt_glue h, cutL_glue (by unfold wordsQ; simp) (wordsQ_no h)]
/-- The program and the specification read the same. -/
theorem parQ_acc {l : List UInt8} {q : QD} (h : pQ (cutL 32 l) = some q) (hq : qB' q = true) : parQ l = (q, true) := by
  obtain ⟨e, h4⟩ := pQ_is h hq
  have e2 : queryOfP (cutL 32 l) = q := by rw [e, queryOf_words hq]
  rw [← e2]
  refine parQ_yes (by omega) ?_
  rw [e2, fmt_glue hq, ← e, glue_cut]
theorem parQ_rej {l : List UInt8} (h : ∀ q, pQ (cutL 32 l) = some q → qB' q = false) : parQ l = (q0D, false) := by
  refine parQ_no ?_
  by_cases h4 : (cutL 32 l).length < 4
  · exact Or.inl h4
  · refine Or.inr fun hf => ?_
    have hl : l ≠ [] := fun e => by subst e; simp [cutL, cutGo] at h4
    cases hq : qB' (queryOfP (cutL 32 l)) with
    | false =>
      unfold fmtQD fmtQ at hf
      rw [if_neg (by show ¬ qB' _ = true; rw [hq]; exact Bool.noConfusion)] at hf
      exact hl hf.symm
    | true =>
      have e := cut_fmt hq
      rw [hf] at e
      have := h (queryOfP (cutL 32 l)) ((congrArg pQ e).trans (pQ_words hq))
      rw [hq] at this
      exact Bool.noConfusion this
end Go.Proofs.YteelgogfpidcdaaDoor
