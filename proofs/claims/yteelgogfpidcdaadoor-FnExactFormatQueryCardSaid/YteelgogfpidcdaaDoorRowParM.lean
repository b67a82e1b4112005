/-
  What ParseRow answers: the mathematics.
-/
import Derived.Test.YteelgogfpidcdaaDoorParPart
import Derived.Test.YteelgogfpidcdaaDoorRowFmt
namespace Go.Proofs.YteelgogfpidcdaaDoor
open Go.RowKit
set_option linter.unusedVariables false
/-- The row that the pieces of a text name. -/
def rowOf (l : List UInt8) : RowD := (numL ((cutL 58 l).getD 0 []), if (cutL 58 l).length = 2 then (cutL 44 ((cutL 58 l).getD 1 [])).map numL else [])
def parRow (l : List UInt8) : RowD × Bool := if l = [] ∨ fmtRow (rowOf l) ≠ l then ((0, []), false) else (rowOf l, true)
theorem parRow_false {l : List UInt8} (h : ¬ (parRow l).2 = true) : parRow l = ((0, []), false) := by
  unfold parRow at h ⊢
  by_cases hc : l = [] ∨ fmtRow (rowOf l) ≠ l
  · rw [if_pos hc]
  · rw [if_neg hc] at h; exact absurd rfl h
theorem parRow_no {l : List UInt8} (h : l = [] ∨ fmtRow (rowOf l) ≠ l) : parRow l = ((0, []), false) := if_pos h
theorem parRow_yes {l : List UInt8} (h1 : ¬ l = []) (h2 : fmtRow (rowOf l) = l) : parRow l = (rowOf l, true) := if_neg (fun g => g.elim h1 (fun h => h h2))
/-- The pieces joined again. -/
def glueL (b : UInt8) : List (List UInt8) → List UInt8
  | [] => []
  | [p] => p
  | p :: q :: r => p ++ b :: glueL b (q :: r)
theorem glueL_cons (b : UInt8) (p : List UInt8) {r : List (List UInt8)} (h : r ≠ []) : glueL b (p :: r) = p ++ b :: glueL b r := by
  cases r with
  | nil => exact absurd rfl h
  | cons q r => rfl
theorem glue_cutGo (b : UInt8) : ∀ (l p : List UInt8), glueL b (cutGo b p l) = p ++ l := by
  intro l
  induction l with
  | nil => intro p; simp [cutGo, glueL]
  | cons c r ih =>
    intro p
    unfold cutGo
    split
    · rename_i hc
      have hne : cutGo b [] r ≠ [] := fun e => by have := cutGo_pos b r []; rw [e] at this; simp at this
      rw [glueL_cons b p hne, ih []]
      rw [List.nil_append, ← hc]
    · rw [ih]; simp
theorem glue_cut (b : UInt8) (l : List UInt8) : glueL b (cutL b l) = l := by unfold cutL; rw [glue_cutGo]; rfl
theorem glue_mem {b c : UInt8} (hbc : c ≠ b) : ∀ ps : List (List UInt8), c ∈ glueL b ps → ∃ p ∈ ps, c ∈ p
  | [], h => by simp [glueL] at h
  | [p], h => ⟨p, List.mem_cons_self .., h⟩
  | p :: q :: r, h => by
    rw [glueL_cons b p (by simp), List.mem_append, List.mem_cons] at h
    rcases h with h | h | h
    · exact ⟨p, List.mem_cons_self .., h⟩
    · exact absurd h hbc
    · obtain ⟨x, hx, hc⟩ := glue_mem hbc (q :: r) h
      exact ⟨x, List.mem_cons_of_mem _ hx, hc⟩
/-- What the program asks of a text: a and b are what stands ahead of its first colon and behind it. -/
def rowOk (a b : List UInt8) : Prop := (parI a).2 = true ∧ (∀ p ∈ cutL 44 b, (parI p).2 = true) ∧ rowB ((parI a).1, (cutL 44 b).map numL) = true
theorem three_of {xs : List Int} (h : xs.length = 3) : ∃ x y z, xs = [x, y, z] := by
  match xs, h with
  | [x, y, z], _ => exact ⟨x, y, z, rfl⟩
theorem pieces_text {b : List UInt8} (h1 : ∀ p ∈ cutL 44 b, (parI p).2 = true) (h3 : ((cutL 44 b).map numL).length = 3) : listTo ((cutL 44 b).map numL) ((cutL 44 b).map numL).length = b := by
  have hg := glue_cut 44 b
  generalize cutL 44 b = ps at *
  match ps, h3 with
  | [p, q, r], _ =>
    have e1 := parI_is (h1 p (by simp))
    have e2 := parI_is (h1 q (by simp))
    have e3 := parI_is (h1 r (by simp))
    have n1 := numL_yes (h1 p (by simp))
    have n2 := numL_yes (h1 q (by simp))
    have n3 := numL_yes (h1 r (by simp))
    rw [← hg]
    simp [listTo, glueL, n1, n2, n3, e1, e2, e3]
theorem row_acc {l a b : List UInt8} (hl : l = a ++ 58 :: b) (ha : (58 : UInt8) ∉ a) (h : rowOk a b) : parRow l = (((parI a).1, (cutL 44 b).map numL), true) := by
  obtain ⟨h1, h2, h3⟩ := h
  obtain ⟨⟨i0, i1⟩, hl3, hv⟩ := row_parts h3
  have hb : (58 : UInt8) ∉ b := by
    intro g
    rw [← glue_cut 44 b] at g
    obtain ⟨p, hp, hc⟩ := glue_mem (by decide) _ g
    have hpos : 0 ≤ (parI p).1 := by
      obtain ⟨k, hk, hkp⟩ := List.getElem_of_mem hp
      have := (hv k (by simpa using hk)).1
      have e : ((cutL 44 b).map numL).getD k 0 = numL p := by simp [List.getD, hk, hkp]
      rw [e, numL_yes (h2 p hp)] at this
      exact this
    rw [← parI_is (h2 p hp)] at hc
    exact itoa_no hpos dig_no58 hc
  have hc : cutL 58 l = [a, b] := by rw [hl, cutL_app b ha, cutL_no hb]
  have hr : rowOf l = ((parI a).1, (cutL 44 b).map numL) := by
    unfold rowOf
    rw [hc]
    simp [numL_yes h1]
  have hf : fmtRow (rowOf l) = l := by
    rw [hr]
    unfold fmtRow
    rw [h3]
    simp only [if_true]
    rw [parI_is h1, pieces_text h2 hl3, hl]
    simp
  rw [parRow_yes (by rw [hl]; simp) hf, hr]
theorem split_one {c : UInt8} : ∀ {a a' b b' : List UInt8}, c ∉ a → c ∉ a' → a ++ c :: b = a' ++ c :: b' → a = a' ∧ b = b'
  | [], [], b, b', _, _, h => by simp at h; exact ⟨rfl, h⟩
  | [], x :: a', b, b', _, h2, h => by simp at h; exact absurd (by rw [h.1]; exact List.mem_cons_self ..) h2
  | x :: a, [], b, b', h1, _, h => by simp at h; exact absurd (by rw [h.1]; exact List.mem_cons_self ..) h1
  | x :: a, y :: a', b, b', h1, h2, h => by
    simp only [List.cons_append, List.cons.injEq] at h
    obtain ⟨rfl, h⟩ := h
    obtain ⟨rfl, rfl⟩ := split_one (fun g => h1 (List.mem_cons_of_mem _ g)) (fun g => h2 (List.mem_cons_of_mem _ g)) h
    exact ⟨rfl, rfl⟩
theorem acc_parts {l : List UInt8} (h : (parRow l).2 = true) : ∃ a b, l = a ++ 58 :: b ∧ (58 : UInt8) ∉ a ∧ rowOk a b := by
  have hc : ¬ (l = [] ∨ fmtRow (rowOf l) ≠ l) := fun g => by rw [parRow_no g] at h; exact Bool.noConfusion h
  rw [not_or] at hc
  obtain ⟨hne, hf⟩ := hc
  have hf : fmtRow (rowOf l) = l := Classical.byContradiction hf
  generalize rowOf l = r at hf
  obtain ⟨id, xs⟩ := r
  unfold fmtRow at hf
  cases hb : rowB (id, xs) with
  | false => rw [hb] at hf; exact absurd hf.symm hne
  | true =>
    rw [hb] at hf
    simp only [if_true] at hf
    have hb' := hb
    obtain ⟨⟨i0, i1⟩, hl3, hv⟩ := row_parts hb'
    obtain ⟨x, y, z, rfl⟩ := three_of hl3
    have v0 := hv 0 (by simp)
    have v1 := hv 1 (by simp)
    have v2 := hv 2 (by simp)
    simp at v0 v1 v2
    refine ⟨Lib.itoa id, listTo [x, y, z] 3, by rw [← hf]; simp, itoa_no i0 dig_no58, ?_⟩
    have hcut : cutL 44 (listTo [x, y, z] 3) = [Lib.itoa x, Lib.itoa y, Lib.itoa z] := by
      have : listTo [x, y, z] 3 = Lib.itoa x ++ 44 :: (Lib.itoa y ++ 44 :: Lib.itoa z) := by simp [listTo]
      rw [this, cutL_app _ (itoa_no v0.1 dig_no44), cutL_app _ (itoa_no v1.1 dig_no44), cutL_no (itoa_no v2.1 dig_no44)]
    refine ⟨by rw [parI_itoa3 i0 i1], ?_, ?_⟩
    · rw [hcut]
      intro p hp
      simp at hp
      rcases hp with rfl | rfl | rfl
      · rw [parI_itoa3 v0.1 (by omega)]
      · rw [parI_itoa3 v1.1 (by omega)]
      · rw [parI_itoa3 v2.1 (by omega)]
    · rw [hcut]
      simp only [List.map_cons, List.map_nil]
      rw [numL_itoa3 v0.1 (by omega), numL_itoa3 v1.1 (by omega), numL_itoa3 v2.1 (by omega), parI_itoa3 i0 i1]
      exact hb
theorem row_rej {l a b : List UInt8} (hl : l = a ++ 58 :: b) (ha : (58 : UInt8) ∉ a) (h : ¬ rowOk a b) : parRow l = ((0, []), false) := by
  refine parRow_false fun g => h ?_
  obtain ⟨a', b', hl', ha', hok⟩ := acc_parts g
  obtain ⟨rfl, rfl⟩ := split_one ha ha' (hl.symm.trans hl')
  exact hok
theorem row_none {l : List UInt8} (h : (58 : UInt8) ∉ l) : parRow l = ((0, []), false) := by
  refine parRow_false fun g => h ?_
  obtain ⟨a, b, rfl, _, _⟩ := acc_parts g
  simp
theorem parRow_len (l : List UInt8) : (parRow l).1.2.length ≤ 3 := by
  cases h : (parRow l).2 with
  | false => rw [parRow_false (by rw [h]; simp)]; simp
  | true =>
    obtain ⟨a, b, hl, ha, hok⟩ := acc_parts h
    rw [row_acc hl ha hok]
    have := (row_parts hok.2.2).2.1
    simp at this ⊢
    omega
/-- The program's numbers of a list of pieces. -/
def intsGo : List Int → List (List UInt8) → Option (List Int)
  | acc, [] => some acc
  | acc, p :: r => if (parI p).2 = true then intsGo (acc ++ [(parI p).1]) r else none
theorem intsGo_hit {acc : List Int} {P : List (List UInt8)} {k : Nat} (hk : k < P.length) (h : (parI (P.getD k [])).2 = true) : intsGo acc (P.drop k) = intsGo (acc ++ [(parI (P.getD k [])).1]) (P.drop (k + 1)) := by
  rw [List.drop_eq_getElem_cons hk]
  have e : P.getD k [] = P[k] := by simp [List.getD, hk]
  rw [e] at h ⊢
  show (if (parI P[k]).2 = true then _ else _) = _
  rw [if_pos h]
theorem intsGo_miss {acc : List Int} {P : List (List UInt8)} {k : Nat} (hk : k < P.length) (h : (parI (P.getD k [])).2 = false) : intsGo acc (P.drop k) = none := by
  rw [List.drop_eq_getElem_cons hk]
  have e : P.getD k [] = P[k] := by simp [List.getD, hk]
  rw [e] at h
  show (if (parI P[k]).2 = true then _ else _) = _
  rw [if_neg (by rw [h]; simp)]
theorem intsGo_all : ∀ (P : List (List UInt8)) (acc : List Int), (∀ p ∈ P, (parI p).2 = true) → intsGo acc P = some (acc ++ P.map numL)
  | [], acc, _ => by simp [intsGo]
  | p :: r, acc, h => by
    have hp := h p (List.mem_cons_self ..)
    unfold intsGo
    rw [if_pos hp, intsGo_all r _ (fun q hq => h q (List.mem_cons_of_mem _ hq))]
    simp [numL_yes hp]
theorem intsGo_some : ∀ (P : List (List UInt8)) (acc xs : List Int), intsGo acc P = some xs → (∀ p ∈ P, (parI p).2 = true) ∧ xs = acc ++ P.map numL
  | [], acc, xs, h => by simp [intsGo] at h; subst h; simp
  | p :: r, acc, xs, h => by
    unfold intsGo at h
    by_cases hp : (parI p).2 = true
    · rw [if_pos hp] at h
      obtain ⟨h1, h2⟩ := intsGo_some r _ xs h
      refine ⟨fun q hq => ?_, by rw [h2]; simp [numL_yes hp]⟩
      rcases List.mem_cons.1 hq with rfl | hq
      · exact hp
      · exact h1 q hq
    · rw [if_neg hp] at h; cases h
theorem intsGo_none {P : List (List UInt8)} (h : intsGo [] P = none) : ¬ ∀ p ∈ P, (parI p).2 = true := fun g => by
  rw [intsGo_all P [] g] at h; cases h
end Go.Proofs.YteelgogfpidcdaaDoor
