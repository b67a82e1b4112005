/-
  The specification's insertion sort of rows: the mathematics, and what stands in memory.
-/
import Derived.Test.YtginjmnohnidiaaRowCopy
import Derived.Test.YtginjmnohnidiaaRowMarkW
import Derived.Maps.AppendAt
namespace Go.Proofs.Ytginjmnohnidiaa
open Go.RowKit
set_option linter.unusedVariables false
/-- Where the row r goes among the first k rows. -/
def insAt (rs : List RowD) (r : RowD) : Nat → Nat
  | 0 => 0
  | k + 1 => if rowLess r (rs.getD k (0, [])) then insAt rs r k else k + 1
def insL (rs : List RowD) (r : RowD) : List RowD := rs.take (insAt rs r rs.length) ++ r :: rs.drop (insAt rs r rs.length)
def sortTo (a : List RowD) (k : Nat) : List RowD := (a.take k).foldl insL []
def sortL (a : List RowD) : List RowD := a.foldl insL []
theorem sortTo_step {a : List RowD} {k : Nat} (hk : k < a.length) : sortTo a (k + 1) = insL (sortTo a k) (a.getD k (0, [])) := by
  unfold sortTo
  rw [List.take_succ_eq_append_getElem hk, List.foldl_append]
  simp [List.getD, hk]
theorem sortTo_all (a : List RowD) : sortTo a a.length = sortL a := by simp [sortTo, sortL]
theorem insAt_le (rs : List RowD) (r : RowD) (k : Nat) : insAt rs r k ≤ k := by
  induction k with
  | zero => exact Nat.le_refl _
  | succ k ih => unfold insAt; split <;> omega
theorem insL_perm (rs : List RowD) (r : RowD) : (insL rs r).Perm (r :: rs) := by
  unfold insL
  refine List.perm_middle.trans ?_
  rw [List.take_append_drop]
theorem foldl_perm (a : List RowD) : ∀ acc, (a.foldl insL acc).Perm (a ++ acc) := by
  induction a with
  | nil => intro acc; exact List.Perm.refl _
  | cons r a ih =>
    intro acc
    refine (ih (insL acc r)).trans ?_
    refine (List.Perm.append_left a (insL_perm acc r)).trans ?_
    exact List.perm_middle
theorem sortL_perm (a : List RowD) : (sortL a).Perm a := by have := foldl_perm a []; rw [List.append_nil] at this; exact this
theorem szL_perm {a b : List RowD} (h : a.Perm b) : szL a = szL b := by
  unfold szL szTo
  rw [List.take_length, List.take_length, h.length_eq]
  have := (h.map (fun r : RowD => r.2.length)).sum_nat
  rw [this]
theorem szL_sort (a : List RowD) (h : szL a ≤ 1048576) : szL (sortL a) ≤ 1048576 := by rw [szL_perm (sortL_perm a)]; exact h
theorem sortTo_perm (a : List RowD) (k : Nat) : (sortTo a k).Perm (a.take k) := by have := foldl_perm (a.take k) []; rw [List.append_nil] at this; exact this
theorem sortTo_len {a : List RowD} {k : Nat} (hk : k ≤ a.length) : (sortTo a k).length = k := by rw [(sortTo_perm a k).length_eq, List.length_take]; omega
theorem sortTo_sz {a : List RowD} {k : Nat} (hs : szL a ≤ 1048576) (hk : k ≤ a.length) : szL (sortTo a k) ≤ 1048576 := by
  rw [szL_perm (sortTo_perm a k)]
  have h1 := szTo_le hk
  unfold szL szTo at *
  rw [List.take_take, List.length_take, show min (min k a.length) k = k by omega]
  omega
/-- The cells of a slice of rows that the call made. -/
def RowsC (w : World) (B : Nat) (v : Value) (n : Nat) (cs : List Value) : Prop := w.ownsRow B 76 2 v n cs
theorem info_row : ∃ i, Try.prog.info? 76 = some i ∧ i.zero = some (.agg #[.int .i64 0, .slice none 0 0]) ∧ i.size = 2 ∧ i.bytes = 32 := by
  have h1 := Try.infoRow
  have h2 := row_bytes
  cases e : Try.prog.info? 76 with
  | none => rw [e] at h1; simp at h1
  | some i => rw [e] at h1 h2; simp at h1 h2; exact ⟨i, rfl, h1.1, h1.2, h2⟩
/-- 'append(x, ..)' of m rows whose cells lie at ad. -/
theorem append_rows {w : World} {ops : Array Oper} {rest : List Oper} {o : Oper} {a : Act} {Q : Exit → Act → World → Prop} (hgd : o.guard = none) (s x : Operand)
    (ho : o.op = .call { callee := .builtin .append, args := #[s, x], argTypes := #[24, 24] })
    (B : Nat) (v : Value) (n : Nat) (cs : List Value) (hs : a.eval s = v) (hown : RowsC w B v n cs) (hB : B ≤ w.heap.size)
    (ad : Addr) (m c : Nat) (news : List Value) (hx : a.eval x = .slice (some ad) m c) (hl : news.length = m * 2) (hnews : ∀ j u, news[j]? = some u → w.cell? (ad.add j) = some u) (h1 : ∀ u ∈ news, u.oneCell' = true) (h63 : n + m ≤ 2097152)
    (h : ∀ v' w', RowsC w' B v' (n + m) (cs ++ news) → w.grownBy w' v.ownBlock → (v' = .slice none 0 0 ↔ v = .slice none 0 0 ∧ m = 0) → (v'.ownBlock = v.ownBlock ∨ v'.ownBlock = some w.heap.size) → wpList Try.prog ops Q rest (a.put o.dst v') w') : wpList Try.prog ops Q (o :: rest) a w := by
  obtain ⟨i0, hi, hz0, hz1, hz2⟩ := info_row
  exact wpList_append_own_at _ hgd s x 24 ho B 76 i0 (.agg #[.int .i64 0, .slice none 0 0]) 2 32 Try.underlying24 hi hz0 hz1 hz2 rfl (by decide) v n cs hs hown ad m c news hx hl hnews h1 (by unfold maxLen; omega) (by omega) hB h
theorem rowsC_kept {w w' : World} {B : Nat} {v : Value} {n : Nat} {cs : List Value} (h : RowsC w B v n cs) (hb : Below w.heap.size w w') : RowsC w' B v n cs := ownsRow_below h hb
end Go.Proofs.Ytginjmnohnidiaa
