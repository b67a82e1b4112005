/-
  Texts of the proof, merged: Ints, Strs, LawInts, SetMath, SetSpec, Bytes, FmtMath, FmtWalks, RunMath.
-/
import Derived.Test.YteelgogfpidcdaaDoorRows
import Derived.Test.YteelgogfpidcdaaDoorShelf
import Derived.WalkKit
import Derived.Below
import Derived.Lib.Hide
import Derived.OwnWalk
import Derived.BigQuiet
import Derived.Deep.QuietTactic
import Derived.WalkSpells
import Derived.Deep.RegionHeld3
import Derived.IntWalk
import Derived.Laws.BytesArg
import Derived.Laws.IdiomStrings
import Derived.Laws.Concat
import Derived.Lib.ItoaMem
import Derived.Lib.ItoaLen
import Derived.Lib.AppendIntMem
namespace Go.Proofs.YteelgogfpidcdaaDoor
open Go.RowKit
set_option linter.unusedVariables false
theorem Tryd.infoI64 : (Tryd.prog.info? 3).map (fun i => (i.zero, i.size, i.bytes)) = some (some (.int .i64 0), 1, 8) := by kernel_rfl
/-- The slice v reads as the numbers xs. -/
def Ints (w : World) (v : Value) (xs : List Int) : Prop :=
  (xs = [] ∧ ∃ a cap, v = .slice a 0 cap) ∨ ∃ b off cap, v = .slice (some ⟨b, off, none⟩) xs.length cap ∧ xs.length ≤ cap ∧ b < w.heap.size ∧ ∀ j, j < xs.length → w.cell? ⟨b, off + j, none⟩ = some (.int .i64 (xs.getD j 0))
/-- The slice v owns the numbers xs, in a block from B on. -/
def OwnsN (w : World) (B : Nat) (v : Value) (xs : List Int) : Prop := w.ownsRow B 3 1 v xs.length (xs.map (Value.int .i64))
theorem below_same {B : Nat} {a w w' : World} (h : Below B a w) (h1 : w'.heap = w.heap) (h2 : w'.os = w.os) (h3 : w'.tape = w.tape) (h4 : w'.output = w.output) : Below B a w' :=
  ⟨h2.trans h.os, h3.trans h.tape, h4.trans h.output, by rw [h1]; exact h.size, fun k hk => by rw [h1]; exact h.block k hk⟩
theorem ints_len {w : World} {v : Value} {xs : List Int} (h : Ints w v xs) : ∃ a cap, v = .slice a xs.length cap := by
  rcases h with ⟨rfl, a, cap, rfl⟩ | ⟨b, off, cap, rfl, _⟩
  · exact ⟨a, cap, rfl⟩
  · exact ⟨_, cap, rfl⟩
theorem ints_below {W w : World} {v : Value} {xs : List Int} (h : Ints W v xs) (hb : Below W.heap.size W w) : Ints w v xs := by
  rcases h with h | ⟨b, off, cap, h1, h2, h3, h4⟩
  · exact Or.inl h
  · exact Or.inr ⟨b, off, cap, h1, h2, Nat.lt_of_lt_of_le h3 hb.size, fun j hj => (hb.cell (p := ⟨b, off + j, none⟩) h3).trans (h4 j hj)⟩
theorem ownsN_nil (w : World) (B : Nat) : OwnsN w B (.slice none 0 0) [] := World.ownsRow_nil w B _ _
theorem ownsN_lit (w : World) (B : Nat) (hb : B ≤ w.heap.size) (C : Array Value) (n : Nat) (xs : List Int) (hC : C.toList = xs.map (Value.int .i64)) (hn : n = xs.length) (hm : n ≤ maxLen) :
    OwnsN (w.alloc (.cells C 3)) B (.slice (some ⟨w.heap.size, 0, none⟩) n n) xs := by
  subst hn
  have := World.ownsRow_lit (e := 3) (size := 1) w C xs.length hb hm (by have := congrArg List.length hC; simpa using this)
  rw [hC] at this
  exact this
theorem cell_lit (w : World) (C : Array Value) (t : TypeId) (j : Nat) : (w.alloc (.cells C t)).cell? ⟨w.heap.size, j, none⟩ = C[j]? := by
  rw [cell_of_row _ w.heap.size j C t (0, 0) (heap_alloc_new w _)]
/-- 'append(out, x..)' where the numbers lie in a block that was just laid. -/
theorem append_ints {w : World} {ops : Array Oper} {rest : List Oper} {o : Oper} {a : Act} {Q : Exit → Act → World → Prop} (hgd : o.guard = none) (s x : Operand)
    (ho : o.op = .call { callee := .builtin .append, args := #[s, x], argTypes := #[32, 32] })
    (B : Nat) (v : Value) (xs : List Int) (hs : a.eval s = v) (hown : OwnsN w B v xs) (hB : B ≤ w.heap.size)
    (C : Array Value) (ys : List Int) (m c : Nat) (hx : a.eval x = .slice (some ⟨w.heap.size, 0, none⟩) m c) (hC : C.toList = ys.map (Value.int .i64)) (hm : m = ys.length)
    (h63 : xs.length + ys.length ≤ 17592186044416)
    (h : ∀ v' w', OwnsN w' B v' (xs ++ ys) → Below B w w' → wpList Tryd.prog ops Q rest (a.put o.dst v') w') : wpList Tryd.prog ops Q (o :: rest) a (w.alloc (.cells C 3)) := by
  obtain ⟨i0, hi, hz0, hz1, hz2⟩ := info_parts Tryd.infoI64
  subst hm
  refine wpList_append_own _ hgd s x 32 ho B 3 i0 (.int .i64 0) 1 8 Tryd.underlying32 hi hz0 hz1 hz2 rfl (by decide) v xs.length _ hs (hown.alloc _) ⟨w.heap.size, 0, none⟩ ys.length c (ys.map (Value.int .i64)) hx (by simp) ?_ (by intro u hu; simp at hu; obtain ⟨y, _, rfl⟩ := hu; rfl) (by unfold maxLen; omega) (by omega) (by simp; omega) ?_
  · intro j u hj
    have e : (⟨w.heap.size, 0, none⟩ : Addr).add j = ⟨w.heap.size, j, none⟩ := by unfold Addr.add; split <;> simp_all
    rw [e, cell_lit]
    rw [← hC] at hj
    simpa using hj
  · intro v' w' h1 h2 _
    refine h v' w' ?_ ?_
    · unfold OwnsN
      simpa using h1
    · exact ((Below.refl B w).alloc hB _).grown h2 (by simp; omega) (fun k hk => (hown.lt k hk).1)
/-- What is owned reads so. -/
theorem ownsN_ints {w : World} {B : Nat} {v : Value} {xs : List Int} (h : OwnsN w B v xs) : Ints w v xs := by
  rcases h.2 with ⟨rfl, h0⟩ | ⟨g, cap, cur, rfl, hb, hg, hn, hm, hcs, htake⟩
  · have : xs = [] := List.eq_nil_of_length_eq_zero h0
    subst this
    exact Or.inl ⟨rfl, none, 0, rfl⟩
  · refine Or.inr ⟨g, 0, cap, rfl, hn, (Array.getElem?_eq_some_iff.1 hg).1, ?_⟩
    intro j hj
    have := World.ownsRow.cells h (g := g) rfl j (.int .i64 (xs.getD j 0)) (by simp [List.getElem?_eq_getElem hj])
    have e : (⟨g, 0, none⟩ : Addr).add j = ⟨g, 0 + j, none⟩ := by unfold Addr.add; split <;> simp_all
    rwa [e] at this
/-- What 'make([]int, n)' owns. -/
theorem ownsN_made {w : World} {B g n : Nat} (h : w.ownsRow B 3 1 (.slice (some ⟨g, 0, none⟩) n n) n (madeCells #[Value.int .i64 0] n).toList) : OwnsN w B (.slice (some ⟨g, 0, none⟩) n n) (List.replicate n 0) := by
  have e : (madeCells #[Value.int .i64 0] n).toList = List.replicate n (.int .i64 0) := toList_madeCells_one (.int .i64 0) n
  rw [e] at h
  unfold OwnsN
  simpa using h
theorem ownsN_len {w : World} {B : Nat} {a : Option Addr} {n cap : Nat} {xs : List Int} (h : OwnsN w B (.slice a n cap) xs) : n = xs.length := by
  rcases h.2 with ⟨h', h0⟩ | ⟨_, _, _, h', _⟩
  · simp only [Value.slice.injEq] at h'; omega
  · simp only [Value.slice.injEq] at h'; exact h'.2.1
theorem ownsN_cell {w : World} {B g n cap j : Nat} {xs : List Int} {x : Int} (h : OwnsN w B (.slice (some ⟨g, 0, none⟩) n cap) xs) (hx : xs[j]? = some x) : w.cell? ⟨g, j, none⟩ = some (.int .i64 x) := by
  have := World.ownsRow.cells h (g := g) rfl j (.int .i64 x) (by simp [hx])
  have e : (⟨g, 0, none⟩ : Addr).add j = ⟨g, j, none⟩ := by unfold Addr.add; split <;> simp_all
  rwa [e] at this
theorem ownsN_frozen {w : World} {B g n cap : Nat} {xs : List Int} (h : OwnsN w B (.slice (some ⟨g, 0, none⟩) n cap) xs) (j : Nat) : w.frozen? ⟨g, j, none⟩ = false := by
  obtain rfl := ownsN_len h
  exact World.ownsRow.frozenAt h j
theorem ownsN_store {w : World} {B g n cap : Nat} {xs : List Int} (h : OwnsN w B (.slice (some ⟨g, 0, none⟩) n cap) xs) (j : Nat) (x : Int) : OwnsN (w.setCell ⟨g, j, none⟩ (.int .i64 x)) B (.slice (some ⟨g, 0, none⟩) n cap) (xs.set j x) := by
  obtain rfl := ownsN_len h
  have := (World.ownsRow.stored h j (.int .i64 x)).1
  unfold OwnsN
  rw [List.length_set, List.map_set]
  exact this
theorem ownsN_ge {w : World} {B g n cap : Nat} {xs : List Int} (h : OwnsN w B (.slice (some ⟨g, 0, none⟩) n cap) xs) : B ≤ g ∧ g < w.heap.size := h.lt g rfl
/-- What is owned stays owned while only blocks beyond it, or none of its own, are written. -/
theorem ownsN_below {w w' : World} {B : Nat} {v : Value} {xs : List Int} (h : OwnsN w B v xs) (hb : Below w.heap.size w w') : OwnsN w' B v xs := by
  refine ⟨h.1, ?_⟩
  rcases h.2 with hn | ⟨g, cap, cur, rfl, hb', hg, rest⟩
  · exact .inl hn
  · refine .inr ⟨g, cap, cur, rfl, hb', ?_, rest⟩
    rw [hb.block g (Array.getElem?_eq_some_iff.1 hg).1]
    exact hg
/-- The form of what is owned: nil, or the head of a block. -/
theorem ownsN_form {w : World} {B : Nat} {v : Value} {xs : List Int} (h : OwnsN w B v xs) : (v = .slice none 0 0 ∧ xs = []) ∨ ∃ g cap, v = .slice (some ⟨g, 0, none⟩) xs.length cap ∧ B ≤ g ∧ g < w.heap.size := by
  rcases h.2 with ⟨rfl, h0⟩ | ⟨g, cap, cur, rfl, hb, hg, _⟩
  · exact .inl ⟨rfl, List.eq_nil_of_length_eq_zero h0⟩
  · exact .inr ⟨g, cap, rfl, hb, (Array.getElem?_eq_some_iff.1 hg).1⟩
end Go.Proofs.YteelgogfpidcdaaDoor
namespace Go.Proofs.YteelgogfpidcdaaDoor
open Go.RowKit
set_option linter.unusedVariables false
theorem Tryd.infoStr : (Tryd.prog.info? 9).map (fun i => (i.zero, i.size, i.bytes)) = some (some (.string ⟨#[]⟩), 1, 16) := by kernel_rfl
/-- The slice v reads as the texts xs. -/
def Strs (w : World) (v : Value) (xs : List ByteArray) : Prop :=
  (xs = [] ∧ ∃ a cap, v = .slice a 0 cap) ∨ ∃ b off cap, v = .slice (some ⟨b, off, none⟩) xs.length cap ∧ xs.length ≤ cap ∧ b < w.heap.size ∧ ∀ j, j < xs.length → w.cell? ⟨b, off + j, none⟩ = some (.string (xs.getD j ⟨#[]⟩))
/-- The slice v owns the texts xs, in a block from B on. -/
def OwnsS (w : World) (B : Nat) (v : Value) (xs : List ByteArray) : Prop := w.ownsRow B 9 1 v xs.length (xs.map (Value.string))
theorem strs_len {w : World} {v : Value} {xs : List ByteArray} (h : Strs w v xs) : ∃ a cap, v = .slice a xs.length cap := by
  rcases h with ⟨rfl, a, cap, rfl⟩ | ⟨b, off, cap, rfl, _⟩
  · exact ⟨a, cap, rfl⟩
  · exact ⟨_, cap, rfl⟩
theorem strs_below {W w : World} {v : Value} {xs : List ByteArray} (h : Strs W v xs) (hb : Below W.heap.size W w) : Strs w v xs := by
  rcases h with h | ⟨b, off, cap, h1, h2, h3, h4⟩
  · exact Or.inl h
  · exact Or.inr ⟨b, off, cap, h1, h2, Nat.lt_of_lt_of_le h3 hb.size, fun j hj => (hb.cell (p := ⟨b, off + j, none⟩) h3).trans (h4 j hj)⟩
theorem ownsS_nil (w : World) (B : Nat) : OwnsS w B (.slice none 0 0) [] := World.ownsRow_nil w B _ _
theorem ownsS_lit (w : World) (B : Nat) (hb : B ≤ w.heap.size) (C : Array Value) (n : Nat) (xs : List ByteArray) (hC : C.toList = xs.map (Value.string)) (hn : n = xs.length) (hm : n ≤ maxLen) :
    OwnsS (w.alloc (.cells C 9)) B (.slice (some ⟨w.heap.size, 0, none⟩) n n) xs := by
  subst hn
  have := World.ownsRow_lit (e := 9) (size := 1) w C xs.length hb hm (by have := congrArg List.length hC; simpa using this)
  rw [hC] at this
  exact this
/-- 'append(out, x..)' where the texts lie in a block that was just laid. -/
theorem append_strs {w : World} {ops : Array Oper} {rest : List Oper} {o : Oper} {a : Act} {Q : Exit → Act → World → Prop} (hgd : o.guard = none) (s x : Operand)
    (ho : o.op = .call { callee := .builtin .append, args := #[s, x], argTypes := #[65, 65] })
    (B : Nat) (v : Value) (xs : List ByteArray) (hs : a.eval s = v) (hown : OwnsS w B v xs) (hB : B ≤ w.heap.size)
    (C : Array Value) (ys : List ByteArray) (m c : Nat) (hx : a.eval x = .slice (some ⟨w.heap.size, 0, none⟩) m c) (hC : C.toList = ys.map (Value.string)) (hm : m = ys.length)
    (h63 : xs.length + ys.length ≤ 8796093022208)
    (h : ∀ v' w', OwnsS w' B v' (xs ++ ys) → Below B w w' → wpList Tryd.prog ops Q rest (a.put o.dst v') w') : wpList Tryd.prog ops Q (o :: rest) a (w.alloc (.cells C 9)) := by
  obtain ⟨i0, hi, hz0, hz1, hz2⟩ := info_parts Tryd.infoStr
  subst hm
  refine wpList_append_own _ hgd s x 65 ho B 9 i0 (.string ⟨#[]⟩) 1 16 Tryd.underlying65 hi hz0 hz1 hz2 rfl (by decide) v xs.length _ hs (hown.alloc _) ⟨w.heap.size, 0, none⟩ ys.length c (ys.map (Value.string)) hx (by simp) ?_ (by intro u hu; simp at hu; obtain ⟨y, _, rfl⟩ := hu; rfl) (by unfold maxLen; omega) (by omega) (by simp; omega) ?_
  · intro j u hj
    have e : (⟨w.heap.size, 0, none⟩ : Addr).add j = ⟨w.heap.size, j, none⟩ := by unfold Addr.add; split <;> simp_all
    rw [e, cell_lit]
    rw [← hC] at hj
    simpa using hj
  · intro v' w' h1 h2 _
    refine h v' w' ?_ ?_
    · unfold OwnsS
      simpa using h1
    · exact ((Below.refl B w).alloc hB _).grown h2 (by simp; omega) (fun k hk => (hown.lt k hk).1)
/-- What is owned reads so. -/
theorem ownsS_strs {w : World} {B : Nat} {v : Value} {xs : List ByteArray} (h : OwnsS w B v xs) : Strs w v xs := by
  rcases h.2 with ⟨rfl, h0⟩ | ⟨g, cap, cur, rfl, hb, hg, hn, hm, hcs, htake⟩
  · have : xs = [] := List.eq_nil_of_length_eq_zero h0
    subst this
    exact Or.inl ⟨rfl, none, 0, rfl⟩
  · refine Or.inr ⟨g, 0, cap, rfl, hn, (Array.getElem?_eq_some_iff.1 hg).1, ?_⟩
    intro j hj
    have := World.ownsRow.cells h (g := g) rfl j (.string (xs.getD j ⟨#[]⟩)) (by simp [List.getElem?_eq_getElem hj])
    have e : (⟨g, 0, none⟩ : Addr).add j = ⟨g, 0 + j, none⟩ := by unfold Addr.add; split <;> simp_all
    rwa [e] at this
/-- What 'make([]string, n)' owns. -/
theorem ownsS_made {w : World} {B g n : Nat} (h : w.ownsRow B 9 1 (.slice (some ⟨g, 0, none⟩) n n) n (madeCells #[Value.string ⟨#[]⟩] n).toList) : OwnsS w B (.slice (some ⟨g, 0, none⟩) n n) (List.replicate n ⟨#[]⟩) := by
  have e : (madeCells #[Value.string ⟨#[]⟩] n).toList = List.replicate n (.string ⟨#[]⟩) := toList_madeCells_one (.string ⟨#[]⟩) n
  rw [e] at h
  unfold OwnsS
  simpa using h
theorem ownsS_len {w : World} {B : Nat} {a : Option Addr} {n cap : Nat} {xs : List ByteArray} (h : OwnsS w B (.slice a n cap) xs) : n = xs.length := by
  rcases h.2 with ⟨h', h0⟩ | ⟨_, _, _, h', _⟩
  · simp only [Value.slice.injEq] at h'; omega
  · simp only [Value.slice.injEq] at h'; exact h'.2.1
theorem ownsS_cell {w : World} {B g n cap j : Nat} {xs : List ByteArray} {x : ByteArray} (h : OwnsS w B (.slice (some ⟨g, 0, none⟩) n cap) xs) (hx : xs[j]? = some x) : w.cell? ⟨g, j, none⟩ = some (.string x) := by
  have := World.ownsRow.cells h (g := g) rfl j (.string x) (by simp [hx])
  have e : (⟨g, 0, none⟩ : Addr).add j = ⟨g, j, none⟩ := by unfold Addr.add; split <;> simp_all
  rwa [e] at this
theorem ownsS_frozen {w : World} {B g n cap : Nat} {xs : List ByteArray} (h : OwnsS w B (.slice (some ⟨g, 0, none⟩) n cap) xs) (j : Nat) : w.frozen? ⟨g, j, none⟩ = false := by
  obtain rfl := ownsS_len h
  exact World.ownsRow.frozenAt h j
theorem ownsS_store {w : World} {B g n cap : Nat} {xs : List ByteArray} (h : OwnsS w B (.slice (some ⟨g, 0, none⟩) n cap) xs) (j : Nat) (x : ByteArray) : OwnsS (w.setCell ⟨g, j, none⟩ (.string x)) B (.slice (some ⟨g, 0, none⟩) n cap) (xs.set j x) := by
  obtain rfl := ownsS_len h
  have := (World.ownsRow.stored h j (.string x)).1
  unfold OwnsS
  rw [List.length_set, List.map_set]
  exact this
theorem ownsS_ge {w : World} {B g n cap : Nat} {xs : List ByteArray} (h : OwnsS w B (.slice (some ⟨g, 0, none⟩) n cap) xs) : B ≤ g ∧ g < w.heap.size := h.lt g rfl
/-- What is owned stays owned while only blocks beyond it, or none of its own, are written. -/
theorem ownsS_below {w w' : World} {B : Nat} {v : Value} {xs : List ByteArray} (h : OwnsS w B v xs) (hb : Below w.heap.size w w') : OwnsS w' B v xs := by
  refine ⟨h.1, ?_⟩
  rcases h.2 with hn | ⟨g, cap, cur, rfl, hb', hg, rest⟩
  · exact .inl hn
  · refine .inr ⟨g, cap, cur, rfl, hb', ?_, rest⟩
    rw [hb.block g (Array.getElem?_eq_some_iff.1 hg).1]
    exact hg
/-- The form of what is owned: nil, or the head of a block. -/
theorem ownsS_form {w : World} {B : Nat} {v : Value} {xs : List ByteArray} (h : OwnsS w B v xs) : (v = .slice none 0 0 ∧ xs = []) ∨ ∃ g cap, v = .slice (some ⟨g, 0, none⟩) xs.length cap ∧ B ≤ g ∧ g < w.heap.size := by
  rcases h.2 with ⟨rfl, h0⟩ | ⟨g, cap, cur, rfl, hb, hg, _⟩
  · exact .inl ⟨rfl, List.eq_nil_of_length_eq_zero h0⟩
  · exact .inr ⟨g, cap, rfl, hb, (Array.getElem?_eq_some_iff.1 hg).1⟩
end Go.Proofs.YteelgogfpidcdaaDoor
namespace Go.Proofs.YteelgogfpidcdaaDoor
open Go.RowKit
set_option linter.unusedVariables false
/-- A slice in new memory that holds the numbers xs. -/
def Fresh (w : World) (xs : List Int) (e : Ending) (w' : World) : Prop := ∃ v', e = .returned v' ∧ OwnsN w' w.heap.size v' xs ∧ Below w.heap.size w w'
theorem ints_cell {w : World} {v : Value} {xs : List Int} (h : Ints w v xs) (hp : 0 < xs.length) : ∃ b off cap, v = .slice (some ⟨b, off, none⟩) xs.length cap ∧ b < w.heap.size ∧ ∀ j, j < xs.length → w.cell? ⟨b, off + j, none⟩ = some (.int .i64 (xs.getD j 0)) := by
  rcases h with ⟨rfl, _⟩ | ⟨b, off, cap, h1, h2, h3, h4⟩
  · simp at hp
  · exact ⟨b, off, cap, h1, h3, h4⟩
theorem copy_step (xs : List Int) (k : Nat) (h : k < xs.length) : (xs.take k ++ List.replicate (xs.length - k) 0).set k (xs.getD k 0) = xs.take (k + 1) ++ List.replicate (xs.length - (k + 1)) 0 := by
  have hk : (xs.take k).length = k := by rw [List.length_take]; omega
  rw [List.set_append_right _ _ (by omega), hk, Nat.sub_self, show xs.length - k = (xs.length - (k + 1)) + 1 by omega, List.replicate_succ, List.set_cons_zero, List.take_succ_eq_append_getElem h, List.append_assoc]
  simp [List.getD, h]
theorem copy_at (xs : List Int) (k : Nat) (h : k < xs.length) : (xs.take k ++ List.replicate (xs.length - k) 0)[k]? = some 0 := by
  have hk : (xs.take k).length = k := by rw [List.length_take]; omega
  rw [List.getElem?_append_right (by omega), hk, Nat.sub_self, List.getElem?_replicate, if_pos (by omega)]
set_option maxRecDepth 100000 in
theorem toIntS_any (v : Value) (xs : List Int) (w : World) (h : Ints w v xs) (hn : xs.length ≤ 1048576) :
    Calls Tryd.prog 54 #[v] w (Fresh w xs) := by
  obtain ⟨i0, hi, hz0, hz1, hz2⟩ := info_parts Tryd.infoI64
  have HI := Lib.hid hi; have HZ0 := Lib.hid hz0; have HZ1 := Lib.hid hz1; have HZ2 := Lib.hid hz2
  clear hi hz0 hz1 hz2
  have H := Lib.hid h
  obtain ⟨a, cap, rfl⟩ := ints_len h
  clear h
  go_enter Tryd.func54, Tryd.ntmps54
  go_wp2_with (at_make; refine wpList_make_full _ rfl (.tmp 6) (.tmp 6) 32 rfl w.heap.size 3 i0 (.int .i64 0) 1 Tryd.underlying32 HI.out HZ0.out HZ1.out _ _ _ _ xs.length rfl rfl rfl rfl (by rw [HZ2.out]; omega) (by unfold maxLen; omega) (Nat.le_refl _) ?_)
  intro w1 hown0 hg0
  have hown1 := ownsN_made hown0
  have hbel1 := (Below.refl w.heap.size w).grown hg0 (Nat.le_refl _) (fun k hk => by cases hk)
  clear hown0 hg0
  go_wp2
  go_loopw [4] (fun i wr => ∃ k : Nat, k ≤ xs.length ∧ i = .int .i64 k ∧ OwnsN wr w.heap.size (.slice (some ⟨w.heap.size, 0, none⟩) xs.length xs.length) (xs.take k ++ List.replicate (xs.length - k) 0) ∧ Below w.heap.size w wr) (fun i _ => xs.length - (intOf i).toNat)
  case atStart => exact ⟨0, Nat.zero_le _, rfl, by simpa using hown1, hbel1⟩
  case round =>
    obtain ⟨k, hk, rfl, hown, hbel⟩ := hrel
    by_cases hlt : k < xs.length
    · obtain ⟨b, off, cap', hv, hbl, hc⟩ := ints_cell H.out (by omega)
      simp only [Value.slice.injEq] at hv
      obtain ⟨rfl, _, rfl⟩ := hv
      have hcell := (hbel.cell (p := ⟨b, off + k, none⟩) hbl).trans (hc k hlt)
      have hset := copy_step xs k hlt
      have i1 : (0 : Int) ≤ (k : Int) := by omega
      have i2 : (k : Int) < (xs.length : Int) := by omega
      have c1 := ownsN_cell hown (copy_at xs k hlt)
      have f1 := ownsN_frozen hown k
      have hst := ownsN_store hown k (xs.getD k 0)
      rw [hset] at hst
      have hb2 := hbel.setCell (p := ⟨w.heap.size, k, none⟩) (Nat.le_refl _) (.int .i64 (xs.getD k 0))
      have HST := Lib.hid hst
      clear hst hset hc hown hbel hown1 hbel1
      generalize xs.getD k 0 = y at *
      go_wp2
      go_roundw
      case rel => exact ⟨k + 1, by omega, by go_num, HST.out, hb2⟩
      case measure => simp [intOf]; omega
    · obtain rfl : k = xs.length := by omega
      rw [List.take_of_length_le (Nat.le_refl _), Nat.sub_self, List.replicate_zero, List.append_nil] at hown
      go_wp2
      go_ret
      exact ⟨_, rfl, hown, hbel⟩
set_option maxRecDepth 100000 in
theorem eqIntS_same (v u : Value) (xs : List Int) (w : World) (h : Ints w v xs) (g : Ints w u xs) (hn : xs.length ≤ 1048576) :
    Calls Tryd.prog 60 #[v, u] w fun e w' => e = .returned (.bool true) ∧ Below w.heap.size w w' := by
  have H := Lib.hid h
  have G := Lib.hid g
  obtain ⟨a, cap, rfl⟩ := ints_len h
  obtain ⟨a2, cap2, rfl⟩ := ints_len g
  clear h g
  go_enter Tryd.func60, Tryd.ntmps60
  go_wp2
  go_loopw [5] (fun i wr => ∃ k : Nat, k ≤ xs.length ∧ i = .int .i64 k ∧ Below w.heap.size w wr) (fun i _ => xs.length - (intOf i).toNat)
  case atStart => exact ⟨0, Nat.zero_le _, rfl, Below.refl _ _⟩
  case round =>
    obtain ⟨k, hk, rfl, hbel⟩ := hrel
    by_cases hlt : k < xs.length
    · obtain ⟨b, off, cap', hv, hbl, hc⟩ := ints_cell H.out (by omega)
      obtain ⟨b2, off2, cap2', hv2, hbl2, hc2⟩ := ints_cell G.out (by omega)
      simp only [Value.slice.injEq] at hv hv2
      obtain ⟨rfl, _, rfl⟩ := hv
      obtain ⟨rfl, _, rfl⟩ := hv2
      have hcell := (hbel.cell (p := ⟨b, off + k, none⟩) hbl).trans (hc k hlt)
      have hcell2 := (hbel.cell (p := ⟨b2, off2 + k, none⟩) hbl2).trans (hc2 k hlt)
      have i1 : (0 : Int) ≤ (k : Int) := by omega
      have i2 : (k : Int) < (xs.length : Int) := by omega
      clear hc hc2
      generalize xs.getD k 0 = y at *
      go_wp2
      go_quiet (fail)
      go_wp2
      go_roundw
      case rel => exact ⟨k + 1, by omega, by go_num, below_same hbel rfl rfl rfl rfl⟩
      case measure => simp [intOf]; omega
    · obtain rfl : k = xs.length := by omega
      go_wp2
      go_ret
      exact ⟨rfl, hbel⟩
/-- The numbers k, k + 1, ... -/
def marks (k : Int) (n : Nat) : List Int := (List.range n).map fun i : Nat => k + (i : Int)
theorem marks_length (k : Int) (n : Nat) : (marks k n).length = n := by simp [marks]
theorem marks_at (k : Int) (n j : Nat) (h : j < n) : (marks k n).getD j 0 = k + (j : Int) := by simp [marks, List.getD, h]
/-- The first j numbers marked. -/
def markedTo (xs : List Int) (k : Int) (j : Nat) : List Int := marks k j ++ xs.drop j
theorem markedTo_step (xs : List Int) (k : Int) (j : Nat) (h : j < xs.length) : (markedTo xs k j).set j (k + (j : Int)) = markedTo xs k (j + 1) := by
  unfold markedTo
  rw [List.set_append_right _ _ (by rw [marks_length]; exact Nat.le_refl _), marks_length, Nat.sub_self, List.drop_eq_getElem_cons h, List.set_cons_zero]
  simp [marks, List.range_succ]
theorem markedTo_at (xs : List Int) (k : Int) (j : Nat) (h : j < xs.length) : (markedTo xs k j)[j]? = some xs[j] := by
  unfold markedTo
  rw [List.getElem?_append_right (by rw [marks_length]; exact Nat.le_refl _), marks_length, Nat.sub_self, List.drop_eq_getElem_cons h]
  rfl
theorem markedTo_length (xs : List Int) (k : Int) (j : Nat) (h : j ≤ xs.length) : (markedTo xs k j).length = xs.length := by
  unfold markedTo; rw [List.length_append, marks_length, List.length_drop]; omega
theorem markedTo_all (xs : List Int) (k : Int) : markedTo xs k xs.length = marks k xs.length := by unfold markedTo; simp
/-- What marking leaves. -/
def Marked (w : World) (B : Nat) (v : Value) (n : Nat) (k : Int) (e : Ending) (w' : World) : Prop := e = .returned (.int .i64 (k + (n : Int))) ∧ OwnsN w' B v (marks k n) ∧ w.grownBy w' v.ownBlock
theorem grownBy_store (w : World) (g j : Nat) (u : Value) : w.grownBy (w.setCell ⟨g, j, none⟩ u) (some g) :=
  ⟨rfl, rfl, rfl, by simp [World.setCell], fun k _ hk => heap_setCell_other w ⟨g, j, none⟩ k u (fun e => hk (by simp [e]))⟩
theorem grown_more {a b c : World} {r : Option Nat} (h : a.grownBy b r) (k : b.grownBy c r) : a.grownBy c r :=
  ⟨k.os.trans h.os, k.tape.trans h.tape, k.output.trans h.output, Nat.le_trans h.size k.size, fun i hi hne => (k.block i (Nat.lt_of_lt_of_le hi h.size) hne).trans (h.block i hi hne)⟩
set_option maxRecDepth 100000 in
theorem markIntS_any (v : Value) (xs : List Int) (B : Nat) (k : Int) (w : World) (h : OwnsN w B v xs) (hn : xs.length ≤ 1048576) (k0 : 0 ≤ k) (k1 : k ≤ 1073741824) :
    Calls Tryd.prog 69 #[v, .int .i64 k] w (Marked w B v xs.length k) := by
  have H := Lib.hid h
  rcases ownsN_form h with ⟨rfl, rfl⟩ | ⟨g, cap, rfl, hBg, hgl⟩
  · clear h
    go_enter Tryd.func69, Tryd.ntmps69
    go_wp2
    go_loop [1, 5] (fun m i => i = .int .i64 0 ∧ m = .int .i64 k) (fun _ _ => 0)
    case atStart => exact ⟨rfl, rfl⟩
    case round =>
      obtain ⟨rfl, rfl⟩ := hrel
      go_wp2
      go_ret
      exact ⟨by simp, by rw [show marks k 0 = [] from rfl]; exact H.out, World.grownBy.refl _ _⟩
  · clear h
    go_enter Tryd.func69, Tryd.ntmps69
    go_wp2
    go_loopw [1, 5] (fun m i wr => ∃ j : Nat, j ≤ xs.length ∧ i = .int .i64 j ∧ m = .int .i64 (k + (j : Int)) ∧ OwnsN wr B (.slice (some ⟨g, 0, none⟩) xs.length cap) (markedTo xs k j) ∧ w.grownBy wr (some g)) (fun _ i _ => xs.length - (intOf i).toNat)
    case atStart => exact ⟨0, Nat.zero_le _, rfl, by simp, by rw [show markedTo xs k 0 = xs by simp [markedTo, marks]]; exact H.out, World.grownBy.refl _ _⟩
    case round =>
      obtain ⟨j, hj, rfl, rfl, hown, hgr⟩ := hrel
      by_cases hlt : j < xs.length
      · have i1 : (0 : Int) ≤ (j : Int) := by omega
        have i2 : (j : Int) < (xs.length : Int) := by omega
        have c1 := ownsN_cell hown (markedTo_at xs k j hlt)
        have f1 := ownsN_frozen hown j
        have hst := ownsN_store hown j (k + (j : Int))
        rw [markedTo_step xs k j hlt] at hst
        have hg2 := grown_more hgr (grownBy_store wr g j (.int .i64 (k + (j : Int))))
        have HST := Lib.hid hst
        clear hst hown hgr
        go_wp2
        go_roundw
        case rel => exact ⟨j + 1, by omega, by go_num, by simp; omega, HST.out, hg2⟩
        case measure => simp [intOf]; omega
      · obtain rfl : j = xs.length := by omega
        rw [markedTo_all] at hown
        go_wp2
        go_ret
        exact ⟨rfl, hown, hgr⟩
set_option maxRecDepth 100000 in
theorem heldIntS_any (v : Value) (n : Nat) (k : Int) (w : World) (h : Ints w v (marks k n)) (hn : n ≤ 1048576) (k0 : 0 ≤ k) (k1 : k ≤ 1073741824) :
    Calls Tryd.prog 71 #[v, .int .i64 k] w fun e w' => e = .returned (.int .i64 (k + (n : Int))) ∧ w = w' := by
  have H := Lib.hid h
  obtain ⟨a, cap, rfl⟩ := ints_len h
  clear h
  have hl := Lib.hid (marks_length k n)
  rw [hl.out]
  go_enter Tryd.func71, Tryd.ntmps71
  go_wp2
  go_loop [1, 5] (fun m i => ∃ j : Nat, j ≤ n ∧ i = .int .i64 j ∧ m = .int .i64 (k + (j : Int))) (fun _ i => n - (intOf i).toNat)
  case atStart => exact ⟨0, Nat.zero_le _, rfl, by simp⟩
  case round =>
    obtain ⟨j, hj, rfl, rfl⟩ := hrel
    by_cases hlt : j < n
    · obtain ⟨b, off, cap', hv, hbl, hc⟩ := ints_cell H.out (by rw [hl.out]; omega)
      rw [hl.out] at hv hc
      simp only [Value.slice.injEq] at hv
      obtain ⟨rfl, _, rfl⟩ := hv
      have hcell := hc j hlt
      rw [marks_at k n j hlt] at hcell
      have i1 : (0 : Int) ≤ (j : Int) := by omega
      have i2 : (j : Int) < (n : Int) := by omega
      clear hc
      go_wp2
      go_round
      case rel => exact ⟨j + 1, by omega, by go_num, by simp; omega⟩
      case measure => simp [intOf]; omega
    · obtain rfl : j = n := by omega
      go_wp2
      go_ret
      exact ⟨rfl, rfl⟩
end Go.Proofs.YteelgogfpidcdaaDoor
namespace Go.Proofs.YteelgogfpidcdaaDoor
/-- Is the list a set? -/
def SetL (l : List Int) : Prop := (∀ i, i < l.length → 0 ≤ l.getD i 0 ∧ l.getD i 0 ≤ 23) ∧ ∀ i, i + 1 < l.length → l.getD i 0 < l.getD (i + 1) 0
/-- The same as a test. -/
def setB (l : List Int) : Bool := (List.range l.length).all fun i => decide (0 ≤ l.getD i 0) && decide (l.getD i 0 ≤ 23) && (decide (i = 0) || decide (l.getD (i - 1) 0 < l.getD i 0))
theorem setB_iff (l : List Int) : setB l = true ↔ SetL l := by
  unfold setB SetL
  rw [List.all_eq_true]
  simp only [List.mem_range, Bool.and_eq_true, Bool.or_eq_true, decide_eq_true_eq]
  constructor
  · intro h
    refine ⟨fun i hi => (h i hi).1, fun i hi => ?_⟩
    rcases (h (i + 1) hi).2 with h1 | h1
    · omega
    · simpa using h1
  · rintro ⟨h1, h2⟩ i hi
    refine ⟨h1 i hi, ?_⟩
    by_cases e : i = 0
    · exact Or.inl e
    · right
      have := h2 (i - 1) (by omega)
      rwa [show i - 1 + 1 = i by omega] at this
theorem setB_no {l : List Int} (h : ¬ SetL l) : setB l = false := by
  cases e : setB l with
  | false => rfl
  | true => exact absurd ((setB_iff l).1 e) h
/-- As far as k the list is a set. -/
def SetTo (l : List Int) (k : Nat) : Prop := (∀ i, i < k → 0 ≤ l.getD i 0 ∧ l.getD i 0 ≤ 23) ∧ ∀ i, i + 1 < k → l.getD i 0 < l.getD (i + 1) 0
theorem setTo_all (l : List Int) : SetTo l l.length ↔ SetL l := Iff.rfl
theorem setTo_step {l : List Int} {k : Nat} (h : SetTo l k) (h0 : 0 ≤ l.getD k 0) (h1 : l.getD k 0 ≤ 23) (h2 : 0 < k → l.getD (k - 1) 0 < l.getD k 0) : SetTo l (k + 1) := by
  refine ⟨fun i hi => ?_, fun i hi => ?_⟩
  · by_cases e : i = k
    · subst e; exact ⟨h0, h1⟩
    · exact h.1 i (by omega)
  · by_cases e : i + 1 = k
    · subst e; have := h2 (by omega); simpa using this
    · exact h.2 i (by omega)
theorem not_set_range {l : List Int} {k : Nat} (hk : k < l.length) (h : ¬ (0 ≤ l.getD k 0 ∧ l.getD k 0 ≤ 23)) : ¬ SetL l := fun g => h (g.1 k hk)
theorem not_set_order {l : List Int} {k : Nat} (hk : k < l.length) (h0 : 0 < k) (h : ¬ l.getD (k - 1) 0 < l.getD k 0) : ¬ SetL l := fun g => by
  have := g.2 (k - 1) (by omega)
  rw [show k - 1 + 1 = k by omega] at this
  exact h this
theorem member_iff (l : List Int) (x : Int) : x ∈ l ↔ ∃ i, i < l.length ∧ l.getD i 0 = x := by
  constructor
  · intro h
    obtain ⟨i, hi, e⟩ := List.getElem_of_mem h
    exact ⟨i, hi, by simp [List.getD, hi, e]⟩
  · rintro ⟨i, hi, e⟩
    have : l[i] = x := by simpa [List.getD, hi] using e
    rw [← this]; exact List.getElem_mem hi
/-- The union. -/
def uniteL (a b : List Int) : List Int := if setB a && setB b then ((List.range 24).map fun i : Nat => (i : Int)).filter fun x => decide (x ∈ a) || decide (x ∈ b) else []
/-- What both have. -/
def meetL (a b : List Int) : List Int := if setB a && setB b then a.filter fun x => decide (x ∈ b) else []
/-- What the first alone has. -/
def subL (a b : List Int) : List Int := if setB a && setB b then a.filter fun x => !decide (x ∈ b) else []
end Go.Proofs.YteelgogfpidcdaaDoor
namespace Go.Proofs.YteelgogfpidcdaaDoor
open Go.RowKit
set_option linter.unusedVariables false
theorem ret_b {b c : Bool} (h : b = c) : Ending.returned (.bool b) = .returned (.bool c) := by rw [h]
theorem in_yes (a l h : Int) (w : World) (h1 : l ≤ a) (h2 : a ≤ h) : Calls Tryd.prog 35 #[.int .i64 a, .int .i64 l, .int .i64 h] w fun e w' => e = .returned (.bool true) ∧ w' = w := by
  go_enter Tryd.func35, Tryd.ntmps35
  go_wp2
  go_ret
  exact ⟨rfl, rfl⟩
theorem in_no (a l h : Int) (w : World) (hh : ¬ (l ≤ a ∧ a ≤ h)) : Calls Tryd.prog 35 #[.int .i64 a, .int .i64 l, .int .i64 h] w fun e w' => e = .returned (.bool false) ∧ w' = w := by
  by_cases h1 : l ≤ a
  · have h2 : ¬ a ≤ h := by omega
    clear hh
    go_enter Tryd.func35, Tryd.ntmps35
    go_wp2
    go_ret
    exact ⟨rfl, rfl⟩
  · clear hh
    go_enter Tryd.func35, Tryd.ntmps35
    go_wp2
    go_ret
    exact ⟨rfl, rfl⟩
/-! ### HasMember -/
/-! ### IsSet -/
set_option maxHeartbeats 1000000 in
set_option maxRecDepth 100000 in
theorem specIsSetBig (v : Value) (xs : List Int) (w : World) (h : Ints w v xs) (hn : xs.length ≤ 1073741824) :
    Calls Tryd.prog 86 #[v] w fun e w' => e = .returned (.bool (setB xs)) ∧ Below w.heap.size w w' := by
  have H := Lib.hid h
  obtain ⟨a, cap, rfl⟩ := ints_len h
  clear h
  go_enter Tryd.func86, Tryd.ntmps86
  go_wp2
  go_loopw [3] (fun i wr => ∃ k : Nat, k ≤ xs.length ∧ i = .int .i64 k ∧ Hid (SetTo xs k) ∧ Below w.heap.size w wr) (fun i _ => xs.length - (intOf i).toNat)
  case atStart => exact ⟨0, Nat.zero_le _, rfl, Lib.hid ⟨fun i hi => by omega, fun i hi => by omega⟩, Below.refl _ _⟩
  case round =>
    obtain ⟨k, hk, rfl, hset, hbel⟩ := hrel
    by_cases hlt : k < xs.length
    · obtain ⟨b, off, cap', hv, hbl, hc⟩ := ints_cell H.out (by omega)
      simp only [Value.slice.injEq] at hv
      obtain ⟨rfl, _, rfl⟩ := hv
      have hcell := (hbel.cell (p := ⟨b, off + k, none⟩) hbl).trans (hc k hlt)
      have i1 : (0 : Int) ≤ (k : Int) := by omega
      have i2 : (k : Int) < (xs.length : Int) := by omega
      by_cases hin : 0 ≤ xs.getD k 0 ∧ xs.getD k 0 ≤ 23
      · by_cases hz : k = 0
        · have HS : Hid (SetTo xs (k + 1)) := Lib.hid (setTo_step hset.out hin.1 hin.2 (fun g => by omega))
          obtain ⟨g0, g1⟩ := hin
          have hd : decide (0 < k) = false := by simp [hz]
          have hd2 : decide ((0 : Int) < (k : Int)) = false := by simp [hz]
          clear hc hz
          generalize xs.getD k 0 = y at hcell g0 g1
          go_wp2
          go_quiet ((go_at_call 35; exact Calls.quiet_of_same (in_yes _ _ _ _ (by omega) (by omega))))
          go_wp2
          go_roundw
          case rel => exact ⟨k + 1, by omega, by go_num, HS, below_same hbel rfl rfl rfl rfl⟩
          case measure => simp [intOf]; omega
        · have hcellp := (hbel.cell (p := ⟨b, off + (k - 1), none⟩) hbl).trans (hc (k - 1) (by omega))
          obtain ⟨g0, g1⟩ := hin
          have hd : 0 < k := by omega
          have i3 : (0 : Int) ≤ (k : Int) - 1 := by omega
          have i4 : (k : Int) - 1 < (xs.length : Int) := by omega
          have i5 : ((k : Int) - 1).toNat = k - 1 := by omega
          have e1 : IntKind.i64.wrap ((k : Int) - 1) = (k : Int) - 1 := IntWalk.i64_in _ (by omega)
          by_cases hle : xs.getD k 0 ≤ xs.getD (k - 1) 0
          · have HNO := Lib.hid (setB_no (not_set_order hlt hd (by omega)))
            clear hc hz
            generalize xs.getD (k - 1) 0 = z at hcellp hle
            generalize xs.getD k 0 = y at hcell g0 g1 hle
            have hdl : decide (y ≤ z) = true := decide_eq_true hle
            go_wp2
            go_quiet ((go_at_call 35; exact Calls.quiet_of_same (in_yes _ _ _ _ (by omega) (by omega))))
            go_wp2
            go_ret
            exact ⟨ret_b HNO.out.symm, below_same hbel rfl rfl rfl rfl⟩
          · have HS : Hid (SetTo xs (k + 1)) := Lib.hid (setTo_step hset.out g0 g1 (fun _ => by omega))
            clear hc hz
            generalize xs.getD (k - 1) 0 = z at hcellp hle
            generalize xs.getD k 0 = y at hcell g0 g1 hle
            have hdl : decide (y ≤ z) = false := decide_eq_false hle
            go_wp2
            go_quiet ((go_at_call 35; exact Calls.quiet_of_same (in_yes _ _ _ _ (by omega) (by omega))))
            go_wp2
            go_roundw
            case rel => exact ⟨k + 1, by omega, by go_num, HS, below_same hbel rfl rfl rfl rfl⟩
            case measure => simp [intOf]; omega
      · have HNO := Lib.hid (setB_no (not_set_range hlt hin))
        clear hc
        generalize xs.getD k 0 = y at hcell hin
        have HI := Lib.hid hin
        clear hin
        go_wp2
        go_quiet ((go_at_call 35; exact Calls.quiet_of_same (in_no _ _ _ _ HI.out)))
        go_wp2
        go_ret
        exact ⟨ret_b HNO.out.symm, below_same hbel rfl rfl rfl rfl⟩
    · obtain rfl : k = xs.length := by omega
      have HY := Lib.hid ((setB_iff xs).2 hset.out)
      go_wp2
      go_ret
      exact ⟨ret_b HY.out.symm, hbel⟩
theorem specIsSet (v : Value) (xs : List Int) (w : World) (h : Ints w v xs) (hn : xs.length ≤ 1048576) :
    Calls Tryd.prog 86 #[v] w fun e w' => e = .returned (.bool (setB xs)) ∧ Below w.heap.size w w' := specIsSetBig v xs w h (by omega)
end Go.Proofs.YteelgogfpidcdaaDoor
namespace Go.Proofs.YteelgogfpidcdaaDoor
open Go.RowKit
theorem Tryd.infoU8 : (Tryd.prog.info? 5).map (fun i => (i.zero, i.size, i.bytes)) = some (some (.int .u8 0), 1, 1) := by kernel_rfl
theorem ret_strI {xs ys : List Int} (h : xs = ys) : Ending.returned (.string (strOfNums xs)) = .returned (.string (strOfNums ys)) := by rw [h]
/-- The slice v owns the bytes xs. -/
def OwnsB (w : World) (B : Nat) (v : Value) (xs : List Int) : Prop := w.ownsRow B 5 1 v xs.length (xs.map (Value.int .u8))
theorem ownsB_nil (w : World) (B : Nat) : OwnsB w B (.slice none 0 0) [] := World.ownsRow_nil w B _ _
theorem ownsB_lit (w : World) (B : Nat) (hb : B ≤ w.heap.size) (C : Array Value) (n : Nat) (xs : List Int) (hC : C.toList = xs.map (Value.int .u8)) (hn : n = xs.length) (hm : n ≤ maxLen) :
    OwnsB (w.alloc (.cells C 5)) B (.slice (some ⟨w.heap.size, 0, none⟩) n n) xs := by
  subst hn
  have := World.ownsRow_lit (e := 5) (size := 1) w C xs.length hb hm (by have := congrArg List.length hC; simpa using this)
  rw [hC] at this
  exact this
theorem cell_alloc_cells (w : World) (C : Array Value) (t : TypeId) (j : Nat) : (w.alloc (.cells C t)).cell? ⟨w.heap.size, j, none⟩ = C[j]? :=
  World.cell?_alloc_mark w C t (0, 0) j
/-- 'append(out, b..)' where the bytes lie in a block that was just laid. -/
theorem append_bytes {w : World} {ops : Array Oper} {rest : List Oper} {o : Oper} {a : Act} {Q : Exit → Act → World → Prop} (hgd : o.guard = none) (s x : Operand)
    (ho : o.op = .call { callee := .builtin .append, args := #[s, x], argTypes := #[22, 22] })
    (B : Nat) (v : Value) (xs : List Int) (hs : a.eval s = v) (hown : OwnsB w B v xs) (hB : B ≤ w.heap.size)
    (C : Array Value) (ys : List Int) (m c : Nat) (hx : a.eval x = .slice (some ⟨w.heap.size, 0, none⟩) m c) (hC : C.toList = ys.map (Value.int .u8)) (hm : m = ys.length)
    (h63 : xs.length + ys.length ≤ 140737488355328)
    (h : ∀ v' w', OwnsB w' B v' (xs ++ ys) → Below B w w' → wpList Tryd.prog ops Q rest (a.put o.dst v') w') : wpList Tryd.prog ops Q (o :: rest) a (w.alloc (.cells C 5)) := by
  obtain ⟨i0, hi, hz0, hz1, hz2⟩ := info_parts Tryd.infoU8
  subst hm
  refine wpList_append_own _ hgd s x 22 ho B 5 i0 (.int .u8 0) 1 1 Tryd.underlying22 hi hz0 hz1 hz2 rfl (by decide) v xs.length _ hs (hown.alloc _) ⟨w.heap.size, 0, none⟩ ys.length c (ys.map (Value.int .u8)) hx (by simp) ?_ (by intro u hu; simp at hu; obtain ⟨y, _, rfl⟩ := hu; rfl) (by unfold maxLen; omega) (by omega) (by simp; omega) ?_
  · intro j u hj
    have e : (⟨w.heap.size, 0, none⟩ : Addr).add j = ⟨w.heap.size, j, none⟩ := by unfold Addr.add; split <;> simp_all
    rw [e, cell_alloc_cells]
    rw [← hC] at hj
    simpa using hj
  · intro v' w' h1 h2 _
    refine h v' w' ?_ ?_
    · unfold OwnsB
      simpa using h1
    · exact ((Below.refl B w).alloc hB _).grown h2 (by simp; omega) (fun k hk => (hown.lt k hk).1)
/-- The same as a step of a region that draws its order. -/
theorem step_append_bytes {w : World} {ops : Array Oper} {o : Oper} {a : Act} {K : Act → World → Prop} {Q : Exit → Act → World → Prop} {E : Prop} (hgd : o.guard = none) (s x : Operand)
    (ho : o.op = .call { callee := .builtin .append, args := #[s, x], argTypes := #[22, 22] })
    (B : Nat) (v : Value) (xs : List Int) (hs : a.eval s = v) (hown : OwnsB w B v xs) (hB : B ≤ w.heap.size)
    (C : Array Value) (ys : List Int) (m c : Nat) (hx : a.eval x = .slice (some ⟨w.heap.size, 0, none⟩) m c) (hC : C.toList = ys.map (Value.int .u8)) (hm : m = ys.length)
    (h63 : xs.length + ys.length ≤ 140737488355328)
    (h : ∀ v' w', OwnsB w' B v' (xs ++ ys) → Below B w w' → K (a.put o.dst v') w') : if Region.wanted o (yielded ops a.tmps) = true then Oper.wp Tryd.prog o a (w.alloc (.cells C 5)).drew K Q else E := by
  have hw : Region.wanted o (yielded ops a.tmps) = true := by simp [Region.wanted, hgd]
  rw [if_pos hw]
  obtain ⟨i0, hi, hz0, hz1, hz2⟩ := info_parts Tryd.infoU8
  subst hm
  refine wp_append_own _ s x 22 ho B 5 i0 (.int .u8 0) 1 1 Tryd.underlying22 hi hz0 hz1 hz2 rfl (by decide) v xs.length _ hs ((hown.alloc _).drew) ⟨w.heap.size, 0, none⟩ ys.length c (ys.map (Value.int .u8)) hx (by simp) ?_ (by intro u hu; simp at hu; obtain ⟨y, _, rfl⟩ := hu; rfl) (by unfold maxLen; omega) (by omega) (by show B ≤ (w.alloc _).heap.size; simp; omega) ?_
  · intro j u hj
    have e : (⟨w.heap.size, 0, none⟩ : Addr).add j = ⟨w.heap.size, j, none⟩ := by unfold Addr.add; split <;> simp_all
    rw [e]
    show (w.alloc (.cells C 5)).cell? ⟨w.heap.size, j, none⟩ = some u
    rw [cell_alloc_cells]
    rw [← hC] at hj
    simpa using hj
  · intro v' w' h1 h2 _
    refine h v' w' ?_ ?_
    · unfold OwnsB
      simpa using h1
    · exact (((Below.refl B w).alloc hB _).drew).grown h2 (by show B ≤ (w.alloc _).heap.size; simp; omega) (fun k hk => (hown.lt k hk).1)
/-- 'string(out)'. -/
theorem string_owned {w : World} {B : Nat} {v : Value} {xs : List Int} (hown : OwnsB w B v xs) : (convert 22 9 v).run Tryd.prog w = .ok (.string (strOfNums xs)) w := by
  rcases hown.2 with ⟨rfl, h0⟩ | ⟨g, cap, cur, rfl, hb, hg, _⟩
  · have : xs = [] := List.eq_nil_of_length_eq_zero h0
    subst this
    rw [run_convert_bytes_nil w 22 5 Tryd.underlying22 Tryd.underlying5 0 0 9 Tryd.underlying9]
    rfl
  · refine run_convert_bytes_arg w 22 5 Tryd.underlying22 Tryd.underlying5 g 0 xs.length cap xs rfl ?_ 9 Tryd.underlying9
    intro i hi
    have := World.ownsRow.cells hown (g := g) rfl i (.int .u8 (xs.getD i 0)) (by simp [List.getElem?_eq_getElem hi])
    have e : (⟨g, 0, none⟩ : Addr).add i = ⟨g, 0 + i, none⟩ := by unfold Addr.add; split <;> simp_all
    rwa [e] at this
theorem ownsB_below {w w' : World} {B : Nat} {v : Value} {xs : List Int} (h : OwnsB w B v xs) (hb : ∀ k, k < w.heap.size → w'.heap[k]? = w.heap[k]?) : OwnsB w' B v xs := by
  refine ⟨h.1, ?_⟩
  rcases h.2 with hn | ⟨g, cap, cur, rfl, hb', hg, rest⟩
  · exact .inl hn
  · refine .inr ⟨g, cap, cur, rfl, hb', ?_, rest⟩
    rw [hb g (Array.getElem?_eq_some_iff.1 hg).1]
    exact hg
/-- 'string([]byte{x})'. -/
theorem string_lit1 (w : World) (x : Int) : (convert 22 9 (.slice (some ⟨w.heap.size, 0, none⟩) 1 1)).run Tryd.prog (w.alloc (.cells #[.int .u8 x] 5)) = .ok (.string (strOfNums [x])) (w.alloc (.cells #[.int .u8 x] 5)) :=
  string_owned (B := 0) (ownsB_lit w 0 (Nat.zero_le _) #[.int .u8 x] 1 [x] rfl rfl (by decide))
theorem strOfNums_append (xs ys : List Int) : strOfNums xs ++ strOfNums ys = strOfNums (xs ++ ys) := by
  apply ByteArray.ext
  simp [strOfNums]
theorem concat_cons (x : Int) (ys : List Int) (h : ys.length ≤ 1048576) (w : World) : (Op.stringOp .add (strOfNums [x]) (strOfNums ys)).run Tryd.prog w = .ok (.string (strOfNums (x :: ys))) w := by
  rw [run_string_add_sum w _ _ (by rw [strOfNums_size, strOfNums_size]; simp; omega), strOfNums_append]
  rfl
theorem strOfNums_nil : strOfNums [] = ⟨#[]⟩ := rfl
/-- What 'make([]byte, n)' owns. -/
theorem ownsB_made {w : World} {B g n : Nat} (h : w.ownsRow B 5 1 (.slice (some ⟨g, 0, none⟩) n n) n (madeCells #[Value.int .u8 0] n).toList) : OwnsB w B (.slice (some ⟨g, 0, none⟩) n n) (List.replicate n 0) := by
  have e : (madeCells #[Value.int .u8 0] n).toList = List.replicate n (.int .u8 0) := toList_madeCells_one (.int .u8 0) n
  rw [e] at h
  unfold OwnsB
  simpa using h
theorem ownsB_cell {w : World} {B g n cap j : Nat} {xs : List Int} {x : Int} (h : OwnsB w B (.slice (some ⟨g, 0, none⟩) n cap) xs) (hx : xs[j]? = some x) : w.cell? ⟨g, j, none⟩ = some (.int .u8 x) := by
  have := World.ownsRow.cells h (g := g) rfl j (.int .u8 x) (by simp [hx])
  have e : (⟨g, 0, none⟩ : Addr).add j = ⟨g, j, none⟩ := by unfold Addr.add; split <;> simp_all
  rwa [e] at this
theorem ownsB_len {w : World} {B g n cap : Nat} {xs : List Int} (h : OwnsB w B (.slice (some ⟨g, 0, none⟩) n cap) xs) : n = xs.length := by
  rcases h.2 with ⟨h', _⟩ | ⟨_, _, _, h', _⟩
  · simp at h'
  · simp only [Value.slice.injEq] at h'; exact h'.2.1
theorem ownsB_frozen {w : World} {B g n cap : Nat} {xs : List Int} (h : OwnsB w B (.slice (some ⟨g, 0, none⟩) n cap) xs) (j : Nat) : w.frozen? ⟨g, j, none⟩ = false := by
  obtain rfl := ownsB_len h
  exact World.ownsRow.frozenAt h j
theorem ownsB_store {w : World} {B g n cap : Nat} {xs : List Int} (h : OwnsB w B (.slice (some ⟨g, 0, none⟩) n cap) xs) (j : Nat) (x : Int) : OwnsB (w.setCell ⟨g, j, none⟩ (.int .u8 x)) B (.slice (some ⟨g, 0, none⟩) n cap) (xs.set j x) := by
  obtain rfl := ownsB_len h
  have := (World.ownsRow.stored h j (.int .u8 x)).1
  unfold OwnsB
  rw [List.length_set, List.map_set]
  exact this
theorem ownsB_ge {w : World} {B g n cap : Nat} {xs : List Int} (h : OwnsB w B (.slice (some ⟨g, 0, none⟩) n cap) xs) : B ≤ g ∧ g < w.heap.size := h.lt g rfl
end Go.Proofs.YteelgogfpidcdaaDoor
namespace Go.Proofs.YteelgogfpidcdaaDoor
/-- The decimal digits of u. -/
def decI (u : Nat) : List Int := if u < 10 then [48 + (u : Int)] else decI (u / 10) ++ [48 + ((u % 10 : Nat) : Int)]
  termination_by u
  decreasing_by omega
theorem decI_small (u : Nat) (h : u < 10) : decI u = [48 + (u : Int)] := by rw [decI, if_pos h]
theorem decI_big (u : Nat) (h : 10 ≤ u) : decI u = decI (u / 10) ++ [48 + ((u % 10 : Nat) : Int)] := by rw [decI, if_neg (by omega)]
theorem decI_digits (u : Nat) : (decI u).map (fun n => UInt8.ofNat n.toNat) = Lib.decDigits u := by
  induction u using Nat.strongRecOn with
  | _ u ih =>
    by_cases h : u < 10
    · rw [decI_small u h, Lib.decDigits_one h]
      simp only [List.map_cons, List.map_nil]
      rw [show (48 + (u : Int)).toNat = 48 + u by omega]
    · rw [decI_big u (by omega), Lib.decDigits, dif_neg h, List.map_append, ih _ (by omega)]
      simp only [List.map_cons, List.map_nil]
      rw [show (48 + ((u % 10 : Nat) : Int)).toNat = 48 + u % 10 by omega]
theorem str_decI (u : Nat) : strOfNums (decI u) = ⟨(Lib.itoa (u : Int)).toArray⟩ := by
  unfold strOfNums; rw [decI_digits, Lib.itoa_nonneg]
theorem str_decI_neg (u : Nat) (h : 1 ≤ u) : strOfNums (45 :: decI u) = ⟨(Lib.itoa (-(u : Int))).toArray⟩ := by
  unfold strOfNums; rw [List.map_cons, decI_digits, Lib.itoa_neg u h]; rfl
theorem decI_length (u : Nat) (h : u ≤ 9223372036854775808) (h1 : 1 ≤ u) : (decI u).length ≤ 21 := by
  have h2 := Lib.itoa_length_le (-(u : Int)) (by omega) (by omega)
  rw [Lib.itoa_neg u h1, ← decI_digits] at h2
  simp at h2
  omega
/-- What the loop has made of u: xs, and m is left. -/
def DecInv (u m : Nat) (xs : List Int) : Prop := if m = 0 then xs = decI u else decI m ++ xs = decI u
theorem decInv_start (u : Nat) (h : 1 ≤ u) : DecInv u u [] := by unfold DecInv; rw [if_neg (by omega)]; simp
theorem decInv_step {u m : Nat} {xs : List Int} (h : DecInv u m xs) (hm : 1 ≤ m) : DecInv u (m / 10) ((48 + ((m % 10 : Nat) : Int)) :: xs) := by
  unfold DecInv at *
  rw [if_neg (by omega)] at h
  by_cases h10 : m < 10
  · rw [if_pos (by omega), ← h, decI_small m h10, show m % 10 = m by omega]; rfl
  · rw [if_neg (by omega), ← h, decI_big m (by omega)]; simp
theorem decInv_end {u : Nat} {xs : List Int} (h : DecInv u 0 xs) : xs = decI u := by unfold DecInv at h; rwa [if_pos rfl] at h
theorem decInv_len {u m : Nat} {xs : List Int} (h : DecInv u m xs) (hu : u ≤ 9223372036854775808) (h1 : 1 ≤ u) : xs.length ≤ 21 := by
  have h2 := decI_length u hu h1
  unfold DecInv at h
  split at h
  · rw [h]; exact h2
  · rw [← h] at h2; simp at h2; omega
end Go.Proofs.YteelgogfpidcdaaDoor
namespace Go.Proofs.YteelgogfpidcdaaDoor
open Go.RowKit
set_option linter.unusedVariables false
theorem specFmt_zero (w : World) : Calls Tryd.prog 44 #[.int .i64 0] w fun e w' => e = .returned (.string ⟨#[48]⟩) ∧ Below w.heap.size w w' := by
  go_enter Tryd.func44, Tryd.ntmps44
  go_wp2
  go_ret
  exact ⟨rfl, Below.refl _ _⟩
set_option maxRecDepth 100000 in
theorem specFmt_pos (u : Nat) (w : World) (h1 : 1 ≤ u) (h2 : u ≤ 9223372036854775807) : Calls Tryd.prog 44 #[.int .i64 u] w fun e w' => e = .returned (.string (strOfNums (decI u))) ∧ Below w.heap.size w w' := by
  have hcv := string_lit1
  have hz : ((u : Int) == 0) = false := by rw [beq_eq_false_iff_ne]; omega
  have hneg : decide ((u : Int) < 0) = false := by simp
  go_enter Tryd.func44, Tryd.ntmps44
  go_wp2
  go_loopw [0, 3] (fun n s wr => ∃ (m : Nat) (xs : List Int), m ≤ u ∧ n = .int .i64 m ∧ s = .string (strOfNums xs) ∧ Below w.heap.size w wr ∧ Hid (DecInv u m xs)) (fun n _ _ => (intOf n).toNat)
  case atStart => exact ⟨u, [], Nat.le_refl _, rfl, rfl, Below.refl _ _, Lib.hid (decInv_start u h1)⟩
  case round =>
    obtain ⟨m, xs, hm, rfl, rfl, hbel, hinv⟩ := hrel
    have hB := hbel.size
    by_cases hlt : 1 ≤ m
    · have hz : ((m : Int) != 0) = true := by rw [bne_iff_ne]; omega
      have HS := Lib.hid (decInv_step hinv.out hlt)
      have hl := decInv_len hinv.out (by omega) h1
      have hb2 := hbel.alloc hB (.cells #[.int .u8 (48 + (m : Int) % 10)] 5)
      have hadd := concat_cons (48 + (m : Int) % 10) xs (by omega)
      have hml : m / 10 < m := by omega
      go_wp2
      go_roundw
      case rel => exact ⟨m / 10, _, by omega, by go_num, by rfl, hb2, by have := HS.out; simpa using Lib.hid this⟩
      case measure => simp [intOf]; omega
    · obtain rfl : m = 0 := by omega
      have HE := Lib.hid (decInv_end hinv.out)
      go_wp2
      go_ret
      exact ⟨ret_strI HE.out, hbel⟩
set_option maxRecDepth 100000 in
theorem specFmt_neg (u : Nat) (w : World) (h1 : 1 ≤ u) (h2 : u ≤ 9223372036854775808) : Calls Tryd.prog 44 #[.int .i64 (-(u : Int))] w fun e w' => e = .returned (.string (strOfNums (45 :: decI u))) ∧ Below w.heap.size w w' := by
  have hcv := string_lit1
  have hz : ((-(u : Int)) == 0) = false := by rw [beq_eq_false_iff_ne]; omega
  have hneg : decide (0 < u) = true := by simp; omega
  have H2 := Lib.hid h2; clear h2
  go_enter Tryd.func44, Tryd.ntmps44
  go_wp2
  go_loopw [0, 3] (fun n s wr => ∃ (m : Nat) (xs : List Int), m ≤ u ∧ n = .int .i64 (-(m : Int)) ∧ s = .string (strOfNums xs) ∧ Below w.heap.size w wr ∧ Hid (DecInv u m xs)) (fun n _ _ => (-(intOf n)).toNat)
  case atStart => exact ⟨u, [], Nat.le_refl _, rfl, rfl, Below.refl _ _, Lib.hid (decInv_start u h1)⟩
  case round =>
    obtain ⟨m, xs, hm, rfl, rfl, hbel, hinv⟩ := hrel
    have hB := hbel.size
    by_cases hlt : 1 ≤ m
    · have hz : ((-(m : Int)) != 0) = true := by rw [bne_iff_ne]; omega
      have HS := Lib.hid (decInv_step hinv.out hlt)
      have hl := decInv_len hinv.out H2.out h1
      have hml : m / 10 < m := by omega
      have e1 : (-(m : Int)).tmod 10 = -((m : Int) % 10) := by rw [Int.neg_tmod, Int.tmod_eq_emod_of_nonneg (by omega)]
      have e2 : (-(m : Int)).tdiv 10 = -((m : Int) / 10) := by rw [Int.neg_tdiv, Int.tdiv_eq_ediv_of_nonneg (by omega)]
      have hbd : (m : Int) / 10 ≤ 922337203685477580 := by have := H2.out; omega
      by_cases hr : m % 10 = 0
      · have hr' : (m : Int) % 10 = 0 := by omega
        have HX : Hid (DecInv u (m / 10) (48 :: xs)) := Lib.hid (by have := HS.out; rwa [show ((m % 10 : Nat) : Int) = 0 by omega] at this)
        have hadd := concat_cons 48 xs (by omega)
        have hb2 := hbel.alloc hB (.cells #[.int .u8 48] 5)
        rw [hr'] at e1
        clear hr hr' HS
        go_wp2
        go_roundw
        case rel => exact ⟨m / 10, _, by omega, by go_num, by rfl, hb2, HX⟩
        case measure => simp [intOf]; omega
      · have hr' : 0 < (m : Int) % 10 := by omega
        have hadd := concat_cons (48 + (m : Int) % 10) xs (by omega)
        have hb2 := hbel.alloc hB (.cells #[.int .u8 (48 + (m : Int) % 10)] 5)
        clear hr
        go_wp2
        go_roundw
        case rel => exact ⟨m / 10, _, by omega, by go_num, by rfl, hb2, by have := HS.out; simpa using Lib.hid this⟩
        case measure => simp [intOf]; omega
    · obtain rfl : m = 0 := by omega
      have HE := Lib.hid (decInv_end hinv.out)
      have hl := decInv_len hinv.out H2.out h1
      have hadd := concat_cons 45 xs (by omega)
      have hadd' : ∀ w, (Op.stringOp .add ⟨#[45]⟩ (strOfNums xs)).run Tryd.prog w = .ok (.string (strOfNums (45 :: xs))) w := hadd
      go_wp2
      go_ret
      exact ⟨ret_strI (by rw [HE.out]), hbel⟩
theorem specFmt (n : Int) (w : World) (h0 : -9223372036854775808 ≤ n) (h1 : n ≤ 9223372036854775807) : Calls Tryd.prog 44 #[.int .i64 n] w fun e w' => e = .returned (.string ⟨(Lib.itoa n).toArray⟩) ∧ Below w.heap.size w w' := by
  by_cases hz : n = 0
  · subst hz; rw [show Lib.itoa 0 = [48] by unfold Lib.itoa; rw [if_neg (by decide)]; exact Lib.decDigits_one (by decide)]; exact specFmt_zero w
  · by_cases hp : 0 < n
    · obtain ⟨u, rfl⟩ := Int.eq_ofNat_of_zero_le (show 0 ≤ n by omega)
      rw [← str_decI]; exact specFmt_pos u w (by omega) (by omega)
    · obtain ⟨u, hu⟩ := Int.eq_ofNat_of_zero_le (show 0 ≤ -n by omega)
      obtain rfl : n = -(u : Int) := by omega
      rw [← str_decI_neg u (by omega)]; exact specFmt_neg u w (by omega) (by omega)
/-- The library's table reads as its text lays it. -/
def Tab (w : World) : Prop := Lib.TabIs Tryd.prog w "internal/strconv.uint64pow10" .u64 Lib.pow10Tab
theorem Tab.on {w w' : World} (h : Tab w) (hb : Below w.heap.size w w') : Tab w' := Lib.tabBelow_of_tabIs h w' hb
theorem implFmt (n : Int) (w : World) (h0 : -9223372036854775808 ≤ n) (h1 : n ≤ 9223372036854775807) (htab : Tab w) : Calls Tryd.prog 56 #[.int .i64 n] w fun e w' => e = .returned (.string ⟨(Lib.itoa n).toArray⟩) ∧ Below w.heap.size w w' := by
  have H := Lib.hid htab; clear htab
  go_enter Tryd.func56, Tryd.ntmps56
  go_wp2_with (go_at_call 90; refine (Tryd.strconv_Itoa n h0 h1 _ H.out).mono ?_; rintro e w' ⟨rfl, k, os, rfl⟩)
  go_ret
  exact ⟨rfl, Lib.below_grow _ _ (Nat.le_refl _) k os⟩
end Go.Proofs.YteelgogfpidcdaaDoor
namespace Go.Proofs.YteelgogfpidcdaaDoor
/-- The runs of adjacent numbers. -/
def runs : List Int → List (Int × Int)
  | [] => []
  | x :: r => match runs r with
    | [] => [(x, x)]
    | (a, b) :: t => if a = x + 1 then (x, b) :: t else (x, x) :: (a, b) :: t
theorem runs_cons (x : Int) (r : List Int) : ∃ b t, runs (x :: r) = (x, b) :: t := by
  simp only [runs]
  split
  · exact ⟨x, [], rfl⟩
  · split
    · exact ⟨_, _, rfl⟩
    · exact ⟨_, _, rfl⟩
theorem runs_join {x y : Int} {r : List Int} {b : Int} {t : List (Int × Int)} (h : y = x + 1) (e : runs (y :: r) = (y, b) :: t) : runs (x :: y :: r) = (x, b) :: t := by
  rw [runs, e]; simp only [if_pos h]
theorem runs_part {x y : Int} {r : List Int} (h : y ≠ x + 1) : runs (x :: y :: r) = (x, x) :: runs (y :: r) := by
  obtain ⟨b, t, e⟩ := runs_cons y r
  rw [runs, e]; simp only [if_neg h]
/-- The greatest run that begins at i ends at i + n. -/
theorem run_max (l : List Int) : ∀ (n i : Nat), i + n < l.length → (∀ j, j < n → l.getD (i + j + 1) 0 = l.getD (i + j) 0 + 1) → (i + n + 1 < l.length → l.getD (i + n + 1) 0 ≠ l.getD (i + n) 0 + 1) →
    runs (l.drop i) = (l.getD i 0, l.getD (i + n) 0) :: runs (l.drop (i + n + 1)) := by
  have hd : ∀ i, i < l.length → l.drop i = l.getD i 0 :: l.drop (i + 1) := by
    intro i hi
    rw [List.drop_eq_getElem_cons hi]; simp [List.getD, hi]
  intro n
  induction n with
  | zero =>
    intro i hi _ hm
    rw [hd i (by omega)]
    by_cases h1 : i + 1 < l.length
    · rw [show i + 0 + 1 = i + 1 from rfl, hd (i + 1) h1]
      rw [runs_part (by simpa using hm (by omega))]
      rfl
    · rw [List.drop_eq_nil_of_le (show l.length ≤ i + 1 by omega)]
      rfl
  | succ n ih =>
    intro i hi hc hm
    have h1 := ih (i + 1) (by omega) (fun j hj => by have := hc (j + 1) (by omega); rw [show i + 1 + j + 1 = i + (j + 1) + 1 by omega, show i + 1 + j = i + (j + 1) by omega]; exact this)
      (fun hl => by rw [show i + 1 + n + 1 = i + (n + 1) + 1 by omega, show i + 1 + n = i + (n + 1) by omega]; exact hm (by omega))
    have h0 := hc 0 (by omega)
    rw [hd i (by omega), hd (i + 1) (by omega)]
    rw [hd (i + 1) (by omega)] at h1
    rw [runs_join (by simpa using h0) h1, show i + 1 + n = i + (n + 1) by omega]
/-- The text of a run. -/
def runText (r : Int × Int) : List UInt8 := if r.1 = r.2 then Lib.itoa r.1 else Lib.itoa r.1 ++ 45 :: Lib.itoa r.2
/-- The texts of runs behind the text s. -/
def glue (s : List UInt8) : List (Int × Int) → List UInt8
  | [] => s
  | r :: t => glue ((if s = [] then s else s ++ [32]) ++ runText r) t
/-- FormatSet of a set. -/
def fmtRuns (l : List Int) : List UInt8 := if l = [] then [110, 111, 110, 101] else glue [] (runs l)
theorem itoa_ne (n : Int) : Lib.itoa n ≠ [] := by
  unfold Lib.itoa
  split
  · simp
  · unfold Lib.decDigits; split <;> simp
theorem runText_ne (r : Int × Int) : runText r ≠ [] := by
  unfold runText; split
  · exact itoa_ne _
  · simp
theorem runText_len (r : Int × Int) (h1 : -9223372036854775808 ≤ r.1 ∧ r.1 ≤ 9223372036854775807) (h2 : -9223372036854775808 ≤ r.2 ∧ r.2 ≤ 9223372036854775807) : (runText r).length ≤ 43 := by
  have a := Lib.itoa_length_le r.1 h1.1 h1.2
  have b := Lib.itoa_length_le r.2 h2.1 h2.2
  unfold runText; split
  · omega
  · simp; omega
/-- n numbers from f on. -/
def upN (f : Int) (n : Nat) : List Int := (List.range n).map (fun (i : Nat) => f + (i : Int))
theorem upN_len (f : Int) (n : Nat) : (upN f n).length = n := by simp [upN]
theorem upN_succ (f : Int) (n : Nat) : upN f (n + 1) = upN f n ++ [f + (n : Int)] := by simp [upN, List.range_succ]
end Go.Proofs.YteelgogfpidcdaaDoor
